/- Part 9 of the walk. -/
import Derived.Test.YtngmpodijpelnaaGreatDoorZ8
set_option maxRecDepth 100000
set_option maxHeartbeats 4000000
open Go.Proofs.Tryz
set_option linter.unusedVariables false
namespace Go.Proofs.YtngmpodijpelnaaGreatDoor
section
open Go.RowKit
section
variable{W w:World}{g:Gh}{i k nb ob:Nat}{ls:List Let}{p:Nod}{ts:List Tol}{vs:List Value}{x:S3}
theorem NI{v:Vt}(h:NS i nb ob g w p ls ts){D:World}(I:Base D g w)(J:Tabs D)(M:i<5)(K:ls.length<90000000){a d:Nat}(y:Box g w a #[pt nb 0] 117)(A:Box g w d #[iv v.bu,iv v.b.r,iv v.b.n,iv v.w.k,iv v.w.c,iv v.w.s,iv v.w.n,iv v.w.v] 181)(q:p.ae.length<=40) :
  Calls prog 142 #[pt a 0,pt d 0] w (NP i nb ob g w (.tuple #[]) (p.count i v) (ls++BX i { BD 3 with dT:=v } 5) ts):=by
 obtain⟨x,lt,Z,B,C,L⟩:=h;refine gI (fn:=f142) (TN i) g func142 L (qN B (qO C (Ct ⟨a,.cells #[pt nb 0] 117,.z,false⟩ (λ_=>⟨y.r,y.z,λh=>(by cases h),λh=>absurd rfl h⟩) (by kernel_rfl) ?_)));refine Ct ⟨d,.cells #[iv v.bu,iv v.b.r,iv v.b.n,iv v.w.k,iv v.w.c,iv v.w.s,iv v.w.n,iv v.w.v] 181,.z,false⟩ (λ_=>⟨A.r,A.z,λh=>(by cases h),λh=>absurd rfl h⟩) (by kernel_rfl) ?_;refine qR [] 8 [6,0,2,2,2,4,6,8,0,10,3] λW R w1 e=>qS 6 [false,false,true,true] B C e (λE=>Oi E (I.ch (e.nil (TN i)) (By i)) J i M v q) λS w2 x2 N P j m G=>qR [] 5 [0,1] λX T w4 t=>qS 3 [true,true,false,false] j m t (λF=>EH F K { BD 3 with dT:=v } s30 s30 ⟨Sv.nil _,λh=>absurd rfl h⟩ (Rc.nil _ _)) λU w5 x5 O Q l o H=>qR [] 1 [] λY V w7 u=>qF l o u (((((e.nil (TN i)).trans (G)).n t).trans (H)).n u)
theorem Tk{b:Bal}{C:List Vt}{j:S3}(h:NS i nb ob g w p ls ts){H:World}(N:Base H g w)(O:Tabs H)(R:i<5)(P:ls.length<90000000){k l m:Nat}(a:Box g w k #[pt nb 0] 117)(F:Box g w l #[iv b.r,iv b.n] 122)(G:Box g w m #[S3.v j] 123)(S:FSv g w j C)(B:(p.bn.an i).vs.length<100000000) :
  Calls prog 93 #[pt k 0,pt l 0,pt m 0] w (NP i nb ob g w (.tuple #[]) (if p.vo.p≠b then p else{ p with bn:=p.bn.sG i C }) (if p.vo.p≠b then ls else(ls++BX i { BD 0 with hZ:=b } 5)) ts):=by
 obtain⟨x,lt,tl,o,t,Q⟩:=h;refine gI (fn:=f93) (TN i) g func93 Q (qN o (qO t (Ct ⟨k,.cells #[pt nb 0] 117,.z,false⟩ (λ_=>⟨a.r,a.z,λh=>(by cases h),λh=>absurd rfl h⟩) (by kernel_rfl) ?_)));refine Ct ⟨l,.cells #[iv b.r,iv b.n] 122,.z,false⟩ (λ_=>⟨F.r,F.z,λh=>(by cases h),λh=>absurd rfl h⟩) (by kernel_rfl) ?_;refine Ct ⟨m,.cells #[S3.v j] 123,.z,false⟩ (λ_=>⟨G.r,G.z,λh=>(by cases h),λh=>absurd rfl h⟩) (by kernel_rfl) ?_;refine qR [] 10 [8,0,2,2,4,6,8,10,0,12,3] λs1 Y w1 c=>?_;by_cases a:p.vo.p≠b
 .refine qT 7 (.bool true) (λ_=>(IY (x:=(.tmp 8)) (y:=(.tmp 9)) p.vo.p b a)) (qR [] 2 [] λs2 Z w2 D=>?_);rw[if_pos a,if_pos a];exact qF o t (c.n D) ((c.nil (TN i)).n D)
 .have h10:p.vo.p=b:=by simpa using a
  refine qT 7 (.bool false) (λ_=>(IX (x:=(.tmp 8)) (y:=(.tmp 9)) p.vo.p b h10)) ?_;rw[if_neg a,if_neg a];refine qR [] 14 [9,0,2,2,4,6,8,2,10,12,14,0,16,4] λs4 g4 w4 e=>qS 9 [false,false,true,true,true] o t (c.n e) (λI=>QN I (N.ch ((c.nil (TN i)).n e) (By i)) O i R C j (S.ch ((c.nil (TN i)).n e) (By i)) B) λg5 w5 x5 T V q u K=>qR [] 5 [0,1] λs7 g7 w7 E=>qS 3 [true,true,true,false,false] q u E (λJ=>EH J P { BD 0 with hZ:=b } s30 s30 ⟨Sv.nil _,λh=>absurd rfl h⟩ (Rc.nil _ _)) λg8 w8 x8 lt8 W s A L=>qR [] 1 [] λU M X d=>qF s A d ((((((c.nil (TN i)).n e).trans (K)).n E).trans (L)).n d)
def Nod.ic(p:Nod)(i:Nat):Pend->Nod
 | .began b vs=>if p.vo.p≠b then p else{ p with bn:=p.bn.sG i vs }
 | .prop v=>p.count i v
 | _=>p
def Nod.rk(p:Nod)(i:Nat):Pend->List Let
 | .began b vs=>if p.vo.p≠b then[]else BX i { BD 0 with hZ:=b } 5
 | .prom to b vs=>[{ BD 1 with hZ:=b,lp:=vs,hU:=p.ae,src:=i,dst:=to }]
 | .voted to v=>[{ BD 4 with dT:=v,src:=i,dst:=to }]
 | .fa to b=>[{ BD 2 with hZ:=b,src:=i,dst:=to }]
 | .prop v=>BX i { BD 3 with dT:=v } 5
 | .askNews to=>[{ BD 6 with bu:=p.ae.length,src:=i,dst:=to }]
 | .start=>BX i (BD 6) 5
 | .tell to bu=>[{ BD 5 with src:=i,dst:=to,bu:=bu,hU:=p.ae.drop bu }]
def RV(p:Nod)(i:Nat):Pend->Prop
 | .began _ _=>(p.bn.an i).vs.length<100000000
 | .prop _=>p.ae.length<=40
 | .tell _ bu=>bu<=p.ae.length
 | _=>True
theorem gh{P:Program}{s:Xs}{S:Sem Next}{r:Result Next}(h:D3 s i=some S)(a:S.run P W=r):Dj P s i W=some r:=by
 unfold Dj;unfold D3 at h;cases hx:opN s i with
 | none=>rw[hx]at h;cases h
 | some x =>
  rw[hx]at h
  simp only[om,Z']at h ⊢;rw[h,a]
theorem Hl(h:NS i nb ob g w p ls ts){z:World}(s:Base z g w)(t:Tabs z)(y:i<5)(f:ls.length<90000000){v:Value}(q:Pend)(o:RV p i q)(j:Ln g w nb v q) :
  ∃ (F:FuncId) (cs:Array Value),v=.func (.func F) #[] cs/\(∀ W,(Go.callFunc F (#[]++cs)).run prog W=.ok (.enter F cs) W)/\Calls prog F cs w (NP i nb ob g w (.tuple #[]) (p.ic i q) (ls++p.rk i q) ts):=by
 cases q with
 | began b vs =>
  obtain⟨k,b2,b3,x,e,a,c,d,n⟩:=j;refine⟨_,_,e,λW=>by kernel_rfl,?_⟩;have:=Tk h s t y f a c d n o;unfold Nod.ic Nod.rk;by_cases m:p.vo.p≠b
  .rw[if_pos m,if_pos m]at this;simp only[if_pos m,nA];exact this
  .rw[if_neg m,if_neg m]at this;simp only[if_neg m];exact this
 | prom to b vs =>
  obtain⟨k,b2,b3,x,r,l,e,a,c,d,n,A,rfl,rfl⟩:=j;exact⟨_,_,e,λW=>(by kernel_rfl),Hu h f a c d A n⟩
 | voted to u =>
  obtain⟨k,b2,r,l,e,a,c,d,rfl,rfl⟩:=j;exact⟨_,_,e,λW=>(by kernel_rfl),Ir (b3:=0) h f a c d⟩
 | fa to b =>
  obtain⟨k,b2,b3,e,a,c,d⟩:=j;exact⟨_,_,e,λW=>(by kernel_rfl),PK h f a c d⟩
 | prop u =>
  obtain⟨k,b2,e,a,c⟩:=j;exact⟨_,_,e,λW=>(by kernel_rfl),NI h s t y f a c o⟩
 | askNews to =>
  obtain⟨k,b2,r,l,e,a,c,d,rfl⟩:=j;exact⟨_,_,e,λW=>(by kernel_rfl),MX (b3:=0) h f a c d⟩
 | start =>
  obtain⟨k,e,a⟩:=j;exact⟨_,_,e,λW=>(by kernel_rfl),R9 (b2:=0) (b3:=0) h f a⟩
 | tell to bu =>
  obtain⟨k,b2,r,l,e,a,c,d,rfl,rfl⟩:=j;exact⟨_,_,e,λW=>(by kernel_rfl),JX (b3:=0) h f a c d o⟩
structure FzL(g:Gh)(w:World)(x:S3)(vs:List Value):Prop where
 n:x.n=vs.length
 at_:∀ j u,vs[j]?=some u->∃ b,x.a=some ⟨b,0,none⟩/\b<w.heap.size/\j<g.k b/\w.cell? ⟨b,j,none⟩=some u
theorem OwnS.fz{τ:Tg}{e:TypeId}(h:OwnS g w τ true e 1 x vs):FzL g w x vs:=by
 refine⟨by have:=h.len;omega,λj u d=>?_⟩;obtain⟨b,a,f,i⟩:=h.cell d;have c:j<vs.length:=(V'.1 d).1;refine⟨b,a,f,?_,i⟩;rcases h.ex with⟨h4,_⟩|⟨b',cur,h4,_,_,_,_,_,_,h8⟩
 .rw[h4]at a;cases a
 .rw[a]at h4
  simp only[Z',Addr.mk.injEq,and_true]at h4;subst h4;rw[h8,if_pos rfl];exact c
theorem FzL.ch{B:Nat}{T:List Tg}{d:Gh}{f:World}(h:FzL g w x vs)(c:Cg B T g w d f):FzL d f x vs :=
 ⟨h.n,λj u m=>by
  obtain⟨b,i,a,e,k⟩:=h.at_ j u m;exact⟨b,i,X' a c.size,X' e (c.sS b a),(c.sR b a j e).trans k⟩⟩
theorem gx{b c:Nat}(d:x.a=some ⟨b,c,none⟩)(j:Nat)(f:j<x.n):(Instr.indexAt 126 x.v (iv (j:Int))).run prog W=.ok (pt b (c+1*j)) W:=by
 unfold S3.v;rw[d];exact NK (P:=prog) (e:=1) (z:=1) underlying126 (by kernel_rfl) (by kernel_rfl) f _ rfl
def ov(i:Nat):List Pend->Nod->List Let->Nod × List Let
 | [],p,ls=>(p,ls)
 | q::l,p,ls=>ov i l (p.ic i q) (ls++p.rk i q)
def GY(i:Nat):List Pend->Nod->List Let->Prop
 | [],_,_=>True
 | q::l,p,ls=>RV p i q/\ls.length<90000000/\GY i l (p.ic i q) (ls++p.rk i q)
def Nod.sC(p:Nod):Nod:=if p.sy<(p.d.length:Int)then{ p with d:=Ht p.d p.sy,sy:=Ip p.d p.sy }else p
theorem Q5{l:List Pend}{j:Nat}{c:Pend}(h:l[j]?=some c):l.drop j=c::l.drop (j+1):=by
 obtain⟨a,b⟩:=V'.1 h;rw[<- b];exact oz a
theorem fD(h:NS i nb ob g w p ls ts){w0:World}(hB:Base w0 g w)(hT:Tabs w0)(hi:i<5)(Y:GY i p.bw { p.sC with bw:=[] } ls)(f5:p.bw.length<100000000) :
  Calls prog 99 #[pt nb 0] w (NP i nb ob g w (.tuple #[]) (if p.sy<(p.d.length:Int)/\Df p.d p.sy≠0 then(p,ls)else ov i p.bw { p.sC with bw:=[] } ls).1 (if p.sy<(p.d.length:Int)/\Df p.d p.sy≠0 then(p,ls)else ov i p.bw { p.sC with bw:=[] } ls).2 ts):=by
 obtain⟨x,lt,tl,m,hO,hg⟩:=h;have f7:x.tape.n=p.d.length:=by obtain⟨a,e6,hh⟩:=m.tape.s.sH;have:=m.tape.s.len;simp only[S3.v,Value.slice.injEq]at hh;exact hh.2.1
 refine gI (fn:=f99) (TN i) g func99 hg (qN m (qO hO ?_));obtain⟨pv,hP,I⟩:=m.bw;have hF:=hP.fz;have f6:x.synced.n=p.bw.length:=by rw[hF.n];exact I.len
 refine qR [] 16 [12,0,2,4,6,8,0,10,12,14,16,18,0,20,22] λs1 g1 w1 c1=>?_;by_cases h1:p.sy<(x.tape.n:Int)
 .refine qI ((decide (p.sy<(x.tape.n:Int)))) true (P' (by omega)) (qR [] 6 [0] λs2 g2 w2 c2=>Af λKq=>?_);have hS:=(m.tape.ch (c1.trans c2)).s;have hG:∀ z,w2.heap.size<=z->g2.t z=.z:=λz hz=>(Kq.new z hz).1;refine qC 4 (fC (s:=p.sy) hS) ?_;rintro e' w3 ⟨tz,rfl,b4,d6,b3⟩;refine⟨_,rfl,b3,?_⟩;have c3:=Cg.ew (B:=w.heap.size) (T:=[]) (g:=g2) b3;have f8:=FY b4;have d7:FSl _ _ tz _:=⟨b4,λhl a ha=>hG _ (d6 hl a ha)⟩;refine qR [] 13 [0,0,2,0] λs4 g4 w4 c4=>?_;by_cases E:Df p.d p.sy≠0
  .refine qI (((Df p.d p.sy) != 0)) true (by simpa using E) (qE (.tuple #[]) λK=>?_);rw[if_pos ⟨by omega,E⟩];exact⟨_,rfl,(nsC m hO (((c1.n c2).n c3).n c4) K),((((c1.nil (TN i)).n c2).n c3).n c4)⟩
  .refine qI (((Df p.d p.sy) != 0)) false (by simpa using E) ?_;have O:p.sC={ p with d:=Ht p.d p.sy,sy:=Ip p.d p.sy }:=if_pos (by omega);rw[show(if p.sy<(p.d.length:Int)/\Df p.d p.sy≠0 then(p,ls)else ov i p.bw { p.sC with bw:=[] } ls)=ov i p.bw ({ p with d:=Ht p.d p.sy,sy:=Ip p.d p.sy,bw:=[] }:Nod) ls from by rw[if_neg (by rintro⟨_,h⟩;exact E h),O]];rw[show{ p.sC with bw:=[] }=({ p with d:=Ht p.d p.sy,sy:=Ip p.d p.sy,bw:=[] }:Nod)from by rw[O]]at Y
   refine qR [.n 0 i] 32 [2,0,1,0,0,1] λs7 g7 w7 c7=>I9 [true,true,false] ?_;refine Ci 51 [(42,S3.v x.synced),(43,iv (x.synced.n:Int)),(44,iv 0)] [false,false] [] (λk g' w' e L=>∃ (j:Nat) (q:Nod) (l2:List Let),k=p.bw.length-j/\j<=p.bw.length/\e=[(42,S3.v x.synced),(43,iv (x.synced.n:Int)),(44,iv (j:Int))]/\L=[]/\NS i nb ob g' w' q l2 ts/\ov i (p.bw.drop j) q l2=ov i p.bw ({ p with d:=Ht p.d p.sy,sy:=Ip p.d p.sy,bw:=[] }:Nod) ls/\GY i (p.bw.drop j) q l2/\Cg w.heap.size (TN i) g w g' w') (by kernel_rfl) (by kernel_rfl) (by kernel_rfl) (by kernel_rfl) p.bw.length (λK=>?_) ?_
   .have C8:=((((c1.nil ([.n 0 i]:List Tg)).n c2).n c3).n c4).trans (c7);have Z8:Tg.z∉([.n 0 i]:List Tg):=by simp
    exact⟨0,({ p with d:=Ht p.d p.sy,sy:=Ip p.d p.sy,bw:=[] }:Nod),ls,rfl,by omega,rfl,rfl,⟨({ x with tape:=tz,synced:=s30 }:NX),lt,tl,K.nd 0 ((d7.ch c4).ch c7) (m.lp.ch C8 Z8) (BA m.an C8 Z8) ⟨[],OwnS.nil _ _ _ _ _ _,⟨rfl,λk v q h=>by cases h⟩⟩ (m.gC.ch C8) (m.ae.ch C8) (m.au.ch C8) (m.cl.ch C8) m.sZ,hO.ch C8 Z8 (by simp<;>omega),K.new⟩,rfl,Y,(((((c1.nil (TN i)).n c2).n c3).n c4).trans (c7.mono (by simp[TN])))⟩
   .rintro k gr wr _ zr _ ⟨j,q,l2,rfl,hj,rfl,rfl,hM,hI,hK,hC⟩ J hJ;obtain⟨xr,d8,d9,o,r,d4⟩:=id hM;refine qN o (qO r (qR [] 5 [] λs9 g9 w9 Q=>?_));by_cases h5:j<p.bw.length
    .refine qI ((decide ((j:Int)<(x.synced.n:Int)))) true (P' (by omega)) ?_;obtain⟨D,N⟩:∃ D,p.bw[j]?=some D:=⟨_,G' h5⟩;obtain⟨v,hv⟩:∃ v,pv[j]?=some v:=⟨_,G' (by rw[I.len];exact h5)⟩;rw[Q5 N]at hI hK
     obtain⟨G,H,a1⟩:=hK;have F:=hF.ch hC;obtain⟨bx,P,d2,d5,d3⟩:=F.at_ j v hv;have M:=(I.at_ j v D hv N).ch hC (By i);refine qR [] 5 [] λf9 c0 e0 u=>qV 0 (pt bx (0+1*j)) (gx P j (by omega)) (Af λK=>?_);have b5:NS i nb ob c0 e0 q l2 ts:=(nsC o r (Q.n u) K);obtain⟨Z,A,e2,a2,_⟩:=Hl b5 (hB.ch (((hC.n Q).n u)) (By i)) hT hi H D G (M.ch ((Q.nil (TN i)).n u) (By i));subst e2;have a0:=F.ch (Q.trans u);refine qV 1 (.func (.func Z) #[] A) (D2 (ty:=1) (b:=bx) (k:=0+1*j) (v:=.func (.func Z) #[] A) underlying1 rfl (by rw[nV,sx];obtain⟨b2,E,_,_,h4⟩:=a0.at_ j _ hv;rw[P]at E;simp only[Z',Addr.mk.injEq,and_true]at E;subst E;exact h4)) (qR [] 4 [] λg0 c5 e1 S=>Af λK=>?_);have b6:NS i nb ob c5 e1 q l2 ts:=(nsC o r ((Q.n u).n S) K);obtain⟨F3,b9,e3,_,C⟩:=Hl b6 (hB.ch ((((hC.n Q).n u).n S)) (By i)) hT hi H D G (M.ch (((Q.nil (TN i)).n u).n S) (By i));simp only[Value.func.injEq,Fn.func.injEq,true_and]at e3;obtain⟨rfl,rfl⟩:=e3;refine SO 1 Z A (TN i) [false,false] (λW=>gh (by kernel_rfl) (a2 W)) (by kernel_rfl) (by kernel_rfl) (by kernel_rfl) C ?_;rintro e' i0 ⟨c6,rfl,a3,U⟩;refine⟨_,c6,rfl,U,a3.new,?_⟩;replace U:=U.ret (B:=w.heap.size);refine qR [] 3 [] λg3 e7 i1 a5=>qV 0 (iv ((j:Int)+1)) (Bk 44 (j:Int) underlying3 (by omega)) (qR [] 2 [] λg5 e8 i2 a6=>qB [] λz K0 K=>hJ (p.bw.length-(j+1)) _ _ _ z _ (by omega) ⟨j+1,q.ic i D,l2++q.rk i D,rfl,by omega,rfl,rfl,NS.sF a3 (a5.trans a6) K0.new,hI,a1,((((((hC.n Q).n u).n S).trans U).n a5).n a6)⟩ K)
    .refine qI ((decide ((j:Int)<(x.synced.n:Int)))) false (H' (by omega)) (qR [] 1 [] λg6 e9 i3 a7=>?_);obtain rfl:j=p.bw.length:=by omega
     rw[pj]at hI
     rw[<- hI];exact qF o r (Q.n a7) ((hC.n Q).n a7)
 .refine qI ((decide (p.sy<(x.tape.n:Int)))) false (H' (by omega)) ?_;have O:p.sC=p:=if_neg (by omega);rw[show(if p.sy<(p.d.length:Int)/\Df p.d p.sy≠0 then(p,ls)else ov i p.bw { p.sC with bw:=[] } ls)=ov i p.bw ({ p with bw:=[] }:Nod) ls from by rw[if_neg (by rintro⟨h,_⟩;omega),O]];rw[show{ p.sC with bw:=[] }=({ p with bw:=[] }:Nod)from by rw[O]]at Y
  refine qR [.n 0 i] 25 [0,0,1] λg8 f0 i4 a8=>Ci 51 [(42,S3.v x.synced),(43,iv (x.synced.n:Int)),(44,iv 0)] [false,false] [] (λk g' w' e L=>∃ (j:Nat) (q:Nod) (l2:List Let),k=p.bw.length-j/\j<=p.bw.length/\e=[(42,S3.v x.synced),(43,iv (x.synced.n:Int)),(44,iv (j:Int))]/\L=[]/\NS i nb ob g' w' q l2 ts/\ov i (p.bw.drop j) q l2=ov i p.bw ({ p with bw:=[] }:Nod) ls/\GY i (p.bw.drop j) q l2/\Cg w.heap.size (TN i) g w g' w') (by kernel_rfl) (by kernel_rfl) (by kernel_rfl) (by kernel_rfl) p.bw.length (λK=>?_) ?_
  .have C22:=(c1.nil ([.n 0 i]:List Tg)).trans (a8);have R:Tg.z∉([.n 0 i]:List Tg):=by simp
   exact⟨0,({ p with bw:=[] }:Nod),ls,rfl,by omega,rfl,rfl,⟨({ x with synced:=s30 }:NX),lt,tl,K.nd 0 (m.tape.ch C22 R) (m.lp.ch C22 R) (BA m.an C22 R) ⟨[],OwnS.nil _ _ _ _ _ _,⟨rfl,λk v q h=>by cases h⟩⟩ (m.gC.ch C22) (m.ae.ch C22) (m.au.ch C22) (m.cl.ch C22) m.sZ,hO.ch C22 R (by simp<;>omega),K.new⟩,rfl,Y,((c1.nil (TN i)).trans (a8.mono (by simp[TN])))⟩
  .rintro k gr wr _ zr _ ⟨j,q,l2,rfl,hj,rfl,rfl,hM,hI,hK,hC⟩ J hJ;obtain⟨xr,d8,d9,o,r,d4⟩:=id hM;refine qN o (qO r (qR [] 5 [] λh0 f1 i5 c=>?_));by_cases h5:j<p.bw.length
   .refine qI ((decide ((j:Int)<(x.synced.n:Int)))) true (P' (by omega)) ?_;obtain⟨D,N⟩:∃ D,p.bw[j]?=some D:=⟨_,G' h5⟩;obtain⟨v,hv⟩:∃ v,pv[j]?=some v:=⟨_,G' (by rw[I.len];exact h5)⟩;rw[Q5 N]at hI hK
    obtain⟨G,H,a1⟩:=hK;have F:=hF.ch hC;obtain⟨bx,P,d2,d5,d3⟩:=F.at_ j v hv;have M:=(I.at_ j v D hv N).ch hC (By i);refine qR [] 5 [] λh3 c8 e4 y=>qV 0 (pt bx (0+1*j)) (gx P j (by omega)) (Af λK=>?_);have b7:NS i nb ob c8 e4 q l2 ts:=(nsC o r (c.n y) K);obtain⟨Z,A,e2,a2,_⟩:=Hl b7 (hB.ch (((hC.n c).n y)) (By i)) hT hi H D G (M.ch ((c.nil (TN i)).n y) (By i));subst e2;have a0:=F.ch (c.trans y);refine qV 1 (.func (.func Z) #[] A) (D2 (ty:=1) (b:=bx) (k:=0+1*j) (v:=.func (.func Z) #[] A) underlying1 rfl (by rw[nV,sx];obtain⟨b2,E,_,_,h4⟩:=a0.at_ j _ hv;rw[P]at E;simp only[Z',Addr.mk.injEq,and_true]at E;subst E;exact h4)) (qR [] 4 [] λh6 d0 e5 V=>Af λK=>?_);have b8:NS i nb ob d0 e5 q l2 ts:=(nsC o r ((c.n y).n V) K);obtain⟨F3,b9,e3,_,C⟩:=Hl b8 (hB.ch ((((hC.n c).n y).n V)) (By i)) hT hi H D G (M.ch (((c.nil (TN i)).n y).n V) (By i));simp only[Value.func.injEq,Fn.func.injEq,true_and]at e3;obtain⟨rfl,rfl⟩:=e3;refine SO 1 Z A (TN i) [false,false] (λW=>gh (by kernel_rfl) (a2 W)) (by kernel_rfl) (by kernel_rfl) (by kernel_rfl) C ?_;rintro e' i6 ⟨d1,rfl,a4,X⟩;refine⟨_,d1,rfl,X,a4.new,?_⟩;replace X:=X.ret (B:=w.heap.size);refine qR [] 3 [] λh7 f2 i7 a9=>qV 0 (iv ((j:Int)+1)) (Bk 44 (j:Int) underlying3 (by omega)) (qR [] 2 [] λh8 f3 i8 b0=>qB [] λz K0 K=>hJ (p.bw.length-(j+1)) _ _ _ z _ (by omega) ⟨j+1,q.ic i D,l2++q.rk i D,rfl,by omega,rfl,rfl,NS.sF a4 (a9.trans b0) K0.new,hI,a1,((((((hC.n c).n y).n V).trans X).n a9).n b0)⟩ K)
   .refine qI ((decide ((j:Int)<(x.synced.n:Int)))) false (H' (by omega)) (qR [] 1 [] λh9 f4 i9 b1=>?_);obtain rfl:j=p.bw.length:=by omega
    rw[pj]at hI
    rw[<- hI];exact qF o r (c.n b1) ((hC.n c).n b1)
def Nc(p:Nod)(i j:Nat):Bool:=decide (j≠i/\p.bn.bN j<p.ae.length)
def KW(p:Nod)(i k:Nat):Nat->Nat:=λj=>if decide (j<k)&&Nc p i j then p.ae.length else p.bn.bN j
def EN(p:Nod)(i k:Nat):Nod:={ p with bn:={ p.bn with bN:=KW p i k } }
def Dw(p:Nod)(i:Nat):Nat->List Let
 | 0=>[]
 | k+1=>Dw p i k++(if Nc p i k then[{ BD 5 with src:=i,dst:=k,bu:=p.bn.bN k,hU:=p.ae.drop (p.bn.bN k) }]else[])
theorem Vo(p:Nod)(i k:Nat):(Dw p i k).length<=k:=by
 induction k with
 | zero=>exact A' _
 | succ k ih=>unfold Dw;rw[E'];split<;>simp<;>omega
theorem Xw(p:Nod)(i:Nat):EN p i 0=p:=by unfold EN KW;simp
theorem Vp(h:Nc p i k=false):KW p i (k+1)=KW p i k:=by
 funext j
 unfold KW;by_cases e:j=k
 .subst e;simp[h]
 .rw[show decide (j<k+1)=decide (j<k)from oC.2 (by omega)]
theorem bM(h:Nc p i k=true):upN (KW p i k) k p.ae.length=KW p i (k+1):=by
 funext j
 unfold upN KW;by_cases e:j=k
 .subst e;simp[h]
 .rw[if_neg e,show decide (j<k+1)=decide (j<k)from oC.2 (by omega)]
theorem Xx(h:NS i nb ob g w p ls ts)(hb:ls.length<90000000) :
  Calls prog 100 #[pt nb 0] w (NP i nb ob g w (.tuple #[]) (if p.leads then EN p i 5 else p) (if p.leads then ls++Dw p i 5 else ls) ts):=by
 obtain⟨x,lt,tl,S,U,hg⟩:=h;refine gI (fn:=f100) (TN i) g func100 hg (qN S (qO U (qR [] 4 [] λs1 Y w1 C=>?_)));by_cases h1:p.leads=false
 .refine Af λK=>?_;have N3:NS i nb ob Y w1 p ls ts:=(nsC S U C K);refine qC 1 (Fu N3 h1) ?_;rintro e' w4 ⟨rfl,b4⟩;refine⟨_,rfl,b4,?_⟩;have c4:=Cg.ew (B:=w.heap.size) (T:=[]) (g:=Y) b4;refine qR [] 3 [] λs5 g5 w5 c5=>qE (.tuple #[]) λK=>?_;rw[h1,if_neg (by simp),if_neg (by simp)];exact⟨_,rfl,(nsC S U ((C.n c4).n c5) K),(((C.nil (TN i)).n c4).n c5)⟩
 .have h10:p.leads=true:=by simpa using h1
  refine Af λK=>?_;have N8:NS i nb ob Y w1 p ls ts:=(nsC S U C K);refine qC 1 (Fu N8 h10) ?_;rintro e' w9 ⟨rfl,b9⟩;refine⟨_,rfl,b9,?_⟩;have c9:=Cg.ew (B:=w.heap.size) (T:=[]) (g:=Y) b9;rw[if_pos h10,if_pos h10];refine qR [] 15 [0] λd1 a5 e7 E=>Ci 51 [(0,pt nb 0),(12,.agg #[iv (p.bn.bN 0:Int),iv (p.bn.bN 1:Int),iv (p.bn.bN 2:Int),iv (p.bn.bN 3:Int),iv (p.bn.bN 4:Int)]),(13,iv 0)] [false,false] [] (λk X Z e L=>∃ k0:Nat,k=5-k0/\k0<=5/\e=[(0,pt nb 0),(12,.agg #[iv (p.bn.bN 0:Int),iv (p.bn.bN 1:Int),iv (p.bn.bN 2:Int),iv (p.bn.bN 3:Int),iv (p.bn.bN 4:Int)]),(13,iv (k0:Int))]/\L=[]/\NS i nb ob X Z (EN p i k0) (ls++Dw p i k0) ts/\Cg w.heap.size (TN i) g w X Z) (by kernel_rfl) (by kernel_rfl) (by kernel_rfl) (by kernel_rfl) 5 (λK=>?_) ?_
  .have C11:=(C.n c9).n E;exact⟨0,rfl,by omega,rfl,rfl,(by rw[Xw,show ls++Dw p i 0=ls from nA _];exact(nsC S U C11 K)),(((C.nil (TN i)).n c9).n E)⟩
  .rintro k gr wr _ zr _ ⟨k0,rfl,hk0,rfl,rfl,hM,hC⟩ J hJ;obtain⟨xr,d0,e6,d,j,c7⟩:=hM;have c8:=Vo p i k0;refine qN d (qO j ?_);have c6:xr.ae.n=p.ae.length:=d.ae.num;refine qR [] 5 [] λd2 a6 e8 a=>?_;by_cases h2:k0<5
   .refine qI ((decide ((k0:Int)<5))) true (P' (by omega)) (qR [] 6 [] λd3 a7 e9 b=>?_);refine dD 1 (iv (p.bn.bN k0:Int)) (λK=>(by rcases sc h2 with rfl|rfl|rfl|rfl|rfl<;>kernel_rfl)) (by kernel_rfl) ?_;refine qR [] 10 [0] λd4 a8 f0 c=>?_;by_cases h3:k0≠i
    .refine qV 5 (.bool true) (IW (t:=3) (m:=(k0:Int)) (n:=(i:Int)) (x:=(.tmp 17)) (y:=(.tmp 21)) (by simp;omega)) (qR [] 11 [0] λd5 a9 f1 q=>?_);by_cases h4:(p.bn.bN k0:Int)<(xr.ae.n:Int)
     .have hx:Nc p i k0=true:=P' ⟨by omega,by omega⟩;refine qI ((decide ((p.bn.bN k0:Int)<(xr.ae.n:Int)))) true (P' (by omega)) (qR [] 5 [] λd6 b0 f2 F=>qS 3 [false,false] d j ((((a.n b).n c).n q).n F) (λa0=>Jp a0 (by rw[E'];omega) k0 (p.bn.bN k0) (by show _<=p.ae.length;omega)) λb1 f3 o s u r V a1=>qR [] 14 [13,0,2,4,6,8,10,12,0,14,16,18,20,22] λd7 a3 a4 G=>?_);have W:o.ae.n=p.ae.length:=r.ae.num;refine Ed 51 (λX Z e L=>e=[(0,pt nb 0),(12,.agg #[iv (p.bn.bN 0:Int),iv (p.bn.bN 1:Int),iv (p.bn.bN 2:Int),iv (p.bn.bN 3:Int),iv (p.bn.bN 4:Int)]),(13,iv (k0:Int))]/\L=[⟨nb,.cells (AJ i ob ({ p with bn:={ p.bn with bN:=upN (KW p i k0) k0 o.ae.n } }) o) 137,.n 0 i,false⟩,⟨ob,.cells #[S3.v s,S3.v u] 114,.n 50 0,false⟩]/\True/\Cg w.heap.size ([.n 0 i]:List Tg) a3 a4 X Z) (by kernel_rfl) ?_ ?_
      .intro J hJ;rcases sc h2 with rfl|rfl|rfl|rfl|rfl <;>
       (refine qR [.n 0 i] 3 [24,27,0,1] λd8 b3 f5 a2=>?_;exact qB [true,true] λz A K=>hJ _ _ _ z _ ⟨rfl,rfl,trivial,a2⟩ K)
      rintro b2 f4 _ g4 _ ⟨rfl,rfl,_,H⟩;refine qR [] 2 [] λd9 b5 f6 I=>qV 0 (iv ((k0:Int)+1)) (Bk 13 (k0:Int) underlying3 (by omega)) (qR [] 2 [] λe0 b6 f7 M=>qB [false,false] λz A K=>hJ (5-(k0+1)) _ _ _ z _ (by omega) ⟨k0+1,rfl,by omega,rfl,rfl,?_,((((((((((hC.n a).n b).n c).n q).n F).trans a1).n G).trans (H.mono (by simp[TN]))).n I).n M)⟩ K);have D:=(((G.nil ([.n 0 i]:List Tg)).trans (H)).n I).n M;rw[show EN p i (k0+1)={ p with bn:={ p.bn with bN:=upN (KW p i k0) k0 o.ae.n } }from by unfold EN;rw[<- bM hx,W],show ls++Dw p i (k0+1)=(ls++Dw p i k0++[{ BD 5 with src:=i,dst:=k0,bu:=p.bn.bN k0,hU:=p.ae.drop (p.bn.bN k0) }])from by show ls++(Dw p i k0++_)=_;rw[hx,if_pos rfl,nm]];exact⟨o,s,u,A.uk 0 r D,V.ch D (hn:=by simp<;>omega),A.new⟩
     .have hx:Nc p i k0=false:=H' (λh=>h4 (by omega));refine qI ((decide ((p.bn.bN k0:Int)<(xr.ae.n:Int)))) false (H' (by omega)) (qR [] 3 [] λe1 b7 f8 N=>qV 0 (iv ((k0:Int)+1)) (Bk 13 (k0:Int) underlying3 (by omega)) (qR [] 2 [] λe2 b8 f9 O=>qB [false,false] λz A K=>hJ (5-(k0+1)) _ _ _ z _ (by omega) ⟨k0+1,rfl,by omega,rfl,rfl,?_,((((((hC.n a).n b).n c).n q).n N).n O)⟩ K));rw[show EN p i (k0+1)={ p with bn:={ p.bn with bN:=KW p i k0 } }from by unfold EN;rw[Vp hx],show ls++Dw p i (k0+1)=ls++Dw p i k0 from by show ls++(Dw p i k0++_)=_;rw[hx];simp];exact(nsC d j (((((a.n b).n c).n q).n N).n O) A)
    .have hx:Nc p i k0=false:=H' (λh=>h.1 (by omega));refine qV 5 (.bool false) (IW (t:=3) (m:=(k0:Int)) (n:=(i:Int)) (x:=(.tmp 17)) (y:=(.tmp 21)) (by simp;omega)) (qR [] 15 [] λe3 c0 g0 P=>qV 0 (iv ((k0:Int)+1)) (Bk 13 (k0:Int) underlying3 (by omega)) (qR [] 2 [] λe4 c2 g2 Q=>qB [false,false] λz A K=>hJ (5-(k0+1)) _ _ _ z _ (by omega) ⟨k0+1,rfl,by omega,rfl,rfl,?_,(((((hC.n a).n b).n c).n P).n Q)⟩ K));rw[show EN p i (k0+1)={ p with bn:={ p.bn with bN:=KW p i k0 } }from by unfold EN;rw[Vp hx],show ls++Dw p i (k0+1)=ls++Dw p i k0 from by show ls++(Dw p i k0++_)=_;rw[hx];simp];exact(nsC d j ((((a.n b).n c).n P).n Q) A)
   .refine qI ((decide ((k0:Int)<5))) false (H' (by omega)) (qR [] 1 [] λe5 c3 g3 R=>?_);obtain rfl:k0=5:=by omega
    exact qF d j (a.n R) ((hC.n a).n R)
end
end
section
section
def BR(l:List Vt):Prop:=BO l/\∀ v∈l,0<=v.bu/\v.bu<=39
theorem aG(l:List Vt)(a:Int)(h:BO l)(b:∀ v∈l,a<=v.bu/\v.bu<=39):l.length<=(40-a).toNat:=by
 induction l generalizing a with
 | nil=>exact nM _
 | cons u l ih =>
  obtain⟨d,e⟩:=h;have f:=b u M';have:=ih (u.bu+1) e λv c=>⟨by have:=d v c;omega,(b v (I' _ c)).2⟩;rw[nQ];omega
variable{a:Acc}{b:Bal}{l:List Vt}{v:Vt}
theorem BR.len(h:BR l):l.length<=40:=aG l 0 h.1 h.2
theorem BR.nil:BR []:=⟨trivial,λv h=>by cases h⟩
theorem Aq(h:Bb a v=0):Ah a/\Ai v/\¬ v.b.lt a.p:=by
 unfold Bb at h;by_cases c:Ah a
 .rw[if_neg (λg=>g c)]at h
  by_cases d:Ai v
  .rw[if_neg (λg=>g d)]at h
   by_cases e:v.b.lt a.p
   .rw[if_pos e]at h;cases h
   .exact⟨c,d,e⟩
  .rw[if_pos d]at h;cases h
 .rw[if_pos c]at h;cases h
theorem Cq(h:Cp a b=0):Ah a/\Ac b/\¬ b.lt a.p:=by
 unfold Cp at h;by_cases c:Ah a
 .rw[if_neg (λg=>g c)]at h
  by_cases d:Ac b
  .rw[if_neg (λg=>g d)]at h
   by_cases e:b.lt a.p
   .rw[if_pos e]at h;cases h
   .exact⟨c,d,e⟩
  .rw[if_pos d]at h;cases h
 .rw[if_pos c]at h;cases h
theorem G3(h:BR l)(b:Ai v):BR (Bp l v) :=
 ⟨JD v h.1,λu a=>by
  rcases(BB h.1).1 a with rfl|⟨h2,_⟩
  .exact b.1
  .exact h.2 u h2⟩
theorem Wl(a:Acc)(l:List Vt)(h:BR a.vs):BR (Dl a l).vs:=by
 induction l generalizing a with
 | nil=>exact h
 | cons v l ih =>
  rw[Dl];refine ih _ ?_;by_cases b:Bb a v=0
  .rw[if_pos b];show BR (Bu a v);rw[(DP b).2];exact G3 h (Aq b).2.1
  .rw[if_neg b];exact h
def POk(k:Nat):Pend->Prop
 | .began b vs=>BR vs
 | .prom to b vs=>to<5/\Ap b/\BR vs
 | .voted to v=>to<5
 | .fa to b=>to<5/\Ap b
 | .prop v=>True
 | .askNews to=>to<5
 | .start=>True
 | .tell to bu=>to<5/\bu<=k
theorem POk.mono{k m:Nat}{q:Pend}(h:POk k q)(a:k<=m):POk m q:=by
 cases q<;>first|exact h|exact⟨h.1,na h.2 a⟩
def Pend.wt:Pend->Nat
 | .began _ _=>4
 | .prop _=>4
 | .start=>4
 | _=>1
def AB:List Pend->Nat
 | []=>0
 | q::l=>q.wt+AB l
theorem FT(l:List Pend)(q:Pend):AB (l++[q])=AB l+q.wt:=by
 induction l with
 | nil=>simp[AB]
 | cons x l ih=>simp only[List.cons_append,AB,ih];omega
theorem E3(l:List Pend):l.length<=AB l:=by
 induction l with
 | nil=>exact A' _
 | cons x l ih =>
  rw[AB,nQ];have:1<=x.wt:=by cases x<;>simp[Pend.wt]
  omega
structure NOk(n:Nat)(p:Nod):Prop where
 ag:p.ae.length<=40
 dn:p.done<=p.ae.length
 qu:p.bn.gC.length<=40
 wa:p.au.length<=n
 ask:∀ c,(p.cl c).isSome=true->c∈p.au
 ro:0<=p.ed/\p.ed<=65536
 vp:Ap p.vo.p
 vs:BR p.vo.vs
 he:∀ j,BR (p.bn.an j).vs
 pe:∀ q∈p.bw,POk p.ae.length q
structure LOk(l:Let):Prop where
 kd:l.kind<7
 src:l.src<5
 dst:l.dst<5
 hZ:Ap l.hZ
 vs:BR l.lp
 wh:l.hU.length<=40
 sl:l.kind=5->l.bu+l.hU.length<=40
theorem Ap.b0:Ap Bf:=.inr ⟨rfl,rfl⟩
theorem Ap.uN(h:Ap b):0<=b.r/\b.r<=65536/\0<=b.n/\b.n<=4:=by
 rcases h with⟨h1,h2⟩|⟨h1,h2⟩<;>omega
end
section
variable{n:Nat}{p:Nod}
theorem NOk.wait(h:NOk n p){q:Pend}(b:POk p.ae.length q):NOk n (p.wait q) :=
 { h with pe:=λr c=>(O'.1 c).elim (h.pe r) λa=>(D'.1 a)▸b }
theorem NOk.av(h:NOk n p)(b:Bal):NOk n (p.av b).1/\(p.av b).1.bw=p.bw/\(p.av b).1.ae=p.ae/\BR (p.av b).2.1/\((p.av b).2.2=0->Ac b):=by
 unfold Nod.av;by_cases a:Cp p.vo b≠0
 .rw[if_pos a];exact⟨h,rfl,rfl,BR.nil,λg=>absurd g a⟩
 .rw[if_neg a];have c:=Cq (nY a);by_cases f:b=p.vo.p
  .rw[if_pos f];exact⟨{ h with vp:=.inl c.2.1,vs:=h.vs },rfl,rfl,h.vs,λ_=>c.2.1⟩
  .rw[if_neg f];by_cases e:CK p.d p.sy (Ac b) (Bv b)≠0
   .rw[if_pos e];exact⟨h,rfl,rfl,BR.nil,λg=>absurd g e⟩
   .rw[if_neg e];exact⟨{ h with vp:=.inl c.2.1,vs:=h.vs },rfl,rfl,h.vs,λ_=>c.2.1⟩
theorem NOk.dT(h:NOk n p)(v:Vt):NOk n (p.dT v).1/\(p.dT v).1.bw=p.bw/\(p.dT v).1.ae=p.ae/\(p.dT v).1.bn=p.bn:=by
 unfold Nod.dT;by_cases b:Bb p.vo v≠0
 .rw[if_pos b];exact⟨h,rfl,rfl,rfl⟩
 .rw[if_neg b];have a:=Aq (nY b);by_cases c:v∈p.vo.vs
  .rw[if_pos c];exact⟨{ h with vp:=.inl a.2.1.2.1,vs:=G3 h.vs a.2.1 },rfl,rfl,rfl⟩
  .rw[if_neg c];by_cases e:CK p.d p.sy (Ai v) (Bl v)≠0
   .rw[if_pos e];exact⟨h,rfl,rfl,rfl⟩
   .rw[if_neg e];exact⟨{ h with vp:=.inl a.2.1.2.1,vs:=G3 h.vs a.2.1 },rfl,rfl,rfl⟩
theorem NOk.fa(h:NOk n p){to:Nat}(a:to<5)(e:Int):NOk n (p.fa to e)/\(p.fa to e).ae=p.ae/\AB (p.fa to e).bw<=AB p.bw+1:=by
 unfold Nod.fa;split
 .exact⟨h.wait ⟨a,h.vp⟩,rfl,by show AB (p.bw++[_])<=_;rw[FT];exact A' _⟩
 .exact⟨h,rfl,oh _⟩
theorem ef(k:Nat)(r:Rnd)(l:List Cmd)(h:l.length<=40):(FL k r l).length<=40/\l.length<=(FL k r l).length:=by
 induction k generalizing l with
 | zero=>exact⟨h,A' _⟩
 | succ k ih =>
  rw[FL];split
  .rename_i h1
   have a:=XZ h1;have:=ih (l++[CV r.ia (l.length:Int)]) (by simp;omega);simp at this;exact⟨this.1,by omega⟩
  .exact⟨h,A' _⟩
theorem NOk.grow(h:NOk n p){l:List Cmd}(b:l.length<=40)(a:p.ae.length<=l.length):NOk n { p with ae:=l } :=
 { h with ag:=b,dn:=na h.dn a,pe:=λq c=>(h.pe q c).mono a }
theorem NOk.sf(h:NOk n p):NOk n p.sf/\p.sf.bw=p.bw/\p.ae.length<=p.sf.ae.length :=
 have:=ef 41 p.bn p.ae h.ag
 ⟨h.grow this.1 this.2,rfl,this.2⟩
theorem NOk.jv(h:NOk n p){bu:Nat}{hU:List Cmd}(a:bu<=p.ae.length)(b:bu+hU.length<=40):NOk n (p.jv bu hU)/\(p.jv bu hU).bw=p.bw/\p.ae.length<=(p.jv bu hU).ae.length:=by
 have c:=h.ag;refine⟨h.grow ?_ ?_,rfl,?_⟩
 .rw[E',nu];omega
 .rw[E'];omega
 .show _<=(p.ae++_).length;rw[E'];omega
theorem bV{α:Type}{f:Nat->α}{P:α->Prop}(h:∀ j,P (f j))(i:Nat){x:α}(a:P x):∀ j,P (upN f i x j):=by
 intro j;unfold upN;split
 .exact a
 .exact h j
theorem NOk.sG(h:NOk n p)(j:Nat){vs:List Vt}(b:BR vs):NOk n { p with bn:=p.bn.sG j vs } :=
 { h with qu:=h.qu,he:=bV (P:=λa:Acc=>BR a.vs) h.he j (Wl _ _ b) }
theorem NOk.count(h:NOk n p)(j:Nat)(v:Vt):NOk n (p.count j v)/\(p.count j v).bw=p.bw/\p.ae.length<=(p.count j v).ae.length:=by
 unfold Nod.count;by_cases d:v.b≠p.bn.hZ
 .rw[if_pos d];exact⟨h,rfl,A' _⟩
 .rw[if_neg d];by_cases c:Bb (p.bn.an j) v≠0
  .rw[if_pos c];exact⟨h,rfl,A' _⟩
  .rw[if_neg c];have e:=nY c;have:NOk n { p with bn:={ p.bn with an:=upN p.bn.an j ⟨BK (p.bn.an j) v,Bu (p.bn.an j) v⟩ } } :=
    { h with qu:=h.qu,he:=bV (P:=λa:Acc=>BR a.vs) h.he j (by show BR (Bu _ v);rw[(DP e).2];exact G3 (h.he j) (Aq e).2.1) }
   exact this.sf
theorem NOk.eo(h:NOk n p)(l:List Cmd):NOk n (p.eo l)/\(p.eo l).bw=p.bw/\(p.eo l).ae=p.ae:=by
 unfold Nod.eo;split
 .exact⟨{ h with qu:=dl _ _ h.qu,he:=h.he },rfl,rfl⟩
 .exact⟨h,rfl,rfl⟩
theorem NOk.take(h:NOk n p){l:Let}(a:LOk l):NOk n (p.take l)/\AB (p.take l).bw<=AB p.bw+1/\p.ae.length<=(p.take l).ae.length:=by
 have g:=h.ag;unfold Nod.take;have b:∀ {P:Nod} {q:Pend},P.bw=p.bw->q.wt=1->AB (P.wait q).bw<=AB p.bw+1:=λ{P q} e d=>by
  show AB (P.bw++[q])<=_;rw[FT,e,d];exact A' _
 split
 .have hp:=h.av l.hZ;split
  .have:=h.fa a.src (p.av l.hZ).2.2;exact⟨this.1,this.2.2,by rw[this.2.1];exact A' _⟩
  .rename_i h1
   exact⟨hp.1.wait ⟨a.src,.inl (hp.2.2.2.2 (nY h1)),hp.2.2.2.1⟩,b hp.2.1 rfl,by show _<=(p.av l.hZ).1.ae.length;rw[hp.2.2.1];exact A' _⟩
 .have hk:=h.jv (bu:=0) (hU:=l.hU) (nM _) (by have:=a.wh;omega);simp only;split
  .exact⟨hk.1,by rw[hk.2.1];omega,hk.2.2⟩
  .have h2:=hk.1.sG l.src (vs:=l.lp) a.vs;have f:NOk n { p.jv 0 l.hU with bn:={ (p.jv 0 l.hU).bn.sG l.src l.lp with bN:=upN (p.jv 0 l.hU).bn.bN l.src l.hU.length } }:={ h2 with qu:=h2.qu,he:=h2.he };have c:=f.sf;exact⟨c.1,by rw[c.2.1];show AB (p.jv 0 l.hU).bw<=_;rw[hk.2.1];omega,na hk.2.2 c.2.2⟩
 .have hr:=h.ro;have i:=a.hZ.uN;exact⟨{ h with ro:=by show 0<=max p.ed l.hZ.r/\max p.ed l.hZ.r<=65536;omega },oh _,A' _⟩
 .have hp:=h.dT l.dT;split
  .have:=h.fa a.src (p.dT l.dT).2;exact⟨this.1,this.2.2,by rw[this.2.1];exact A' _⟩
  .exact⟨hp.1.wait a.src,b hp.2.1 rfl,by show _<=(p.dT l.dT).1.ae.length;rw[hp.2.2.1];exact A' _⟩
 .have:=h.count l.src l.dT;exact⟨this.1,by rw[this.2.1];omega,this.2.2⟩
 .rename_i hk
  split
  .exact⟨h.wait a.src,b rfl rfl,A' _⟩
  .have:=h.jv (bu:=l.bu) (hU:=l.hU) (by omega) (a.sl hk);exact⟨this.1,by rw[this.2.1];omega,this.2.2⟩
 .have he:=h.eo l.hU;simp only;split
  .rename_i h1
   exact⟨he.1.wait ⟨a.src,pN h1⟩,b he.2.1 rfl,by show _<=(p.eo l.hU).ae.length;rw[he.2.2];exact A' _⟩
  .exact⟨he.1,by rw[he.2.1];omega,by rw[he.2.2];exact A' _⟩
 .exact⟨h,oh _,A' _⟩
end
def Nod.ib(p:Nod)(i:Nat):Nod × List Let :=
 if(Bd p.vo.p p.cl (p.au.take 40)).1=[]then({ p with cl:=(Bd p.vo.p p.cl (p.au.take 40)).2 },[])
 else if p.vo.p.n=(i:Int)then(Nod.eo { p with cl:=(Bd p.vo.p p.cl (p.au.take 40)).2 } (Bd p.vo.p p.cl (p.au.take 40)).1,[])
 else({ p with cl:=(Bd p.vo.p p.cl (p.au.take 40)).2 },[{ BD 6 with bu:=p.ae.length,hU:=(Bd p.vo.p p.cl (p.au.take 40)).1,src:=i,dst:=p.vo.p.n.toNat }])
noncomputable def sD(i:Nat):List Cmd->Nod->List Tol->Nod × List Tol
 | [],p,ts=>(p,ts)
 | c::l,p,ts =>
  if doE p.ln c≠0 then(p,ts)
  else sD i l (Nod.fv { p with ln:=doS p.ln c,done:=p.done+1 } c) (if(p.cl c).isSome=true then ts++[⟨i,c.c,c.s,doC p.ln c,doA p.ln c⟩]else ts)
def Nod.ni(p:Nod)(i:Nat)(ls:List Let):Nod × List Let:=if p.sy<(p.d.length:Int)/\Df p.d p.sy≠0 then(p,ls)else ov i p.bw { p.sC with bw:=[] } ls
def Nod.bN(p:Nod)(i:Nat)(ls:List Let):Nod × List Let:=if p.leads then(EN p i 5,ls++Dw p i 5)else(p,ls)
noncomputable def Nod.piece(p:Nod)(i:Nat)(ls:List Let)(ts:List Tol):Nod × List Let × List Tol :=
 let a:=sD i (p.ae.drop p.done) p ts
 let b:=a.1.ib i
 let c:=b.1.dc.ni i (ls++b.2)
 let d:=c.1.bN i c.2
 (d.1,d.2,a.2)
noncomputable def Nod.sE(p:Nod)(i:Nat)(e:Int)(c:Cmd)(ts:List Tol):Nod × List Tol :=
 if p.up=false then(p,ts)
 else if e≠0 then({ p with bad:=p.bad+1 },ts)
 else if c∈p.ae.take p.done then(p,ts++[⟨i,c.c,c.s,doC p.ln c,doA p.ln c⟩])
 else(p.want c,ts)
def Ee(l:List Int)(now:Int):Cmd:=if opE l now=0 then⟨Ad (unQ l) 0,Ad (unQ l) 4,Ad (unQ l) 8,Ad (unQ l) 12,Ad (unQ l) 16⟩else Ss
theorem ZN(l:List Int)(a:Int):opA l a=cmC (Ee l a):=by unfold opA Ee;split<;>rfl
noncomputable def Nod.sg(p:Nod)(i:Nat)(d:List Int)(ts:List Tol):Nod × List Tol:=p.sE i (opE d (p.done:Int)) (Ee d (p.done:Int)) ts
def Meet.set(M:Meet)(i:Nat)(p:Nod)(ls:List Let)(ts:List Tol):Meet:=⟨upN M.ab i p,ls,ts⟩
noncomputable def Meet.act(M:Meet)(x:Lac):Meet :=
 let i:=x.n.toNat
 if x.k=1 then M.set i ((M.ab i).sg i x.d M.eb).1 M.br ((M.ab i).sg i x.d M.eb).2
 else if x.k=2 then M.set i (if(M.ab i).up then(M.ab i).lead i else M.ab i) M.br M.eb
 else if x.k=3 then M.set i (if(M.ab i).up then((M.ab i).piece i M.br M.eb).1 else M.ab i) (if(M.ab i).up then((M.ab i).piece i M.br M.eb).2.1 else M.br) (if(M.ab i).up then((M.ab i).piece i M.br M.eb).2.2 else M.eb)
 else if x.k=4\/x.k=5\/x.k=6 then M.move x.k x.a.toNat
 else if x.k=7 then M.sj
 else if x.k=8 then M.set i (if(M.ab i).up then(M.ab i).ie x.p else M.ab i) M.br M.eb
 else if x.k=9 then M.set i (if(M.ab i).up then M.ab i else(M.ab i).start) M.br M.eb
 else M
noncomputable def Meet.cF(M:Meet)(l:List Lac):Meet:=l.foldl Meet.act M
theorem eV(r:List Int):Ap (Ex r).2.p/\BR (Ex r).2.vs:=by
 have h:∀ k,Ap (itR r k).2.p/\BR (itR r k).2.vs:=by
  intro k;induction k with
  | zero=>exact⟨.inr ⟨rfl,rfl⟩,BR.nil⟩
  | succ k ih =>
   rw[itR];unfold Kp;split
   .exact ih
   .rename_i c m hs
    have d:∃ b,DW (itR r k).2 b=some c:=by
     unfold Cd at hs;split at hs
     .cases hs
     .split at hs
      .cases hs
      .split at hs
       .cases hs
       .obtain⟨x,hx,e⟩:=oY.1 hs;injection e with e1 e2
        subst e1;exact⟨_,hx⟩
    obtain⟨b,a⟩:=d;unfold DW at a;split at a
    .split at a
     .rename_i h1
      injection a with a;subst a
      exact⟨.inl (Cq h1).2.1,ih.2⟩
     .cases a
    .split at a
     .split at a
      .split at a
       .rename_i h1
        injection a with a;subst a
        exact⟨.inl (Aq h1).2.1.2.1,G3 ih.2 (Aq h1).2.1⟩
       .cases a
      .cases a
     .cases a
 exact h r.length
theorem eU(d:List Int)(s:Int):Ap (GD d s).p/\BR (GD d s).vs:=by
 unfold GD;split
 .exact eV d
 .exact⟨.inr ⟨rfl,rfl⟩,BR.nil⟩
theorem CI{i:Nat}{l m:Let}{k:Nat}(h:m∈BX i l k):∃ to,to<k/\m={ l with src:=i,dst:=to }:=by
 unfold BX at h;obtain⟨to,a,rfl⟩:=nF.1 h;exact⟨to,pU.1 (pq.1 a).1,rfl⟩
theorem JP{i:Nat}(a:i<5)(l:Let):(BX i l 5).length<=4:=by
 unfold BX;rw[nK];rcases sc a with rfl|rfl|rfl|rfl|rfl<;>decide
section
variable{n i:Nat}{p:Nod}
theorem NOk.ic(h:NOk n p)(a:i<5){q:Pend}(c:POk p.ae.length q):NOk n (p.ic i q)/\(p.ic i q).bw=p.bw/\p.ae.length<=(p.ic i q).ae.length/\RV p i q/\(∀ m∈p.rk i q,LOk m)/\(p.rk i q).length<=q.wt:=by
 have g:=h.ag;have one:∀ {l:Let},LOk l->∀ m∈[l],LOk m:=λj m d=>by rw[D'.1 d];exact j
 cases q with
 | began b vs =>
  unfold Nod.ic Nod.rk;refine⟨?_,?_,?_,rJ (h.he i).len (by decide),?_,?_⟩
  .simp only;split
   .exact h
   .exact h.sG i c
  .simp only;split<;>rfl
  .simp only;split<;>exact A' _
  .simp only;split
   .exact λm d=>by cases d
   .rename_i h1
    intro m d;obtain⟨to,e,rfl⟩:=CI d;exact⟨by show 0<7;decide,a,e,by show Ap b;rw[<- nY h1];exact h.vp,BR.nil,by show 0<=40;decide,λh=>by cases h⟩
  .simp only;split
   .exact nM _
   .exact JP a _
 | prom to b vs=>exact⟨h,rfl,A' _,trivial,one ⟨by show 1<7;decide,a,c.1,c.2.1,c.2.2,g,λh=>by cases h⟩,A' _⟩
 | voted to v=>exact⟨h,rfl,A' _,trivial,one ⟨by show 4<7;decide,a,c,Ap.b0,BR.nil,by show 0<=40;decide,λh=>by cases h⟩,A' _⟩
 | fa to b=>exact⟨h,rfl,A' _,trivial,one ⟨by show 2<7;decide,a,c.1,c.2,BR.nil,by show 0<=40;decide,λh=>by cases h⟩,A' _⟩
 | prop v =>
  have f:=h.count i v;refine⟨f.1,f.2.1,f.2.2,g,λm d=>?_,JP a _⟩;obtain⟨to,e,rfl⟩:=CI d;exact⟨by show 3<7;decide,a,e,Ap.b0,BR.nil,by show 0<=40;decide,λh=>by cases h⟩
 | askNews to=>exact⟨h,rfl,A' _,trivial,one ⟨by show 6<7;decide,a,c,Ap.b0,BR.nil,by show 0<=40;decide,λh=>by cases h⟩,A' _⟩
 | start =>
  refine⟨h,rfl,A' _,trivial,λm d=>?_,JP a _⟩;obtain⟨to,e,rfl⟩:=CI d;exact⟨by show 6<7;decide,a,e,Ap.b0,BR.nil,by show 0<=40;decide,λh=>by cases h⟩
 | tell to bu=>exact⟨h,rfl,A' _,c.2,one ⟨by show 5<7;decide,a,c.1,Ap.b0,BR.nil,by show(p.ae.drop bu).length<=40;rw[nu];omega,λ_=>by show bu+(p.ae.drop bu).length<=40;rw[nu];have:=c.2;omega⟩,A' _⟩
theorem Yw(k:i<5)(l:List Pend)(p:Nod)(a:List Let)(h:NOk n p)(c:∀ q∈l,POk p.ae.length q)(z:a.length+AB l<90000000)(b:∀ m∈a,LOk m) :
  NOk n (ov i l p a).1/\(ov i l p a).1.bw=p.bw/\(∀ m∈(ov i l p a).2,LOk m)/\(ov i l p a).2.length<=a.length+AB l/\GY i l p a:=by
 induction l generalizing p a with
 | nil=>exact⟨h,rfl,b,A' _,trivial⟩
 | cons q l ih =>
  obtain⟨d,e,f,g,j,y⟩:=h.ic k (c q M');have A:AB (q::l)=q.wt+AB l:=rfl;obtain⟨t,u,v,w,x⟩:=ih (p.ic i q) (a++p.rk i q) d (λr s=>(c r (I' _ s)).mono f) (by rw[E'];omega) (λm o=>by
   rcases O'.1 o with h|h
   .exact b m h
   .exact j m h)
  refine⟨t,u.trans e,v,?_,g,by omega,x⟩;show(ov i l (p.ic i q) (a++p.rk i q)).2.length<=_;rw[E']at w;omega
theorem NOk.sC(h:NOk n p):NOk n { p.sC with bw:=[] }:=by
 unfold Nod.sC;split
 .exact{ h with pe:=λq a=>by cases a }
 .exact{ h with pe:=λq a=>by cases a }
theorem Ui(p:Nod):p.sC.ae=p.ae:=by unfold Nod.sC;split<;>rfl
theorem NOk.ni(h:NOk n p)(d:i<5){ls:List Let}(c:ls.length+AB p.bw<90000000)(b:∀ m∈ls,LOk m) :
  NOk n (p.ni i ls).1/\(∀ m∈(p.ni i ls).2,LOk m)/\(p.ni i ls).2.length+AB (p.ni i ls).1.bw<=ls.length+AB p.bw/\GY i p.bw { p.sC with bw:=[] } ls:=by
 have a:=Yw d p.bw { p.sC with bw:=[] } ls h.sC (λq e=>by show POk p.sC.ae.length q;rw[Ui];exact h.pe q e) c b;unfold Nod.ni;split
 .exact⟨h,b,A' _,a.2.2.2.2⟩
 .exact⟨a.1,a.2.2.1,by rw[a.2.1];exact a.2.2.2.1,a.2.2.2.2⟩
theorem XH(b:Bal)(f:Cmd->Option Bal)(l:List Cmd):(Bd b f l).1.length<=l.length:=by
 induction l generalizing f with
 | nil=>exact A' _
 | cons c l ih =>
  rw[Bd];split
  .have:=ih (BZ f c (some b));simp only[nQ];omega
  .have:=ih f;simp only[nQ];omega
theorem VF(b:Bal)(f:Cmd->Option Bal)(l:List Cmd)(c:Cmd)(h:((Bd b f l).2 c).isSome=true):(f c).isSome=true\/c∈l:=by
 induction l generalizing f with
 | nil=>exact .inl h
 | cons d l ih =>
  rw[Bd]at h
  split at h
  .rcases ih _ h with h1|h1
   .unfold BZ at h1;split at h1
    .rename_i e;exact .inr (e▸M')
    .exact .inl h1
   .exact .inr (I' _ h1)
  .rcases ih _ h with h1|h1
   .exact .inl h1
   .exact .inr (I' _ h1)
theorem NOk.asks(h:NOk n p):NOk n { p with cl:=(Bd p.vo.p p.cl (p.au.take 40)).2 } :=
 { h with ask:=λc a=>(VF _ _ _ c a).elim (h.ask c) nB }
theorem NOk.ib(h:NOk n p)(c:i<5):NOk n (p.ib i).1/\(p.ib i).1.bw=p.bw/\(p.ib i).1.ae=p.ae/\(∀ m∈(p.ib i).2,LOk m)/\(p.ib i).2.length<=1:=by
 have b:(Bd p.vo.p p.cl (p.au.take 40)).1.length<=40:=na (XH _ _ _) (by rw[j'];omega);unfold Nod.ib;split
 .exact⟨h.asks,rfl,rfl,λm a=>(by cases a),nM _⟩
 .split
  .have:=h.asks.eo (Bd p.vo.p p.cl (p.au.take 40)).1;exact⟨this.1,this.2.1,this.2.2,λm a=>(by cases a),nM _⟩
  .have hr:=h.vp.uN;refine⟨h.asks,rfl,rfl,λm a=>?_,A' _⟩;rw[D'.1 a];exact⟨by show 6<7;decide,c,by show p.vo.p.n.toNat<5;omega,Ap.b0,BR.nil,b,λh=>by cases h⟩
theorem NOk.dc(h:NOk n p):NOk n p.dc/\AB p.dc.bw<=AB p.bw+4/\p.dc.ae=p.ae:=by
 unfold Nod.dc;split
 .exact⟨h,by omega,rfl⟩
 .split
  .exact⟨h,by omega,rfl⟩
  .rename_i c _
   split
   .exact⟨h,by omega,rfl⟩
   .have hv:=h.dT ⟨(p.ae.length:Int),p.bn.hZ,c⟩;have a:NOk n { (p.dT ⟨(p.ae.length:Int),p.bn.hZ,c⟩).1 with bn:={ p.bn with next:=p.ae.length+1 } }:={ hv.1 with qu:=h.qu,he:=h.he };refine⟨a.wait trivial,?_,hv.2.2.1⟩;show AB ((p.dT ⟨(p.ae.length:Int),p.bn.hZ,c⟩).1.bw++[_])<=_;rw[FT,hv.2.1];exact A' _
theorem NOk.bN(h:NOk n p)(e:i<5)(a:List Let)(d:∀ m∈a,LOk m):NOk n (p.bN i a).1/\(p.bN i a).1.bw=p.bw/\(∀ m∈(p.bN i a).2,LOk m)/\(p.bN i a).2.length<=a.length+5:=by
 have g:=h.ag;have f:∀ k,k<=5->∀ m∈Dw p i k,LOk m:=by
  intro k;induction k with
  | zero=>exact λ_ m b=>by cases b
  | succ k ih =>
   intro j m b;rw[Dw]at b
   rcases O'.1 b with h1|h1
   .exact ih (by omega) m h1
   .split at h1
    .rename_i c
     have c:=nT c;rw[D'.1 h1];exact⟨by show 5<7;decide,e,by show k<5;omega,Ap.b0,BR.nil,by show(p.ae.drop _).length<=40;rw[nu];omega,λ_=>by show p.bn.bN k+(p.ae.drop _).length<=40;rw[nu];omega⟩
    .cases h1
 unfold Nod.bN;split
 .refine⟨{ h with qu:=h.qu,he:=h.he },rfl,λm b=>?_,by show(a++Dw p i 5).length<=_;rw[E'];have:=Vo p i 5;omega⟩;rcases O'.1 b with h1|h1
  .exact d m h1
  .exact f 5 (A' _) m h1
 .exact⟨h,rfl,d,r8 _ _⟩
theorem NOk.fv(h:NOk n p)(c:Cmd):NOk n (p.fv c)/\(p.fv c).au.length+(if(p.cl c).isSome=true then 1 else 0)<=p.au.length:=by
 unfold Nod.fv;split
 .rename_i h1
  have b:=h.ask c h1;have e:(p.au.erase c).length=p.au.length-1:=qi b;have f:0<p.au.length:=qy b;refine⟨{ h with wa:=?_,ask:=λd a=>?_ },by show(p.au.erase c).length+1<=_;omega⟩
  .show(p.au.erase c).length<=n;have:=h.wa;omega
  .unfold BZ at a;simp only at a;split at a
   .cases a
   .rename_i hne;exact(rp hne).2 (h.ask d a)
 .exact⟨h,A' _⟩
theorem GR(p:Nod)(c:Cmd):(p.fv c).up=p.up/\(p.fv c).bw=p.bw/\(p.fv c).ae=p.ae/\(p.fv c).done=p.done/\(p.fv c).ln=p.ln:=by
 unfold Nod.fv;split<;>exact⟨rfl,rfl,rfl,rfl,rfl⟩
theorem Ys(i:Nat)(l:List Cmd)(p:Nod)(a:List Tol)(h:NOk n p)(j:p.done+l.length<=p.ae.length) :
  NOk n (sD i l p a).1/\(sD i l p a).1.bw=p.bw/\(sD i l p a).1.ae=p.ae/\(sD i l p a).2.length+(sD i l p a).1.au.length<=a.length+p.au.length:=by
 induction l generalizing p a with
 | nil=>exact⟨h,rfl,rfl,A' _⟩
 | cons c l ih =>
  rw[sD];split
  .exact⟨h,rfl,rfl,A' _⟩
  .rw[nQ]at j
   have g:NOk n { p with ln:=doS p.ln c,done:=p.done+1 }:={ h with dn:=by show p.done+1<=p.ae.length;omega };have e:=g.fv c;have b:=GR { p with ln:=doS p.ln c,done:=p.done+1 } c;obtain⟨k,m,o,q⟩:=ih (Nod.fv { p with ln:=doS p.ln c,done:=p.done+1 } c) (if(p.cl c).isSome=true then a++[⟨i,c.c,c.s,doC p.ln c,doA p.ln c⟩]else a) e.1 (by rw[b.2.2.2.1,b.2.2.1];show p.done+1+l.length<=p.ae.length;omega);refine⟨k,m.trans b.2.1,o.trans b.2.2.1,na q ?_⟩;have d:=e.2;simp only at d;by_cases f:(p.cl c).isSome=true
   .rw[if_pos f]at d ⊢
    rw[E'];show a.length+1+_<=_;omega
   .rw[if_neg f]at d ⊢;omega
theorem NOk.piece(h:NOk n p)(f:i<5){ls:List Let}{ts:List Tol}(r:ls.length+AB p.bw<80000000)(k:∀ m∈ls,LOk m) :
  NOk n (p.piece i ls ts).1/\(∀ m∈(p.piece i ls ts).2.1,LOk m)/\(p.piece i ls ts).2.1.length+AB (p.piece i ls ts).1.bw<=ls.length+AB p.bw+10/\(p.piece i ls ts).2.2.length+(sD i (p.ae.drop p.done) p ts).1.au.length<=ts.length+p.au.length:=by
 have b:=Ys i (p.ae.drop p.done) p ts h (by rw[nu];have:=h.dn;omega);have a:=b.1.ib f;have d:=a.1.dc;have e:=d.1.ni f (ls:=ls++((sD i (p.ae.drop p.done) p ts).1.ib i).2) (by rw[E'];have:=d.2.1;have:=a.2.2.2.2;rw[a.2.1,b.2.1]at *;omega) (λm l=>by
  rcases O'.1 l with h|h
  .exact k m h
  .exact a.2.2.2.1 m h)
 have c:=e.1.bN f _ e.2.1;refine⟨c.1,c.2.2.1,?_,b.2.2.2⟩;have o:=c.2.2.2;have g:=e.2.2.1;have j:=d.2.1;have q:=a.2.2.2.2;rw[a.2.1,b.2.1]at j
 rw[E']at g
 show(Nod.bN _ i _).2.length+AB (Nod.bN _ i _).1.bw<=_;rw[c.2.1];omega
end
end
section
open Go.RowKit
section
variable{g:Gh}{ob:Nat}{w:World}
theorem Um(M:∀ b,w.heap.size<=b->g.t b=.z/\g.k b=0) :
  Calls prog 52 #[] w λe w'=>∃ (b:Nat) (g':Gh),e=.returned (.map (some b))/\TkAt g' w' b 7/\Jx g' w'/\Cg w.heap.size [.n 70 0] g w g' w':=by
 refine gI (fn:=f52) [.n 70 0] g func52 M (qR [] 6 [] λX U Y F=>kM 0 (by kernel_rfl) (by kernel_rfl) ?_);intro a V Z N v q W;have G:=q w.heap.size [];refine If 1 (b:=a) v (by decide) (by kernel_rfl) (by kernel_rfl) (by kernel_rfl) ?_;intro w4 x r;have H:=r w.heap.size [.n 70 0] (D'.2 rfl);refine If 2 (b:=a) x (by decide) (by kernel_rfl) (by kernel_rfl) (by kernel_rfl) ?_;intro w6 y s;have I:=s w.heap.size [.n 70 0] (D'.2 rfl);refine If 3 (b:=a) y (by decide) (by kernel_rfl) (by kernel_rfl) (by kernel_rfl) ?_;intro w8 A u;have J:=u w.heap.size [.n 70 0] (D'.2 rfl);refine If 4 (b:=a) A (by decide) (by kernel_rfl) (by kernel_rfl) (by kernel_rfl) ?_;intro P B d;have l:=d w.heap.size [.n 70 0] (D'.2 rfl);refine If 5 (b:=a) B (by decide) (by kernel_rfl) (by kernel_rfl) (by kernel_rfl) ?_;intro Q C h;have m:=h w.heap.size [.n 70 0] (D'.2 rfl);refine If 6 (b:=a) C (by decide) (by kernel_rfl) (by kernel_rfl) (by kernel_rfl) ?_;intro R D i;have o:=i w.heap.size [.n 70 0] (D'.2 rfl);refine If 7 (b:=a) D (by decide) (by kernel_rfl) (by kernel_rfl) (by kernel_rfl) ?_;intro S E j;have p:=j w.heap.size [.n 70 0] (D'.2 rfl);refine qR [] 3 [] λO L T c=>qE (.map (some a)) λK=>⟨a,_,rfl,(E.ch c),K.new,((((((((((F.nil [.n 70 0]).n G).trans H).trans I).trans J).trans l).trans m).trans o).trans p).n c)⟩
theorem L8{q s:Nat}{nb:Nat->Nat}{M:Meet}(h:MS q s ob nb g w M){w0:World}(hB:Base w0 g w)(hT:Tabs w0)(y:Nat)(l:Let)(hl:CU g w y l)(H:LOk l){n:Nat}(u:NOk n (M.ab l.dst))(v:(M.ab l.dst).bw.length<100000000) :
  Calls prog 102 #[pt q 0,pt y 0] w (MP q s ob nb g w (.tuple #[]) (M.nn l)):=by
 have o:=hl;obtain⟨O,src,dst,A,dT,j,p,d⟩:=l;have hs:src<5:=H.src;have m:dst<5:=H.dst;have a7:O<7:=H.kd;have b6:d.length<=40:=H.wh;simp only at u v;obtain⟨x,hN⟩:=h.ab dst m;have b5:=u.ag;refine gI (fn:=f102) TM g func102 h.new (Ct ⟨q,_,.z,false⟩ (λ_=>⟨h.box.r,h.box.z,λh=>(by cases h),λh=>absurd rfl h⟩) (by kernel_rfl) ?_);obtain⟨vs,wh,a8,d2,d3⟩:=hl;refine Ct ⟨y,.cells (FK (Let.mk O src dst A dT j p d) vs wh) 183,.z,false⟩ (λ_=>⟨a8.r,a8.z,λh=>(by cases h),λh=>absurd rfl h⟩) (by kernel_rfl) ?_;refine qR [] 9 [10,0,2,4,6,8,1,10,12] λs1 g1 w1 a=>?_;refine QI 7 (pt q dst) false (λW hW=>(by rcases sc m with rfl|rfl|rfl|rfl|rfl<;>kernel_rfl)) (by kernel_rfl) ?_;refine qU 8 (pt (nb dst) 0) (λW hW=>(D2 underlying117 rfl (UU (Ba.at (hW rfl) 0 q (.cells (mtA nb ob s) 120) .z (by kernel_rfl)) m))) (qR [] 7 [18] λs3 g3 w3 b=>?_);have b4:=hN.ch (a.trans b);refine qN b4 (qR [] 2 [2] λs4 g4 w4 c=>?_);by_cases h1:(M.ab dst).up=true
 .refine qI ((M.ab dst).up) true h1 ?_;have J:=h.tk.ch ((a.trans b).trans c) (by simp);refine I8 s _ 70 0 J.row J.t J.k (by kernel_rfl) ?_;rw[show M.nn (Let.mk O src dst A dT j p d)=M.set dst ((M.ab dst).take (Let.mk O src dst A dT j p d)) M.br M.eb from if_pos h1];refine qR [] 9 [11,0,2,4,6,0,8,10,12,14,1] λs5 g5 w5 e=>qU 8 (tkV O) (λW hW=>(rTk (Ba.at (hW rfl) 3 s (.map (tkL 7).toArray 7) (.n 70 0) (by kernel_rfl)) a7)) (qR [] 2 [18,20] λs6 I L i=>?_);rcases aU a7 with rfl|rfl|rfl|rfl|rfl|rfl|rfl
  .refine Af λK=>?_;have N7:MS q s ob nb I L M:=(h.sF ((((a.trans b).trans c).trans e).trans i) K.new);refine qG 11 TM [true,true,false,false] ((N7).call m (Jn ((N7).ns m) (hB.ch (((((a.nil TM).n b).n c).n e).n i) F7) hT y _ (o.ch ((((a.trans b).trans c).trans e).trans i) (by simp)) rfl v)) ?_;rintro N w7 ⟨g7,rfl,M7,c7⟩;refine⟨_,g7,rfl,c7,M7.new,?_⟩;replace c7:=c7.ret (B:=w.heap.size);refine qR [] 1 [] λs8 g8 w8 c8=>qE (.tuple #[]) λK=>⟨_,rfl,(M7.sF c8 K.new),(((((((a.nil TM).n b).n c).n e).n i).trans (c7)).n c8)⟩
  .refine Af λK=>?_;have N9:MS q s ob nb I L M:=(h.sF ((((a.trans b).trans c).trans e).trans i) K.new);refine qG 11 TM [true,true,false,false] ((N9).call m (KU ((N9).ns m) (hB.ch (((((a.nil TM).n b).n c).n e).n i) F7) hT y _ (o.ch ((((a.trans b).trans c).trans e).trans i) (by simp)) rfl hs (by show((M.ab dst).ae++d.drop ((M.ab dst).ae.length-0)).length<=40;rw[E',nu];omega) b6 (rJ (u.he src).len (by decide)))) ?_;rintro N w9 ⟨g9,rfl,M9,c9⟩;refine⟨_,g9,rfl,c9,M9.new,?_⟩;replace c9:=c9.ret (B:=w.heap.size);refine qR [] 1 [] λd4 b7 e1 a0=>qE (.tuple #[]) λK=>⟨_,rfl,(M9.sF a0 K.new),(((((((a.nil TM).n b).n c).n e).n i).trans (c9)).n a0)⟩
  .refine Af λK=>?_;have U:MS q s ob nb I L M:=(h.sF ((((a.trans b).trans c).trans e).trans i) K.new);refine qG 11 TM [true,true,false,false] ((U).call m (KV ((U).ns m) y _ (o.ch ((((a.trans b).trans c).trans e).trans i) (by simp)))) ?_;rintro N e2 ⟨a9,rfl,P,C⟩;refine⟨_,a9,rfl,C,P.new,?_⟩;replace C:=C.ret (B:=w.heap.size);refine qR [] 1 [] λd5 b8 e3 a1=>qE (.tuple #[]) λK=>⟨_,rfl,(P.sF a1 K.new),(((((((a.nil TM).n b).n c).n e).n i).trans (C)).n a1)⟩
  .refine Af λK=>?_;have V:MS q s ob nb I L M:=(h.sF ((((a.trans b).trans c).trans e).trans i) K.new);refine qG 11 TM [true,true,false,false] ((V).call m (JY ((V).ns m) (hB.ch (((((a.nil TM).n b).n c).n e).n i) F7) hT y _ (o.ch ((((a.trans b).trans c).trans e).trans i) (by simp)) rfl v (by have:=u.vs.len;omega))) ?_;rintro N e4 ⟨b0,rfl,Q,D⟩;refine⟨_,b0,rfl,D,Q.new,?_⟩;replace D:=D.ret (B:=w.heap.size);refine qR [] 1 [] λd6 b9 e5 a2=>qE (.tuple #[]) λK=>⟨_,rfl,(Q.sF a2 K.new),(((((((a.nil TM).n b).n c).n e).n i).trans (D)).n a2)⟩
  .refine Af λK=>?_;have X:MS q s ob nb I L M:=(h.sF ((((a.trans b).trans c).trans e).trans i) K.new);refine qG 11 TM [true,true,false,false] ((X).call m (PW ((X).ns m) (hB.ch (((((a.nil TM).n b).n c).n e).n i) F7) hT y _ (o.ch ((((a.trans b).trans c).trans e).trans i) (by simp)) hs b5)) ?_;rintro N e6 ⟨b1,rfl,R,E⟩;refine⟨_,b1,rfl,E,R.new,?_⟩;replace E:=E.ret (B:=w.heap.size);refine qR [] 1 [] λd7 c0 e7 a3=>qE (.tuple #[]) λK=>⟨_,rfl,(R.sF a3 K.new),(((((((a.nil TM).n b).n c).n e).n i).trans (E)).n a3)⟩
  .refine Af λK=>?_;have Y:MS q s ob nb I L M:=(h.sF ((((a.trans b).trans c).trans e).trans i) K.new);refine qG 11 TM [true,true,false,false] ((Y).call m (PV ((Y).ns m) y _ (o.ch ((((a.trans b).trans c).trans e).trans i) (by simp)) rfl v (by omega) (by show d.length<_;omega))) ?_;rintro N e8 ⟨b2,rfl,S,F⟩;refine⟨_,b2,rfl,F,S.new,?_⟩;replace F:=F.ret (B:=w.heap.size);refine qR [] 1 [] λd8 c2 e9 a4=>qE (.tuple #[]) λK=>⟨_,rfl,(S.sF a4 K.new),(((((((a.nil TM).n b).n c).n e).n i).trans (F)).n a4)⟩
  .refine Af λK=>?_;have Z:MS q s ob nb I L M:=(h.sF ((((a.trans b).trans c).trans e).trans i) K.new);refine qG 11 TM [true,true,false,false] ((Z).call m (MW ((Z).ns m) y _ (o.ch ((((a.trans b).trans c).trans e).trans i) (by simp)) rfl v (by show d.length<_;omega) u.qu)) ?_;rintro N f0 ⟨b3,rfl,T,G⟩;refine⟨_,b3,rfl,G,T.new,?_⟩;replace G:=G.ret (B:=w.heap.size);refine qR [] 1 [] λd9 d0 f1 a5=>qE (.tuple #[]) λK=>⟨_,rfl,(T.sF a5 K.new),(((((((a.nil TM).n b).n c).n e).n i).trans (G)).n a5)⟩
 .refine qI ((M.ab dst).up) false (by simpa using h1) (qR [] 1 [] λe0 d1 f2 a6=>qE (.tuple #[]) λK=>?_);rw[show M.nn (Let.mk O src dst A dT j p d)=M from if_neg h1];exact⟨_,rfl,(h.sF (((a.trans b).trans c).trans a6) K.new),((((a.nil TM).n b).n c).n a6)⟩
def nx0(b:Nat):NX:=NX.mk s30 s30 s30 s30 s30 s30 (λ_=>s30) (some b)
theorem Ra{i nb b:Nat}(d:w.heap[nb]?=some (.cells (AJ i ob Cz (nx0 b)) 137))(e:g.t nb=.n 0 i)(c:g.k nb=0)(a:AskAt g w (.n 5 i) b (λ_=>none)):NodeAt g w i nb ob (nx0 b) Cz :=
 ⟨d,e,c,⟨⟨⟨none,0,rfl,A' _,λ_=>rfl,.inl rfl⟩,by simp[Cz],by simp[Cz]⟩,λh=>absurd rfl h⟩,⟨Sv.nil _,λh=>absurd rfl h⟩,λ_ _=>⟨Sv.nil _,λh=>absurd rfl h⟩,⟨[],OwnS.nil _ _ _ _ _ _,Pends.nil _ _ _⟩,OwnS.nil _ _ _ _ _ _,OwnS.nil _ _ _ _ _ _,OwnS.nil _ _ _ _ _ _,a,λ_=>⟨b,rfl⟩⟩
def nbF(a b c d e:Nat):Nat->Nat
 | 0=>a
 | 1=>b
 | 2=>c
 | 3=>d
 | _=>e
theorem Mi(hg:∀ b,w.heap.size<=b->g.t b=.z/\g.k b=0) :
  Calls prog 33 #[] w λe w'=>∃ (mb tb ob:Nat) (nb:Nat->Nat) (g':Gh),e=.returned (pt mb 0)/\MS mb tb ob nb g' w' Ag/\Cg w.heap.size [.n 70 0] g w g' w':=by
 refine gI (fn:=f33) [.n 70 0] g func33 hg (qR [] 8 [52,0] λa g1 w1 c1=>Af λK=>qG 2 [.n 70 0] [true] (Um K.new) ?_);rintro R w2 ⟨tb,g2,rfl,A2,n2,T⟩;refine⟨_,g2,rfl,T,n2,?_⟩;replace T:=T.ret (B:=w.heap.size);refine qR [] 10 [1,0] λs3 g3 w3 c3=>gk 5 27 [(1,pt (s3 0) 0),(8,iv 0)] [true,true] [⟨(a 0),.cells #[sn,sn] 114,.n 50 0,false⟩,⟨(s3 0),.cells #[.pointer none,.pointer none,.pointer none,.pointer none,.pointer none,pt (a 0) 0,.map (some tb)] 120,.l,false⟩] (by kernel_rfl) (by kernel_rfl) (by kernel_rfl) (by kernel_rfl) λN E z=>qR [] 25 [14,0,2,4,6,8,10,12,1,14,22,24] λs5 g5 w5 c5=>Af λK=>qG 8 [] [true,true] (Bi 0 K.new Eq s30) ?_;rintro R w6 ⟨L,g6,rfl,A6,n6,Q⟩;refine⟨_,g6,rfl,Q,n6,?_⟩;replace Q:=Q.ret (B:=w.heap.size);refine qR [] 10 [18,21,2,0,26,29,1,0] λA g7 w7 X=>ET (N 5) 27 [(1,pt (s3 0) 0),(8,iv 1)] [true,true,true] [⟨(a 0),.cells #[sn,sn] 114,.n 50 0,false⟩,⟨(s3 0),.cells #[pt (A 0) 0,.pointer none,.pointer none,.pointer none,.pointer none,pt (a 0) 0,.map (some tb)] 120,.l,false⟩,⟨(A 0),.cells (AJ 0 (a 0) Cz (nx0 L)) 137,.n 0 0,false⟩] (by kernel_rfl) (by kernel_rfl) (by kernel_rfl) (by kernel_rfl) (by kernel_rfl) λz S K=>E 4 _ _ _ _ _ ?_ K;refine qR [] 25 [14,0,2,4,6,8,10,12,1,14,22,24] λs8 g8 w8 Y=>Af λK=>qG 8 [] [true,true,true] (Bi 1 K.new Eq s30) ?_;rintro R w9 ⟨P,g9,rfl,A9,n9,M⟩;refine⟨_,g9,rfl,M,n9,?_⟩;replace M:=M.ret (B:=w.heap.size);refine qR [] 10 [18,21,2,1,26,29,1,0] λc a5 c0 H=>ET (N 4) 27 [(1,pt (s3 0) 0),(8,iv 2)] [true,true,true,true] [⟨(a 0),.cells #[sn,sn] 114,.n 50 0,false⟩,⟨(s3 0),.cells #[pt (A 0) 0,pt (c 0) 0,.pointer none,.pointer none,.pointer none,pt (a 0) 0,.map (some tb)] 120,.l,false⟩,⟨(A 0),.cells (AJ 0 (a 0) Cz (nx0 L)) 137,.n 0 0,false⟩,⟨(c 0),.cells (AJ 1 (a 0) Cz (nx0 P)) 137,.n 0 1,false⟩] (by kernel_rfl) (by kernel_rfl) (by kernel_rfl) (by kernel_rfl) (by kernel_rfl) λz S K=>E 3 _ _ _ _ _ ?_ K;refine qR [] 25 [14,0,2,4,6,8,10,12,1,14,22,24] λb4 a6 c4 I=>Af λK=>qG 8 [] [true,true,true,true] (Bi 2 K.new Eq s30) ?_;rintro R d0 ⟨G,Z,rfl,U,a2,p⟩;refine⟨_,Z,rfl,p,a2,?_⟩;replace p:=p.ret (B:=w.heap.size);refine qR [] 10 [18,21,2,2,26,29,1,0] λj a7 d1 C=>ET (N 3) 27 [(1,pt (s3 0) 0),(8,iv 3)] [true,true,true,true,true] [⟨(a 0),.cells #[sn,sn] 114,.n 50 0,false⟩,⟨(s3 0),.cells #[pt (A 0) 0,pt (c 0) 0,pt (j 0) 0,.pointer none,.pointer none,pt (a 0) 0,.map (some tb)] 120,.l,false⟩,⟨(A 0),.cells (AJ 0 (a 0) Cz (nx0 L)) 137,.n 0 0,false⟩,⟨(c 0),.cells (AJ 1 (a 0) Cz (nx0 P)) 137,.n 0 1,false⟩,⟨(j 0),.cells (AJ 2 (a 0) Cz (nx0 G)) 137,.n 0 2,false⟩] (by kernel_rfl) (by kernel_rfl) (by kernel_rfl) (by kernel_rfl) (by kernel_rfl) λz S K=>E 2 _ _ _ _ _ ?_ K;refine qR [] 25 [14,0,2,4,6,8,10,12,1,14,22,24] λb5 a8 d2 D=>Af λK=>qG 8 [] [true,true,true,true,true] (Bi 3 K.new Eq s30) ?_;rintro R d3 ⟨J,a0,rfl,V,a3,o⟩;refine⟨_,a0,rfl,o,a3,?_⟩;replace o:=o.ret (B:=w.heap.size);refine qR [] 10 [18,21,2,3,26,29,1,0] λu a9 d4 x=>ET (N 2) 27 [(1,pt (s3 0) 0),(8,iv 4)] [true,true,true,true,true,true] [⟨(a 0),.cells #[sn,sn] 114,.n 50 0,false⟩,⟨(s3 0),.cells #[pt (A 0) 0,pt (c 0) 0,pt (j 0) 0,pt (u 0) 0,.pointer none,pt (a 0) 0,.map (some tb)] 120,.l,false⟩,⟨(A 0),.cells (AJ 0 (a 0) Cz (nx0 L)) 137,.n 0 0,false⟩,⟨(c 0),.cells (AJ 1 (a 0) Cz (nx0 P)) 137,.n 0 1,false⟩,⟨(j 0),.cells (AJ 2 (a 0) Cz (nx0 G)) 137,.n 0 2,false⟩,⟨(u 0),.cells (AJ 3 (a 0) Cz (nx0 J)) 137,.n 0 3,false⟩] (by kernel_rfl) (by kernel_rfl) (by kernel_rfl) (by kernel_rfl) (by kernel_rfl) λz S K=>E 1 _ _ _ _ _ ?_ K;refine qR [] 25 [14,0,2,4,6,8,10,12,1,14,22,24] λb7 b0 d5 y=>Af λK=>qG 8 [] [true,true,true,true,true,true] (Bi 4 K.new Eq s30) ?_;rintro R d6 ⟨O,a1,rfl,W,a4,d⟩;refine⟨_,a1,rfl,d,a4,?_⟩;replace d:=d.ret (B:=w.heap.size);refine qR [] 10 [18,21,2,4,26,29,1,0] λF b1 d7 q=>ET (N 1) 27 [(1,pt (s3 0) 0),(8,iv 5)] [true,true,true,true,true,true,true] [⟨(a 0),.cells #[sn,sn] 114,.n 50 0,false⟩,⟨(s3 0),.cells #[pt (A 0) 0,pt (c 0) 0,pt (j 0) 0,pt (u 0) 0,pt (F 0) 0,pt (a 0) 0,.map (some tb)] 120,.l,false⟩,⟨(A 0),.cells (AJ 0 (a 0) Cz (nx0 L)) 137,.n 0 0,false⟩,⟨(c 0),.cells (AJ 1 (a 0) Cz (nx0 P)) 137,.n 0 1,false⟩,⟨(j 0),.cells (AJ 2 (a 0) Cz (nx0 G)) 137,.n 0 2,false⟩,⟨(u 0),.cells (AJ 3 (a 0) Cz (nx0 J)) 137,.n 0 3,false⟩,⟨(F 0),.cells (AJ 4 (a 0) Cz (nx0 O)) 137,.n 0 4,false⟩] (by kernel_rfl) (by kernel_rfl) (by kernel_rfl) (by kernel_rfl) (by kernel_rfl) λz S K=>E 0 _ _ _ _ _ ?_ K;refine qR [] 12 [] λb8 b2 d8 r=>kL 1 (s3 0) (by kernel_rfl) λb3 s=>qE (pt (s3 0) 0) λK=>⟨(s3 0),tb,(a 0),(nbF (A 0) (c 0) (j 0) (u 0) (F 0)),_,rfl,?_,((((((((((((((((((((c1.nil [.n 70 0]).trans T).n c3).n c5).n Q).n X).n Y).n M).n H).n I).n p).n C).n D).n o).n x).n y).n d).n q).n r).n s)⟩;obtain⟨z1,z2⟩:=K.sP 1 (s3 0) (.cells (mtA (nbF (A 0) (c 0) (j 0) (u 0) (F 0)) (a 0) tb) 120) false (by kernel_rfl);obtain⟨o1,o2,o3⟩:=K.sQ 0 (a 0) (.cells #[S3.v s30,S3.v s30] 114) 50 0 (by kernel_rfl);obtain⟨q0,r0,t0⟩:=K.sQ 2 (A 0) (.cells (AJ 0 (a 0) Cz (nx0 L)) 137) 0 0 (by kernel_rfl);obtain⟨q1,r1,t1⟩:=K.sQ 3 (c 0) (.cells (AJ 1 (a 0) Cz (nx0 P)) 137) 0 1 (by kernel_rfl);obtain⟨q2,r2,t2⟩:=K.sQ 4 (j 0) (.cells (AJ 2 (a 0) Cz (nx0 G)) 137) 0 2 (by kernel_rfl);obtain⟨q3,r3,t3⟩:=K.sQ 5 (u 0) (.cells (AJ 3 (a 0) Cz (nx0 J)) 137) 0 3 (by kernel_rfl);obtain⟨q4,r4,t4⟩:=K.sQ 6 (F 0) (.cells (AJ 4 (a 0) Cz (nx0 O)) 137) 0 4 (by kernel_rfl);refine⟨⟨z1,z2⟩,((((((((((((((((((A2.ch c3).ch c5).ch Q).ch X).ch Y).ch M).ch H).ch I).ch p).ch C).ch D).ch o).ch x).ch y).ch d).ch q).ch r).ch s),λi hi=>?_,⟨s30,s30,o1,o2,o3,⟨[],OwnS.nil _ _ _ _ _ _,⟨rfl,λk b m h=>(by cases h)⟩⟩,OwnS.nil _ _ _ _ _ _⟩,K.new⟩;rcases sc hi with rfl|rfl|rfl|rfl|rfl
 .exact⟨_,Ra q0 r0 t0 (((((((((((((((A6.ch X).ch Y).ch M).ch H).ch I).ch p).ch C).ch D).ch o).ch x).ch y).ch d).ch q).ch r).ch s)⟩
 .exact⟨_,Ra q1 r1 t1 ((((((((((((A9.ch H).ch I).ch p).ch C).ch D).ch o).ch x).ch y).ch d).ch q).ch r).ch s)⟩
 .exact⟨_,Ra q2 r2 t2 (((((((((U.ch C).ch D).ch o).ch x).ch y).ch d).ch q).ch r).ch s)⟩
 .exact⟨_,Ra q3 r3 t3 ((((((V.ch x).ch y).ch d).ch q).ch r).ch s)⟩
 .exact⟨_,Ra q4 r4 t4 (((W.ch q).ch r).ch s)⟩
end
section
variable{P:Program}{B:Nat}{T:List Tg}{g:Gh}{w:World}
section
variable{x:S3}{xs:List Value}{τ:Tg}
theorem OwnS.uc{e:TypeId}{d:Nat}(h:OwnS g w τ false e d x xs){k:Nat}(f:k<=x.n)(i:0<x.n):OwnS g w τ false e d ⟨x.a,k,x.c⟩ (xs.take (k*d)):=by
 have l:=h.len;have j:k*d<=x.n*d:=pH _ f;refine⟨by rw[j'];show min _ _=k*d;omega,?_⟩;rcases h.ex with⟨h1,h2,h3⟩|⟨b,cur,h1,h2,h3,h4,h5,h6,h7,h8⟩
 .omega
 .refine .inr ⟨b,cur,h1,h2,na f h3,h4,h5,?_,h7,h8⟩;show cur.toList.take (k*d)=xs.take (k*d);rw[<- h6,pT,oJ j]
theorem kn(t A e:TypeId)(i:TypeInfo)(I:P.underlying t=some (.slice e))(E:P.info? e=some i)(s:τ∈T)(z:OwnS g w τ false e i.size x xs)(a:Addr)(m c:Nat)(news:List Value)(G:0<x.c)(r:news.length=m*i.size)(l:∀ j u,news[j]?=some u->w.cell? (a.add j)=some u)(C:∀ u∈news,u.oneCell'=true)(f:x.n+m<=x.c) :
  ∃ w',(Builtin.append_ #[t,t] A #[x.v,.slice (some a) m c]).run P w=.ok (S3.v ⟨x.a,x.n+m,x.c⟩) w'/\OwnS g w' τ false e i.size ⟨x.a,x.n+m,x.c⟩ (xs++news)/\Cg B T g w g w'/\w'.heap.size=w.heap.size:=by
 obtain⟨K,y,J⟩:=x;have h:(xs++news).length=(y+m)*i.size:=by rw[E',z.len,r,qJ]
 rcases z.ex with⟨h2,h3,h4⟩|⟨b,cur,h2,h3,h4,h5,h6,h7,h8,h9⟩
 .simp only at h4 f G;omega
 .simp only at h2 h4 h5 h6 h7 f;subst h2;have p:y*i.size+news.length<=cur.size:=by rw[r,h6,<- qJ];exact pH _ f
  have H:=run_append_room (P:=P) w t A e i I E b y J cur h3 a m c news r l C f p;have o:g.k b=0:=by simpa using h9
  refine⟨_,H,⟨h,.inr ⟨b,_,rfl,setRow_heap w b cur _ e _ h3,f,h5,?_,?_,h8,by rw[o];rfl⟩⟩,⟨rfl,rfl,rfl,by simp,λ_ _=>.inl rfl,λ_ _=>A' _,λ_ _ _ _=>rfl,λd D q _=>setRow_other w b d _ (λe=>q (by rw[e,h8];exact s)),λd D j F=>?_⟩,by simp⟩
  .simp only[pI,E',j',nu,oU];omega
  .rw[h7,<- h];exact rM
  .exact World.cell?_of_block (w:=w) (setRow_other w b d _ (λe=>by rw[e,o]at F;omega))
theorem kw(t J e:TypeId)(z:Value)(f:Nat)(H:P.underlying t=some (.slice e))(I:∀ w,(zeroValue e).run P w=.ok z w)(r:z.cells.size=f)(A:0<f)(C:∀ j,j<f->(z.cells[j]!).oneCell'=true)(D:τ∈T)(E:OwnS g w τ false e f x xs){b:Nat}(s:x.a=some ⟨b,0,none⟩)(k c:Nat)(K:0<k)(i:x.n+k<=x.c) :
  ∃ w',(Builtin.clear_ #[t] J #[.slice (some ⟨b,x.n*f,none⟩) k c]).run P w=.ok (.tuple #[]) w'/\OwnS g w' τ false e f x xs/\Cg B T g w g w'/\w'.heap.size=w.heap.size:=by
 rcases E.ex with⟨h2,h3,h4⟩|⟨b',cur,h2,h3,h4,h5,h6,h7,h8,h9⟩
 .rw[h2]at s;cases s
 .rw[s]at h2
  simp only[Z',Addr.mk.injEq,and_true]at h2;subst h2;have u:g.k b=0:=by simpa using h9
  have l:(Builtin.zeroCells z.cells k).toList.length=k*f:=by rw[oU,size_zeroCells,r]
  have h:x.n*f+0+(Builtin.zeroCells z.cells k).toList.length<=cur.size:=by rw[l,h6,pD,<- qJ];exact pH _ i
  have o:∀ v∈(Builtin.zeroCells z.cells k).toList,v.oneCell'=true:=by
   intro v q;simp only[Builtin.zeroCells,Array.toList_map,nF]at q;obtain⟨j,_,rfl⟩:=q;exact C _ (by rw[r];exact Nat.mod_lt _ A)
  have p:=run_storeCells_at (P:=P) b (x.n*f) e (Builtin.zeroCells z.cells k).toList 0 cur w h3 h o;simp only[pD]at p;obtain⟨m,rfl⟩:∃ m,k=m+1:=⟨k-1,by omega⟩;refine⟨_,by simp only[Builtin.clear_,ol,oM,Sem.run_bind,run_underlying H,Result.andThen_ok,I,p];rfl,⟨E.len,.inr ⟨b,_,s,setRow_heap w b cur _ e _ h3,h4,h5,?_,?_,h8,h9⟩⟩,⟨rfl,rfl,rfl,by simp,λ_ _=>.inl rfl,λ_ _=>A' _,λ_ _ _ _=>rfl,λd F y _=>setRow_other w b d _ (λe=>y (by rw[e,h8];exact D)),λd F j G=>?_⟩,by simp⟩
  .rw[l]at h ⊢
   simp only[pI,E',j',nu,oU,l];simp only[pD]at h;omega
  .have hle:x.n*f<=cur.toList.length:=by rw[oU,h6];exact pH _ h4
   show(cur.toList.take (x.n*f)++_++_).take (x.n*f)=xs;rw[nm,nG (by rw[j'];omega),pT,Nat.min_self,h7]
  .exact World.cell?_of_block (w:=w) (setRow_other w b d _ (λe=>by rw[e,u]at G;omega))
end
end
section
variable{fn:Func}{R:Ending->World->Prop}{B:Nat}{T:List Tg}{g:Gh}{w W:World}
section
theorem KD(b o k:Nat):(⟨b,o,none⟩:Addr).add k=⟨b,o+k,none⟩:=by
 unfold Addr.add;split
 .rename_i h;simp[]
 .rfl
theorem mL(b n c l h m:Nat)(a:l<=h)(d:h<=m)(e:m<=c)(f:l<m):(Instr.sliceAt 55 (.slice (some ⟨b,0,none⟩) n c) (some (iv (l:Int))) (some (iv (h:Int))) (some (iv (m:Int)))).run prog W=.ok (.slice (some ⟨b,l*5,none⟩) (h-l) (m-l)) W:=by
 rw[run_sliceAt_slice _ _ _ _ _ _ unC,run_slice_lhm (P:=prog) (w:=W) _ _ _ _ unC .i64 .i64 .i64 l h m (by omega) (by omega) (by omega) (by omega),sz5];simp[Result.andThen,sliced,KD];omega
theorem mK(b n c l h:Nat)(a:l<=h)(d:h<=c)(e:l<c):(Instr.sliceAt 55 (.slice (some ⟨b,0,none⟩) n c) (some (iv (l:Int))) (some (iv (h:Int))) none).run prog W=.ok (.slice (some ⟨b,l*5,none⟩) (h-l) (c-l)) W:=by
 rw[run_sliceAt_slice _ _ _ _ _ _ unC,run_slice_lh (P:=prog) (w:=W) _ _ _ _ unC .i64 .i64 l h (by omega) (by omega) (by omega),sz5];simp[Result.andThen,sliced,KD];omega
theorem mM(b n c h:Nat)(a:h<=c):(Instr.sliceAt 55 (.slice (some ⟨b,0,none⟩) n c) none (some (iv (h:Int))) none).run prog W=.ok (.slice (some ⟨b,0,none⟩) h c) W:=by
 rw[run_sliceAt_slice _ _ _ _ _ _ unC,run_slice_h (P:=prog) (w:=W) _ _ _ _ unC .i64 h (by omega) (by omega),sz5];simp[Result.andThen,sliced,KD]
theorem mN(b n c l:Nat)(a:l<=n):(Instr.sliceAt 55 (.slice (some ⟨b,0,none⟩) n c) (some (iv (l:Int))) none none).run prog W=.ok (.slice (some ⟨b,if c=l then 0 else l*5,none⟩) (n-l) (c-l)) W:=by
 rw[run_sliceAt_slice _ _ _ _ _ _ unC,run_slice_l (P:=prog) (w:=W) _ _ _ _ unC .i64 l (by omega) (by omega),sz5];simp[Result.andThen,sliced,KD];split<;>simp
variable{s:Xs}
theorem kA(p:Nat){τ:Tg}{x:S3}{J:List Value}(I:TypeId)(a:Addr)(m c:Nat)(news:List Value)(W:OwnS g w τ false 24 5 x J)(e:D3 s p=some (Builtin.append_ #[55,55] I #[x.v,.slice (some a) m c]>>=λv=>pure (.value v)))(A:(nxt s p undef s.L).o.map Ob.l'=(nxt s p undef s.L).o.map Ob.r')(r:s.L.all (λy=>[τ].all λt=>y.t.ne t)=true)(S:0<x.c)(Q:news.length=m*5)(K:∀ u∈news,u.oneCell'=true)(f:∀ j u,news[j]?=some u->w.cell? (a.add j)=some u)(h:x.n+m<=x.c)(O:∀ w',OwnS g w' τ false 24 5 ⟨x.a,x.n+m,x.c⟩ (J++news)->(∀ B T,τ∈T->Cg B T g w g w')->w'.heap.size=w.heap.size->GG prog fn R B T (nxt s p (S3.v ⟨x.a,x.n+m,x.c⟩) s.L).s g w'):GG prog fn R B T s g w:=by
 refine KK p s.L A (BW e) λG X i o C=>?_;obtain⟨d,N,k⟩:∃ d,prog.info? 24=some d/\d.size=5:=by
  have q:(prog.info? 24).map (·.size)=some 5:=by kernel_rfl
  cases hh:prog.info? 24 with
  | none=>rw[hh]at q;cases q
  | some v=>rw[hh]at q;exact⟨v,rfl,by simpa using q⟩
 obtain⟨w',U,D,M,E⟩:=kn (P:=prog) (B:=w.heap.size) (T:=[τ]) 55 I 24 d underlying55 N (D'.2 rfl) (by rw[k];exact W) a m c news S (by rw[k];exact Q) f K h;rw[k]at D
 have F:∀ B T,τ∈T->Cg B T g w g w':=λB T r=>(M.ret (B:=B)).mono λt V=>by rw[D'.1 V];exact r
 refine⟨S3.v ⟨x.a,x.n+m,x.c⟩,w',g,.inl ?_,G.ch (F _ [τ] (D'.2 rfl)) (λb H=>G.new b (by rw[E]at H;exact H)) r,O w' D F E⟩;rw[D4 e C,Sem.run_bind,U,Result.andThen_ok];rfl
theorem mx(w:World):(zeroValue 24).run prog w=.ok (.agg #[iv 0,iv 0,iv 0,iv 0,iv 0]) w:=by kernel_rfl
theorem mB(f:Nat){τ:Tg}{x:S3}{E:List Value}(D:TypeId){b:Nat}(h:x.a=some ⟨b,0,none⟩)(k c:Nat)(M:OwnS g w τ false 24 5 x E)(d:D3 s f=some (Builtin.clear_ #[55] D #[.slice (some ⟨b,x.n*5,none⟩) k c]>>=λv=>pure (.value v)))(q:(nxt s f undef s.L).o.map Ob.l'=(nxt s f undef s.L).o.map Ob.r')(m:s.L.all (λy=>[τ].all λt=>y.t.ne t)=true)(p:0<k)(e:x.n+k<=x.c)(I:∀ w',OwnS g w' τ false 24 5 x E->(∀ B T,τ∈T->Cg B T g w g w')->w'.heap.size=w.heap.size->GG prog fn R B T (nxt s f (.tuple #[]) s.L).s g w'):GG prog fn R B T s g w:=by
 refine KK f s.L q (BW d) λC N i o r=>?_;obtain⟨w',J,F,G,u⟩:=kw (P:=prog) (B:=w.heap.size) (T:=[τ]) 55 D 24 (.agg #[iv 0,iv 0,iv 0,iv 0,iv 0]) 5 underlying55 mx rfl (by decide) (λj H=>by rcases sc H with rfl|rfl|rfl|rfl|rfl<;>rfl) (D'.2 rfl) M h k c p e;have A:∀ B T,τ∈T->Cg B T g w g w':=λB T m=>(G.ret (B:=B)).mono λt K=>by rw[D'.1 K];exact m
 refine⟨.tuple #[],w',g,.inl ?_,C.ch (A _ [τ] (D'.2 rfl)) (λb h=>C.new b (by rw[u]at h;exact h)) m,I w' F A u⟩;rw[D4 d r,Sem.run_bind,J,Result.andThen_ok];rfl
end
end
theorem sz1{W:World}:(Go.sizeOf (prog.elem 112)).run prog W=.ok 1 W:=by kernel_rfl
theorem unL:prog.underlying 112=some (.slice (prog.elem 112)):=by kernel_rfl
section
variable{fn:Func}{R:Ending->World->Prop}{B:Nat}{T:List Tg}{g:Gh}{w W:World}
section
theorem lQ(b n c l h m:Nat)(a:l<=h)(d:h<=m)(e:m<=c)(f:l<m):(Instr.sliceAt 112 (.slice (some ⟨b,0,none⟩) n c) (some (iv (l:Int))) (some (iv (h:Int))) (some (iv (m:Int)))).run prog W=.ok (.slice (some ⟨b,l*1,none⟩) (h-l) (m-l)) W:=by
 rw[run_sliceAt_slice _ _ _ _ _ _ unL,run_slice_lhm (P:=prog) (w:=W) _ _ _ _ unL .i64 .i64 .i64 l h m (by omega) (by omega) (by omega) (by omega),sz1];simp[Result.andThen,sliced,KD];omega
theorem lP(b n c l h:Nat)(a:l<=h)(d:h<=c)(e:l<c):(Instr.sliceAt 112 (.slice (some ⟨b,0,none⟩) n c) (some (iv (l:Int))) (some (iv (h:Int))) none).run prog W=.ok (.slice (some ⟨b,l*1,none⟩) (h-l) (c-l)) W:=by
 rw[run_sliceAt_slice _ _ _ _ _ _ unL,run_slice_lh (P:=prog) (w:=W) _ _ _ _ unL .i64 .i64 l h (by omega) (by omega) (by omega),sz1];simp[Result.andThen,sliced,KD];omega
theorem lS(b n c h:Nat)(a:h<=c):(Instr.sliceAt 112 (.slice (some ⟨b,0,none⟩) n c) none (some (iv (h:Int))) none).run prog W=.ok (.slice (some ⟨b,0,none⟩) h c) W:=by
 rw[run_sliceAt_slice _ _ _ _ _ _ unL,run_slice_h (P:=prog) (w:=W) _ _ _ _ unL .i64 h (by omega) (by omega),sz1];simp[Result.andThen,sliced,KD]
theorem lT(b n c l:Nat)(a:l<=n):(Instr.sliceAt 112 (.slice (some ⟨b,0,none⟩) n c) (some (iv (l:Int))) none none).run prog W=.ok (.slice (some ⟨b,if c=l then 0 else l*1,none⟩) (n-l) (c-l)) W:=by
 rw[run_sliceAt_slice _ _ _ _ _ _ unL,run_slice_l (P:=prog) (w:=W) _ _ _ _ unL .i64 l (by omega) (by omega),sz1];simp[Result.andThen,sliced,KD];split<;>simp
variable{s:Xs}
theorem iF(p:Nat){τ:Tg}{x:S3}{J:List Value}(I:TypeId)(a:Addr)(m c:Nat)(news:List Value)(W:OwnS g w τ false 184 1 x J)(e:D3 s p=some (Builtin.append_ #[112,112] I #[x.v,.slice (some a) m c]>>=λv=>pure (.value v)))(A:(nxt s p undef s.L).o.map Ob.l'=(nxt s p undef s.L).o.map Ob.r')(r:s.L.all (λy=>[τ].all λt=>y.t.ne t)=true)(S:0<x.c)(Q:news.length=m*1)(K:∀ u∈news,u.oneCell'=true)(f:∀ j u,news[j]?=some u->w.cell? (a.add j)=some u)(h:x.n+m<=x.c)(O:∀ w',OwnS g w' τ false 184 1 ⟨x.a,x.n+m,x.c⟩ (J++news)->(∀ B T,τ∈T->Cg B T g w g w')->w'.heap.size=w.heap.size->GG prog fn R B T (nxt s p (S3.v ⟨x.a,x.n+m,x.c⟩) s.L).s g w'):GG prog fn R B T s g w:=by
 refine KK p s.L A (BW e) λG X i o C=>?_;obtain⟨d,N,k⟩:∃ d,prog.info? 184=some d/\d.size=1:=by
  have q:(prog.info? 184).map (·.size)=some 1:=by kernel_rfl
  cases hh:prog.info? 184 with
  | none=>rw[hh]at q;cases q
  | some v=>rw[hh]at q;exact⟨v,rfl,by simpa using q⟩
 obtain⟨w',U,D,M,E⟩:=kn (P:=prog) (B:=w.heap.size) (T:=[τ]) 112 I 184 d underlying112 N (D'.2 rfl) (by rw[k];exact W) a m c news S (by rw[k];exact Q) f K h;rw[k]at D
 have F:∀ B T,τ∈T->Cg B T g w g w':=λB T r=>(M.ret (B:=B)).mono λt V=>by rw[D'.1 V];exact r
 refine⟨S3.v ⟨x.a,x.n+m,x.c⟩,w',g,.inl ?_,G.ch (F _ [τ] (D'.2 rfl)) (λb H=>G.new b (by rw[E]at H;exact H)) r,O w' D F E⟩;rw[D4 e C,Sem.run_bind,U,Result.andThen_ok];rfl
theorem jT(w:World):(zeroValue 184).run prog w=.ok (.pointer none) w:=by kernel_rfl
theorem kD(f:Nat){τ:Tg}{x:S3}{F:List Value}(E:TypeId){b:Nat}(m:x.a=some ⟨b,0,none⟩)(k c:Nat)(N:OwnS g w τ false 184 1 x F)(d:D3 s f=some (Builtin.clear_ #[112] E #[.slice (some ⟨b,x.n*1,none⟩) k c]>>=λv=>pure (.value v)))(r:(nxt s f undef s.L).o.map Ob.l'=(nxt s f undef s.L).o.map Ob.r')(p:s.L.all (λy=>[τ].all λt=>y.t.ne t)=true)(q:0<k)(e:x.n+k<=x.c)(J:∀ w',OwnS g w' τ false 184 1 x F->(∀ B T,τ∈T->Cg B T g w g w')->w'.heap.size=w.heap.size->GG prog fn R B T (nxt s f (.tuple #[]) s.L).s g w'):GG prog fn R B T s g w:=by
 refine KK f s.L r (BW d) λD O i o u=>?_;obtain⟨w',K,G,H,A⟩:=kw (P:=prog) (B:=w.heap.size) (T:=[τ]) 112 E 184 (.pointer none) 1 underlying112 jT rfl (by decide) (λj I=>match j,I with|0,_=>rfl|j+1,h=>absurd h (by omega)) (D'.2 rfl) N m k c q e;have C:∀ B T,τ∈T->Cg B T g w g w':=λB T p=>(H.ret (B:=B)).mono λt M=>by rw[D'.1 M];exact p
 refine⟨.tuple #[],w',g,.inl ?_,D.ch (C _ [τ] (D'.2 rfl)) (λb m=>D.new b (by rw[A]at m;exact m)) p,J w' G C A⟩;rw[D4 d u,Sem.run_bind,K,Result.andThen_ok];rfl
end
end
theorem Q2{g:Gh}{w:World}{b n c:Nat}{l:List Nat}(o:OwnS g w (.n 51 0) false 184 1 ⟨some ⟨b,0,none⟩,n,c⟩ (l.map (pt · 0)))(L:∀ b,w.heap.size<=b->g.t b=.z/\g.k b=0)(j:Nat)(Z:j<l.length)(X:l.length<100000000) :
  Calls prog 101 #[.slice (some ⟨b,0,none⟩) n c,iv (j:Int),iv ((j+1:Nat):Int)] w λe w'=>∃ (x':S3) (g':Gh),e=.returned x'.v/\OwnS g' w' (.n 51 0) false 184 1 x' ((l.eraseIdx j).map (pt · 0))/\(∀ b,w'.heap.size<=b->g'.t b=.z/\g'.k b=0)/\Cg w.heap.size [.n 51 0] g w g' w':=by
 have hn:n=l.length:=by have:=o.len;simp at this;omega
 have Y:n<=c:=by rcases o.ex with⟨h,_⟩|⟨_,_,_,_,h,_⟩;cases h;exact h
 refine gI (fn:=f101) [.n 51 0] g func101 L (qR [] 11 [] λs1 S w1 y=>qV 5 (.slice (some ⟨b,j*1,none⟩) (j+1-j) (n-j)) (lQ b n c j (j+1) n (by omega) (by omega) (by omega) (by omega)) (qR [] 8 [] λs2 T w2 A=>qI (((j:Int)==((j+1:Nat):Int))) false (by simp;omega) (qR [] 11 [8,0,2] λs3 U w3 B=>qT 2 (.slice (some ⟨b,0,none⟩) j c) (λ_=>(lS b n c j (by omega))) (qR [] 2 [6,8] λs4 V w4 C=>qT 5 (.slice (some ⟨b,if c=j+1 then 0 else(j+1)*1,none⟩) (n-(j+1)) (c-(j+1))) (λ_=>(lT b n c (j+1) (by omega))) ?_))));have d:=o.ch (((y.trans A).trans B).trans C) (by simp) (by simp);have p:=d.uc (k:=j) (by show j<=n;omega) (by show 0<n;omega);refine iF 6 (x:=⟨some ⟨b,0,none⟩,j,c⟩) 112 ⟨b,if c=j+1 then 0 else(j+1)*1,none⟩ (n-(j+1)) (c-(j+1)) ((l.drop (j+1)).map (pt · 0)) p (by kernel_rfl) (by kernel_rfl) (by kernel_rfl) (by show 0<c;omega) (by simp;omega) (by intro u M;obtain⟨q,_,rfl⟩:=nF.1 M;rfl) (λq u r=>?_) (by show j+(n-(j+1))<=c;omega) ?_
 .have hlt:j+1<l.length:=by have h:=(V'.1 r).1;simp at h;omega
  rw[if_neg (by omega),KD];rw[List.map_drop,oE]at r
  obtain⟨R,E,_,J⟩:=d.cell r;simp only[Z',Addr.mk.injEq,and_true]at E;subst E;rw[show(j+1)*1+q=j+1+q by omega];exact J
 intro w6 s i N;have G:=i w.heap.size [.n 51 0] (D'.2 rfl);rw[show(l.map (pt · 0)).take (j*1)++(l.drop (j+1)).map (pt · 0)=(l.eraseIdx j).map (pt · 0)from by rw[Nat.mul_one,<- rx,<- nL,qL]]at s
 refine qR [] 8 [14] λs7 W w7 D=>qV 4 (.slice (some ⟨b,(j+(n-(j+1)))*1,none⟩) (n-(j+(n-(j+1)))) (c-(j+(n-(j+1))))) (lP b (j+(n-(j+1))) c (j+(n-(j+1))) n (by omega) (by omega) (by omega)) (kD 5 (x:=⟨some ⟨b,0,none⟩,(j+(n-(j+1))),c⟩) (b:=b) 0 rfl (n-(j+(n-(j+1)))) (c-(j+(n-(j+1)))) (s.ch D) (by kernel_rfl) (by kernel_rfl) (by kernel_rfl) (by omega) (by show(j+(n-(j+1)))+(n-(j+(n-(j+1))))<=c;omega) ?_);intro w9 F m O;have H:=m w.heap.size [.n 51 0] (D'.2 rfl);refine qR [] 6 [] λP I Q a=>qE (S3.v ⟨some ⟨b,0,none⟩,(j+(n-(j+1))),c⟩) λK=>⟨_,_,rfl,(F.ch a),K.new,((((((((y.nil [.n 51 0]).n A).n B).n C).trans G).n D).trans H).n a)⟩
end
section
section
variable{M:Meet}{k m n:Nat}{p:Nod}
theorem NOk.mono(h:NOk n p)(a:n<=m):NOk m p:={ h with wa:=na h.wa a }
theorem NOk.zero(n:Nat):NOk n Cz:=⟨nM _,A' _,nM _,nM _,λc h=>(by cases h),⟨nf _,by decide⟩,Ap.b0,BR.nil,λ_=>BR.nil,λq h=>(by cases h)⟩
theorem NOk.bare(n:Nat)(p:Nod)(up:Bool)(d:List Int)(g:Int){a:Acc}(b:Ap a.p)(e:BR a.vs)(l:List Pend)(f:∀ q∈l,POk 0 q):NOk n (p.bare up d g a l):=⟨nM _,A' _,nM _,nM _,λc h=>(by cases h),⟨nf _,by show(0:Int)<=65536;decide⟩,b,e,λ_=>BR.nil,f⟩
theorem NOk.ie(h:NOk n p)(k:Int):NOk n (p.ie k)/\AB (p.ie k).bw<=AB p.bw/\(p.ie k).au.length<=p.au.length/\(p.ie k).bad=p.bad:=by
 unfold Nod.ie;split
 .exact⟨h,A' _,A' _,rfl⟩
 .exact⟨NOk.bare n p _ _ _ Ap.b0 BR.nil [] (λq a=>(by cases a)),nM _,nM _,rfl⟩
theorem NOk.start(h:NOk n p):NOk n p.start/\AB p.start.bw<=AB p.bw+4/\p.start.au.length<=p.au.length/\p.start.bad=p.bad:=by
 have b:=eU p.d p.sy;have a:∀ q∈[Pend.start],POk 0 q:=λq a=>by rw[D'.1 a];trivial
 unfold Nod.start;split
 .exact⟨h,r8 _ _,A' _,rfl⟩
 .split
  .exact⟨NOk.bare n p _ _ _ b.1 b.2 _ a,by show 4<=_;omega,nM _,rfl⟩
  .exact⟨NOk.bare n p _ _ _ b.1 b.2 _ a,by show 4<=_;omega,nM _,rfl⟩
theorem FV(p:Nod)(b:Bal):(p.av b).1.au=p.au/\(p.av b).1.bad=p.bad/\(p.av b).1.cl=p.cl/\(p.av b).1.done=p.done/\(p.av b).1.ed=p.ed:=by
 unfold Nod.av;split
 .exact⟨rfl,rfl,rfl,rfl,rfl⟩
 .split
  .exact⟨rfl,rfl,rfl,rfl,rfl⟩
  .split<;>exact⟨rfl,rfl,rfl,rfl,rfl⟩
theorem NOk.lead(h:NOk n p)(i:Nat):NOk n (p.lead i)/\AB (p.lead i).bw<=AB p.bw+4/\(p.lead i).au=p.au/\(p.lead i).bad=p.bad:=by
 unfold Nod.lead;simp only;split
 .exact⟨h,r8 _ _,rfl,rfl⟩
 .have hp:=h.av ⟨max p.ed p.vo.p.r+1,(i:Int)⟩;have a:=FV p ⟨max p.ed p.vo.p.r+1,(i:Int)⟩;have b:NOk n { (p.av ⟨max p.ed p.vo.p.r+1,(i:Int)⟩).1 with bn:=⟨⟨max p.ed p.vo.p.r+1,(i:Int)⟩,λ_=>false,λ_=>Eq,λ_=>p.ae.length,0,[]⟩ }:={ hp.1 with qu:=nM _,he:=λ_=>BR.nil };refine⟨b.wait hp.2.2.2.1,?_,a.1,a.2.1⟩;show AB ((p.av _).1.bw++[_])<=_;rw[FT,hp.2.1];exact A' _
theorem NOk.want(h:NOk n p)(c:Cmd):NOk (n+1) (p.want c)/\(p.want c).au.length<=p.au.length+1/\(p.want c).bw=p.bw/\(p.want c).bad=p.bad:=by
 unfold Nod.want;split
 .exact⟨h.mono (oh _),oh _,rfl,rfl⟩
 .refine⟨{ h with wa:=?_,ask:=λd a=>?_ },by simp,rfl,rfl⟩
  .have:=h.wa;simp;omega
  .unfold BZ at a;simp only at a ⊢;split at a
   .rename_i e;exact O'.2 (.inr (D'.2 e))
   .exact O'.2 (.inl (h.ask d a))
theorem NOk.sg(h:NOk n p)(i:Nat)(e:Int)(c:Cmd)(a:List Tol):NOk (n+1) (p.sE i e c a).1/\(p.sE i e c a).1.bw=p.bw/\(p.sE i e c a).2.length+(p.sE i e c a).1.au.length<=a.length+p.au.length+1/\(p.sE i e c a).1.bad<=p.bad+1:=by
 have b:=h.mono (oh n);unfold Nod.sE;split
 .exact⟨b,rfl,oh _,oh _⟩
 .split
  .exact⟨{ b with },rfl,oh _,A' _⟩
  .split
   .exact⟨b,rfl,by simp;omega,oh _⟩
   .have:=h.want c;exact⟨this.1,this.2.2.1,by have:=this.2.1;simp only;omega,by rw[this.2.2.2];exact oh _⟩
theorem OZ(p:Nod)(v:Vt):(p.dT v).1.au=p.au/\(p.dT v).1.bad=p.bad:=by
 unfold Nod.dT;split
 .exact⟨rfl,rfl⟩
 .split
  .exact⟨rfl,rfl⟩
  .split<;>exact⟨rfl,rfl⟩
theorem K5(p:Nod)(to:Nat)(e:Int):(p.fa to e).au=p.au/\(p.fa to e).bad=p.bad:=by unfold Nod.fa;split<;>exact⟨rfl,rfl⟩
theorem FC(p:Nod)(j:Nat)(v:Vt):(p.count j v).au=p.au/\(p.count j v).bad=p.bad/\(p.count j v).bw=p.bw:=by
 unfold Nod.count;split
 .exact⟨rfl,rfl,rfl⟩
 .split<;>exact⟨rfl,rfl,rfl⟩
theorem FH(p:Nod)(l:List Cmd):(p.eo l).au=p.au/\(p.eo l).bad=p.bad:=by unfold Nod.eo;split<;>exact⟨rfl,rfl⟩
theorem Xu(p:Nod)(l:Let):(p.take l).au=p.au/\(p.take l).bad=p.bad:=by
 unfold Nod.take;split
 .split
  .exact K5 _ _ _
  .exact⟨(FV p l.hZ).1,(FV p l.hZ).2.1⟩
 .simp only;split<;>exact⟨rfl,rfl⟩
 .exact⟨rfl,rfl⟩
 .split
  .exact K5 _ _ _
  .exact OZ p l.dT
 .exact⟨(FC p _ _).1,(FC p _ _).2.1⟩
 .split<;>exact⟨rfl,rfl⟩
 .simp only;split
  .exact FH p l.hU
  .exact FH p l.hU
 .exact⟨rfl,rfl⟩
theorem Xd(p:Nod)(i:Nat)(q:Pend):(p.ic i q).au=p.au/\(p.ic i q).bad=p.bad:=by
 cases q with
 | began b vs=>unfold Nod.ic;simp only;split<;>exact⟨rfl,rfl⟩
 | prop v=>exact⟨(FC p i v).1,(FC p i v).2.1⟩
 | _=>exact⟨rfl,rfl⟩
theorem SC(i:Nat)(l:List Pend)(p:Nod)(a:List Let):(ov i l p a).1.au=p.au/\(ov i l p a).1.bad=p.bad:=by
 induction l generalizing p a with
 | nil=>exact⟨rfl,rfl⟩
 | cons q l ih =>
  have b:=ih (p.ic i q) (a++p.rk i q);have c:=Xd p i q;exact⟨b.1.trans c.1,b.2.trans c.2⟩
theorem dh(i:Nat)(l:List Cmd)(p:Nod)(a:List Tol):(sD i l p a).1.bad=p.bad:=by
 induction l generalizing p a with
 | nil=>rfl
 | cons c l ih =>
  rw[sD];split
  .rfl
  .rw[ih];unfold Nod.fv;split<;>rfl
theorem TI(p:Nod)(i:Nat)(a:List Let)(b:List Tol):(p.piece i a b).1.au=(sD i (p.ae.drop p.done) p b).1.au/\(p.piece i a b).1.bad=p.bad:=by
 have c:∀ q:Nod,(q.ib i).1.au=q.au/\(q.ib i).1.bad=q.bad:=by
  intro q;unfold Nod.ib;split
  .exact⟨rfl,rfl⟩
  .split
   .exact FH _ _
   .exact⟨rfl,rfl⟩
 have d:∀ q:Nod,q.dc.au=q.au/\q.dc.bad=q.bad:=by
  intro q;unfold Nod.dc;split
  .exact⟨rfl,rfl⟩
  .split
   .exact⟨rfl,rfl⟩
   .split
    .exact⟨rfl,rfl⟩
    .exact OZ q _
 have e:∀ (q:Nod) (a:List Let),(q.ni i a).1.au=q.au/\(q.ni i a).1.bad=q.bad:=by
  intro q a;unfold Nod.ni;split
  .exact⟨rfl,rfl⟩
  .have:=SC i q.bw { q.sC with bw:=[] } a;have g:q.sC.au=q.au/\q.sC.bad=q.bad:=by unfold Nod.sC;split<;>exact⟨rfl,rfl⟩
   exact⟨this.1.trans g.1,this.2.trans g.2⟩
 have f:∀ (q:Nod) (a:List Let),(q.bN i a).1.au=q.au/\(q.bN i a).1.bad=q.bad:=by
  intro q a;unfold Nod.bN;split<;>exact⟨rfl,rfl⟩
 have h:=dh i (p.ae.drop p.done) p b;unfold Nod.piece;simp only;rw[(f _ _).1,(e _ _).1,(d _).1,(c _).1,(f _ _).2,(e _ _).2,(d _).2,(c _).2];exact⟨rfl,h⟩
def pw(M:Meet):Nat:=AB (M.ab 0).bw+AB (M.ab 1).bw+AB (M.ab 2).bw+AB (M.ab 3).bw+AB (M.ab 4).bw
def ww(M:Meet):Nat:=(M.ab 0).au.length+(M.ab 1).au.length+(M.ab 2).au.length+(M.ab 3).au.length+(M.ab 4).au.length
theorem ar(M:Meet){i:Nat}(a:i<5)(p:Nod)(b:List Let)(c:List Tol):pw (M.set i p b c)+AB (M.ab i).bw=pw M+AB p.bw:=by
 unfold pw Meet.set;rcases sc a with rfl|rfl|rfl|rfl|rfl<;>simp[upN]<;>omega
theorem Qg(M:Meet){i:Nat}(a:i<5)(p:Nod)(b:List Let)(c:List Tol):ww (M.set i p b c)+(M.ab i).au.length=ww M+p.au.length:=by
 unfold ww Meet.set;rcases sc a with rfl|rfl|rfl|rfl|rfl<;>simp[upN]<;>omega
theorem Rw(M:Meet){i:Nat}(a:i<5):AB (M.ab i).bw<=pw M:=by
 unfold pw;rcases sc a with rfl|rfl|rfl|rfl|rfl<;>omega
theorem cG(M:Meet){i:Nat}(a:i<5):(M.ab i).au.length<=ww M:=by
 unfold ww;rcases sc a with rfl|rfl|rfl|rfl|rfl<;>omega
structure MOk(n:Nat)(M:Meet):Prop where
 ab:∀ i,i<5->NOk n (M.ab i)
 br:∀ l∈M.br,LOk l
 wt:M.br.length+pw M<=10*n
 eb:M.eb.length+ww M<=n
 bad:∀ i,i<5->(M.ab i).bad<=n
theorem MOk.zero:MOk 0 Ag:=⟨λ_ _=>NOk.zero 0,λl h=>(by cases h),A' _,A' _,λ_ _=>A' _⟩
theorem MOk.mono(h:MOk n M)(b:n<=m):MOk m M:=⟨λi a=>(h.ab i a).mono b,h.br,by have:=h.wt;omega,by have:=h.eb;omega,λi a=>na (h.bad i a) b⟩
theorem MOk.set(h:MOk n M){i:Nat}(a:i<5){p:Nod}{ls:List Let}{ts:List Tol}(c:NOk (n+1) p)(d:∀ l∈ls,LOk l)(g:ls.length+AB p.bw<=M.br.length+AB (M.ab i).bw+10)(k:ts.length+p.au.length<=M.eb.length+(M.ab i).au.length+1)(m:p.bad<=(M.ab i).bad+1):MOk (n+1) (M.set i p ls ts):=by
 have e:=ar M a p ls ts;have f:=Qg M a p ls ts;have:=h.wt;have:=h.eb;refine⟨λj b=>?_,d,by show ls.length+_<=_;omega,by show ts.length+_<=_;omega,λj b=>?_⟩
 .show NOk (n+1) (upN M.ab i p j);unfold upN;split
  .exact c
  .exact(h.ab j b).mono (oh _)
 .show(upN M.ab i p j).bad<=n+1;unfold upN;split
  .have:=h.bad i a;omega
  .have:=h.bad j b;omega
structure COk(n k:Nat)(M:Meet):Prop where
 ab:∀ i,i<5->NOk n (M.ab i)
 wt:k+M.br.length+pw M<=10*n
 eb:M.eb.length+ww M<=n
 bad:∀ i,i<5->(M.ab i).bad<=n
 br:∀ l∈M.br,LOk l
theorem COk.nn(h:COk n (k+1) M){l:Let}(a:LOk l):COk n k (M.nn l)/\(M.nn l).br=M.br:=by
 have i:=h.wt;unfold Meet.nn;split
 .have ht:=(h.ab l.dst a.dst).take a;have c:=Xu (M.ab l.dst) l;have e:=ar M a.dst ((M.ab l.dst).take l) M.br M.eb;have d:=Qg M a.dst ((M.ab l.dst).take l) M.br M.eb;have f:pw (M.put l.dst ((M.ab l.dst).take l))=pw (M.set l.dst ((M.ab l.dst).take l) M.br M.eb):=rfl;have g:ww (M.put l.dst ((M.ab l.dst).take l))=ww (M.set l.dst ((M.ab l.dst).take l) M.br M.eb):=rfl;have:=h.eb;rw[c.1]at d
  refine⟨⟨λj b=>?_,by show k+M.br.length+_<=_;have:=ht.2.1;omega,by show M.eb.length+_<=_;omega,λj b=>?_,h.br⟩,rfl⟩
  .show NOk n (upN M.ab l.dst _ j);unfold upN;split
   .exact ht.1
   .exact h.ab j b
  .show(upN M.ab l.dst _ j).bad<=n;unfold upN;split
   .rw[c.2];exact h.bad _ a.dst
   .exact h.bad j b
 .exact⟨⟨h.ab,by omega,h.eb,h.bad,h.br⟩,rfl⟩
theorem COk.all(a:List Let){M:Meet}(h:COk n a.length M)(b:∀ l∈a,LOk l):COk n 0 (a.foldl (λM l=>M.nn l) M):=by
 induction a generalizing M with
 | nil=>exact h
 | cons l a ih=>exact ih ((h.nn (b l M')).1) λm c=>b m (I' _ c)
theorem COk.ok(h:COk n k M):MOk n M:=⟨h.ab,h.br,by have:=h.wt;omega,h.eb,h.bad⟩
theorem MOk.sj(h:MOk n M):MOk n M.sj :=
 (COk.all M.br (M:={ M with br:=[] }) ⟨h.ab,by show M.br.length+0+pw M<=_;exact h.wt,h.eb,h.bad,λl a=>(by cases a)⟩ h.br).ok
theorem MOk.move(h:MOk n M)(k:Int)(a:Nat):MOk (n+1) (M.move k a):=by
 have i:=h.wt;have b:=h.mono (oh n);unfold Meet.move;split
 .exact b
 .rename_i l hl
  have c:LOk l:=h.br l (nD hl);have f:∀ m∈M.br.eraseIdx (a%M.br.length),LOk m:=λm g=>h.br m (qj g);have e:(M.br.eraseIdx (a%M.br.length)).length<=M.br.length:=List.length_eraseIdx_le _ _;have d:COk (n+1) 1 (if k≠6 then{ M with br:=M.br.eraseIdx (a%M.br.length) }else M):=by
   split
   .exact⟨b.ab,by show 1+(M.br.eraseIdx _).length+pw M<=_;omega,b.eb,b.bad,f⟩
   .exact⟨b.ab,by omega,b.eb,b.bad,h.br⟩
  simp only;split
  .exact(d.nn c).1.ok
  .exact d.ok
theorem MOk.act(h:MOk n M)(i:n<=1000000){x:Lac}(g:LacOk x):MOk (n+1) (M.act x):=by
 have a:x.n.toNat<5:=by
  cases hu:Gn x.k with
  | true=>have:=g.n hu;omega
  | false=>have:=g.n0 hu;omega
 have e:=h.ab _ a;have c:=e.mono (oh n);unfold Meet.act;simp only;split
 .have hs:=e.sg x.n.toNat (opE x.d ((M.ab x.n.toNat).done:Int)) (Ee x.d ((M.ab x.n.toNat).done:Int)) M.eb;exact h.set a hs.1 h.br (by unfold Nod.sg;rw[hs.2.1];omega) (by unfold Nod.sg;omega) (by unfold Nod.sg;omega)
 .split
  .split
   .have hl:=c.lead x.n.toNat;exact h.set a hl.1 h.br (by omega) (by rw[hl.2.2.1];omega) (by rw[hl.2.2.2];omega)
   .exact h.set a c h.br (by omega) (by omega) (by omega)
  .split
   .by_cases hu:(M.ab x.n.toNat).up=true
    .rw[if_pos hu,if_pos hu,if_pos hu];have b:=c.piece a (ls:=M.br) (ts:=M.eb) (by have:=Rw M a;have:=h.wt;omega) h.br;have f:=TI (M.ab x.n.toNat) x.n.toNat M.br M.eb;exact h.set a b.1 b.2.1 b.2.2.1 (by rw[f.1];have:=b.2.2.2;omega) (by rw[f.2];omega)
    .rw[if_neg hu,if_neg hu,if_neg hu];exact h.set a c h.br (by omega) (by omega) (by omega)
   .split
    .exact h.move _ _
    .split
     .exact h.sj.mono (oh _)
     .split
      .split
       .have hc:=c.ie x.p;exact h.set a hc.1 h.br (by omega) (by omega) (by rw[hc.2.2.2];omega)
       .exact h.set a c h.br (by omega) (by omega) (by omega)
      .split
       .split
        .exact h.set a c h.br (by omega) (by omega) (by omega)
        .have hc:=c.start;exact h.set a hc.1 h.br (by omega) (by omega) (by rw[hc.2.2.2];omega)
       .exact h.mono (oh _)
end
end
section
open Go.RowKit
section
variable{M:Meet}{W w:World}{b j mb n ob tb:Nat}{g:Gh}{l:List Let}{nb:Nat->Nat}{x:S3}
theorem lO{P:Program}{x y:Operand}(a b:Nat)(h:P.underlying 3=some (.int .i64))(f:a<9223372036854775808)(g:0<b)(e:b<9223372036854775808):(do Go.eqGuard .rem 3 x y (iv (a:Int)) (iv (b:Int));Go.binOp .rem 3 (iv (a:Int)) (iv (b:Int)):Sem Value).run P W=.ok (iv ((a%b:Nat):Int)) W:=by
 have d:Int.tmod (a:Int) (b:Int)=((a%b:Nat):Int):=rfl;have c:¬ b=0:=by omega
 simp only[Go.eqGuard,go_sem,Op.intDiv];simp[c,d]
theorem gy{c:Nat}(j:Nat)(a:j<n):(Instr.indexAt 112 (.slice (some ⟨b,0,none⟩) n c) (iv (j:Int))).run prog W=.ok (pt b j) W :=
 NK (P:=prog) (e:=184) (z:=1) underlying112 (by kernel_rfl) (by kernel_rfl) a _ (by omega)
theorem jq(d:x.a=some ⟨b,0,none⟩)(j:Nat)(c:j<x.n):(Instr.indexAt 112 x.v (iv (j:Int))).run prog W=.ok (pt b j) W:=by
 unfold S3.v;rw[d];exact gy j c
theorem FzL.cell{e:List Value}(h:FzL g w x e){b j:Nat}(i:x.a=some ⟨b,0,none⟩){u:Value}(k:e[j]?=some u):w.cell? ⟨b,j,none⟩=some u:=by
 obtain⟨c,d,_,_,f⟩:=h.at_ j u k;rw[i]at d
 simp only[Z',Addr.mk.injEq,and_true]at d;subst d;exact f
theorem MS.outs{a:Gh}{b:World}{B:Nat}(h:MS mb tb ob nb g w M)(c:Cg B [.n 50 0,.n 51 0] g w a b){lt e:S3}{d:List Let}(k:OutAt a b ob lt e d M.eb)(j:Jx a b):MS mb tb ob nb a b { M with br:=d } :=
 ⟨h.box.ch c,h.tk.ch c,λi f=>let ⟨x,hx⟩:=h.ab i f;⟨x,hx.ch c (by simp) (λr l=>by simp;omega)⟩,⟨lt,e,k⟩,j⟩
theorem Lets.erase{d:List Nat}(h:Lets g w d l)(j:Nat):Lets g w (d.eraseIdx j) (l.eraseIdx j):=by
 refine⟨by rw[List.length_eraseIdx,List.length_eraseIdx,h.len],λk b m c a=>?_⟩;rw[List.getElem?_eraseIdx]at c a
 split at c
 .rename_i hk;rw[if_pos hk]at a;exact h.at_ _ _ _ c a
 .rename_i hk;rw[if_neg hk]at a;exact h.at_ _ _ _ c a
theorem Y2{c:Let}(h:l[j]?=some c):l.drop j=c::l.drop (j+1):=by
 obtain⟨a,b⟩:=V'.1 h;rw[<- b];exact oz a
theorem ZD(k:Int)(a:Nat)(h:M.br.length=0):M.move k a=M:=by
 unfold Meet.move;rw[Y' h];rfl
theorem eh{k:Int}{a:Nat}{l:Let}(h:M.br[a%M.br.length]?=some l):M.move k a=(if k≠5 then(if k≠6 then{ M with br:=M.br.eraseIdx (a%M.br.length) }else M).nn l else if k≠6 then{ M with br:=M.br.eraseIdx (a%M.br.length) }else M):=by
 unfold Meet.move;rw[h]
theorem Mh(h:MS mb tb ob nb g w M){w0:World}(hB:Base w0 g w)(hT:Tabs w0)(k:Int)(a:Nat)(ha:a<=1048576){n:Nat}(hm:MOk n M)(hn:n<=1000000) :
  Calls prog 57 #[pt mb 0,iv k,iv (a:Int)] w (MP mb tb ob nb g w (.tuple #[]) (M.move k a)):=by
 obtain⟨lt,tl,hO⟩:=h.out;obtain⟨bs,hL,q⟩:=hO.br;have Y:lt.n=M.br.length:=by have:=hL.len;have:=q.len;simp at *;omega
 have b7:=hm.wt;refine gI (fn:=f57) TM g func57 h.new (Ct ⟨mb,_,.z,false⟩ (λ_=>⟨h.box.r,h.box.z,λh=>(by cases h),λh=>absurd rfl h⟩) (by kernel_rfl) ?_);refine qO hO (qR [] 18 [0,1] λs1 g1 w1 d=>?_);by_cases h1:lt.n=0
 .refine qI (((lt.n:Int)==0)) true (by simp;omega) (qE (.tuple #[]) λK=>?_);rw[ZD k a (by omega)];exact⟨_,rfl,(h.sF d K.new),(d.nil TM)⟩
 .refine qI (((lt.n:Int)==0)) false (by simp;omega) ?_;obtain⟨j,hj⟩:∃ j,j=a%M.br.length:=⟨_,rfl⟩;have I:j<M.br.length:=by rw[hj];exact Nat.mod_lt _ (by omega)
  obtain⟨l,hl⟩:∃ l,M.br[j]?=some l:=⟨_,G' I⟩;obtain⟨J,X⟩:∃ J,bs[j]?=some J:=⟨_,G' (by rw[q.len];exact I)⟩;have s:=hm.br l (nD hl);have V:=q.at_ j J l X hl;obtain⟨b,hb,a7,a6⟩:=hL.cell (j:=j) (u:=pt J 0) (by rw[n7,X];rfl);rw[eh (hj▸hl)];rw[<- hj];obtain⟨la,lq,lc⟩:=lt;simp only at hb Y;subst hb;refine qR [] 5 [] λs3 g3 w3 m=>?_;have a8 {x y:Operand}:∀ {W:World},(do Go.eqGuard .rem 3 x y (iv (a:Int)) (iv (lq:Int));Go.binOp .rem 3 (iv (a:Int)) (iv (lq:Int)):Sem Value).run prog W=.ok (iv (j:Int)) W:=λ{W}=>by rw[hj,<- Y];exact lO a lq underlying3 (by omega) (by omega) (by omega)
  refine qV 2 (iv (j:Int)) (a8 (x:=(.tmp 19)) (y:=(.tmp 20))) (qR [] 12 [0,1] λs4 g4 w4 o=>qV 8 (pt b j) (gy (b:=b) (n:=lq) (c:=lc) j (by omega)) (qV 9 (pt J 0) (D2 underlying184 rfl ((Below.cell (Cg.af ((d.trans m).trans o) (λ_ _=>Q')) (p:=⟨b,j,none⟩) a7).trans a6)) (qR [] 8 [] λs6 g6 w6 t=>?_)));by_cases h2:k≠6
  .refine qI ((k != 6)) true (by simpa using h2) ?_;have H:k≠6:=by simpa using h2
   rw[if_pos H];refine qR [] 14 [17,0,2,4,6,0,8,10,12,14,0,16,18,20,1,22,24] λs7 g7 w7 L=>qT 13 (iv ((j+1:Nat):Int)) (λ_=>(Bk 46 (j:Int) underlying3 (by omega))) (Af λK=>qG 14 [.n 51 0] [true,true] (Q2 (hL.ch ((((d.trans m).trans o).trans t).trans L) (by simp) (by simp)) K.new j (by rw[q.len];exact I) (by rw[q.len];omega)) ?_);rintro e' w9 ⟨y9,g9,rfl,a9,n9,G⟩;refine⟨_,g9,rfl,G,n9,?_⟩;replace G:=G.ret (B:=w.heap.size);refine qR [.n 50 0] 9 [30,32,35,1,1] λb8 U Z e=>Af λK=>?_;have C9:Cg w.heap.size [.n 50 0,.n 51 0] g w U Z:=(((((((d.nil [.n 50 0,.n 51 0]).n m).n o).n t).n L).trans (G.mono (by simp))).trans (e.mono (by simp)));obtain⟨o1,o2,o3⟩:=K.sQ 1 ob (.cells #[S3.v y9,S3.v tl] 114) 50 0 (by kernel_rfl);have P:MS mb tb ob nb U Z { M with br:=M.br.eraseIdx j }:=h.outs C9 ⟨o1,o2,o3,⟨bs.eraseIdx j,(a9.ch e),(q.erase j).ch C9⟩,hO.eb.ch C9⟩ K.new;by_cases F:k≠5
   .refine qI ((k != 5)) true (by simpa using F) ?_;rw[if_pos (show k≠5 from by simpa using F)];refine qR [] 3 [] λb9 a2 b0 A=>Af λK=>?_;have a0:MS mb tb ob nb a2 b0 ({ M with br:=M.br.eraseIdx j }):=(P.sF A K.new);refine qG 2 TM [true,false] (L8 a0 (hB.ch ((((((((d.nil TM).n m).n o).n t).n L).trans (G.mono (by simp[TM,TN]))).trans (e.mono (by simp[TM,TN]))).n A) F7) hT J l (V.ch ((((((((d.nil TM).n m).n o).n t).n L).trans (G.mono (by simp[TM,TN]))).trans (e.mono (by simp[TM,TN]))).n A) F7) s (hm.ab l.dst s.dst) (by have:=E3 (M.ab l.dst).bw;have:=Rw M s.dst;show(M.ab l.dst).bw.length<_;omega)) ?_;rintro e' d2 ⟨a3,rfl,N,C⟩;refine⟨_,a3,rfl,C,N.new,?_⟩;replace C:=C.ret (B:=w.heap.size);refine qR [] 1 [] λc0 b2 d3 Q=>qE (.tuple #[]) λK=>⟨_,rfl,(N.sF Q K.new),((((((((((d.nil TM).n m).n o).n t).n L).trans (G.mono (by simp[TM,TN]))).trans (e.mono (by simp[TM,TN]))).n A).trans (C)).n Q)⟩
   .refine qI ((k != 5)) false (by simpa using F) (qR [] 1 [] λc2 b3 d4 R=>?_);rw[if_neg (show ¬ k≠5 from by simpa using F)];refine qE (.tuple #[]) λK=>⟨_,rfl,(P.sF R K.new),((((((((d.nil TM).n m).n o).n t).n L).trans (G.mono (by simp[TM,TN]))).trans (e.mono (by simp[TM,TN]))).n R)⟩
  .refine qI ((k != 6)) false (by simpa using h2) ?_;have H:¬ k≠6:=by simpa using h2
   rw[if_neg H];refine qR [] 6 [] λc5 b4 d5 i=>?_;by_cases F:k≠5
   .refine qI ((k != 5)) true (by simpa using F) ?_;rw[if_pos (show k≠5 from by simpa using F)];refine qR [] 3 [] λc8 a4 b1 D=>Af λK=>?_;have a1:MS mb tb ob nb a4 b1 M:=(h.sF (((((d.trans m).trans o).trans t).trans i).trans D) K.new);refine qG 2 TM [true,false] (L8 a1 (hB.ch ((((((d.nil TM).n m).n o).n t).n i).n D) F7) hT J l (V.ch ((((((d.nil TM).n m).n o).n t).n i).n D) F7) s (hm.ab l.dst s.dst) (by have:=E3 (M.ab l.dst).bw;have:=Rw M s.dst;show(M.ab l.dst).bw.length<_;omega)) ?_;rintro e' d6 ⟨a5,rfl,O,E⟩;refine⟨_,a5,rfl,E,O.new,?_⟩;replace E:=E.ret (B:=w.heap.size);refine qR [] 1 [] λd0 b5 d7 S=>qE (.tuple #[]) λK=>⟨_,rfl,(O.sF S K.new),((((((((d.nil TM).n m).n o).n t).n i).n D).trans (E)).n S)⟩
   .refine qI ((k != 5)) false (by simpa using F) (qR [] 1 [] λd1 b6 d8 T=>?_);rw[if_neg (show ¬ k≠5 from by simpa using F)];refine qE (.tuple #[]) λK=>⟨_,rfl,(h.sF (((((d.trans m).trans o).trans t).trans i).trans T) K.new),((((((d.nil TM).n m).n o).n t).n i).n T)⟩
theorem Qw(h:MS mb tb ob nb g w M){X:World}(hB:Base X g w)(hT:Tabs X){n:Nat}(u:MOk n M)(hn:n<=1000000) :
  Calls prog 58 #[pt mb 0] w (MP mb tb ob nb g w (.tuple #[]) M.sj):=by
 obtain⟨lt,tl,I⟩:=h.out;obtain⟨y,V,i⟩:=I.br;have a1:lt.n=M.br.length:=by have:=V.len;have:=i.len;simp at *;omega
 have P:=u.wt;refine gI (fn:=f58) TM g func58 h.new (Ct ⟨mb,_,.z,false⟩ (λ_=>⟨h.box.r,h.box.z,λh=>(by cases h),λh=>absurd rfl h⟩) (by kernel_rfl) ?_);refine qO I (mC V (by kernel_rfl) λgF Z hF=>qR [.n 50 0] 28 [0,1,0,1,1] λs1 g1 w1 S=>Af λG=>Ci 28 [(0,pt mb 0),(18,S3.v lt),(19,iv (lt.n:Int)),(20,iv 0)] [true,false] [⟨mb,.cells (mtA nb ob tb) 120,.z,false⟩] (λk E F e L=>∃ (j:Nat) (A:Meet),k=M.br.length-j/\j<=M.br.length/\e=[(0,pt mb 0),(18,S3.v lt),(19,iv (lt.n:Int)),(20,iv (j:Int))]/\L=[⟨mb,.cells (mtA nb ob tb) 120,.z,false⟩]/\MS mb tb ob nb E F A/\(M.br.drop j).foldl (λM l=>M.nn l) A=M.sj/\COk n (M.br.length-j) A/\FzL E F lt (y.map (pt · 0))/\Lets E F y M.br/\Cg w.heap.size TM g w E F) (by kernel_rfl) (by kernel_rfl) (by kernel_rfl) (by kernel_rfl) M.br.length (λK=>?_) ?_)
 .have C9:Cg w.heap.size [.n 50 0,.n 51 0] g w g1 w1:=((Z.mono (by simp)).trans (S.mono (by simp)));obtain⟨o1,o2,o3⟩:=G.sQ 1 ob (.cells #[S3.v s30,S3.v tl] 114) 50 0 (by kernel_rfl);exact⟨0,{ M with br:=[] },rfl,nM _,rfl,rfl,h.outs C9 ⟨o1,o2,o3,⟨[],OwnS.nil _ _ _ _ _ _,⟨rfl,λk b m h=>(by cases h)⟩⟩,I.eb.ch C9⟩ K.new,rfl,⟨u.ab,by show M.br.length+0+pw M<=_;exact P,u.eb,u.bad,λl s=>(by cases s)⟩,(hF.fz.ch S),i.ch C9,C9.mono (by simp[TM,TN])⟩
 .rintro k gr wr _ zr _ ⟨j,A,rfl,hj,rfl,rfl,hM,hI,hA,hFz,hLt,hC⟩ J hJ;have a0:=hFz.n;refine qR [] 5 [] λs2 g2 w2 a=>?_;by_cases U:j<M.br.length
  .refine qI ((decide ((j:Int)<(lt.n:Int)))) true (P' (by omega)) ?_;obtain⟨l,s⟩:∃ l,M.br[j]?=some l:=⟨_,G' U⟩;obtain⟨o,t⟩:∃ o,y[j]?=some o:=⟨_,G' (by rw[i.len];exact U)⟩;have c:=u.br l (nD s);have H:=hLt.at_ j o l t s;have x:(y.map (pt · 0))[j]?=some (pt o 0):=by rw[n7,t];rfl
   obtain⟨b,W,_⟩:=hFz.at_ j (pt o 0) x;obtain⟨Q,O⟩:∃ Q,M.br.length-j=Q+1:=⟨M.br.length-j-1,by omega⟩;rw[O]at hA
   have N:=hA.nn c;rw[Y2 s,sr]at hI
   refine qR [] 5 [] λs3 g3 w3 d=>qV 0 (pt b j) (jq W j (by omega)) (qV 1 (pt o 0) (D2 underlying184 rfl (((hFz.ch a).ch d).cell W x)) (qR [] 5 [] λs5 g5 w5 p=>Af λK=>?_));have Y:MS mb tb ob nb g5 w5 A:=(hM.sF ((a.trans d).trans p) K.new);refine qG 2 TM [true] (L8 Y (hB.ch ((((hC.n a).n d).n p)) F7) hT o l (H.ch (((a.nil TM).n d).n p) F7) c (hA.ab l.dst c.dst) (by have:=hA.wt;have:=E3 (A.ab l.dst).bw;have:=Rw A c.dst;omega)) ?_;rintro e' w6 ⟨g6,rfl,R,q⟩;refine⟨_,g6,rfl,q,R.new,?_⟩;replace q:=q.ret (B:=w.heap.size);refine qR [] 3 [] λs7 g7 w7 C=>qV 0 (iv ((j:Int)+1)) (Bk 20 (j:Int) underlying3 (by omega)) (qR [] 2 [] λs8 g8 w8 D=>qB [true] λz G K=>hJ (M.br.length-(j+1)) _ _ _ z _ (by omega) ⟨j+1,A.nn l,rfl,by omega,rfl,rfl,(R.sF (C.trans D) G.new),hI,(by rw[show M.br.length-(j+1)=Q by omega];exact N.1),((((((hFz.ch a).ch d).ch p).ch q).ch C).ch D),hLt.ch ((((((a.nil TM).n d).n p).trans (q)).n C).n D) F7,((((((hC.n a).n d).n p).trans q).n C).n D)⟩ K)
  .refine qI ((decide ((j:Int)<(lt.n:Int)))) false (H' (by omega)) (qR [] 1 [] λs9 g9 w9 T=>?_);obtain rfl:j=M.br.length:=by omega
   rw[pj]at hI
   rw[<- hI];refine qE (.tuple #[]) λK=>⟨_,rfl,(hM.sF (a.trans T) K.new),((hC.n a).n T)⟩
end
end
end Go.Proofs.YtngmpodijpelnaaGreatDoor
