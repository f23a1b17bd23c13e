/- Part 21 of the walk. -/
import Derived.Test.YtalbmmghmoggcadGreatDoorZ19
import Derived.Test.YtalbmmghmoggcadGreatDoorZ20
set_option maxRecDepth 100000
set_option maxHeartbeats 4000000
open Go.Proofs.Tryz
set_option linter.unusedVariables false
namespace Go.Proofs.YtalbmmghmoggcadGreatDoor
section
open Go.RowKit
section
variable{W w w0:World}{b1 b2 i k nb ob:Nat}{g:Gh}{ls:List Let}{p:Nod}{ts:List Tol}{vs:List Value}{x:S3}
theorem Mo{v:Vt}(h:NS i nb ob g w p ls ts)(hB:Base w0 g w)(hT:Tabs w0)(hi:i<5)(hb:ls.length<90000000)(h1:Box g w b1 #[pt nb 0] 97)(h2:Box g w b2 #[iv v.slot,iv v.b.r,iv v.b.n,iv v.w.k,iv v.w.c,iv v.w.s,iv v.w.n,iv v.w.v] 166)(hba:p.agreed.length<=40) :
  Calls prog 133 #[pt b1 0,pt b2 0] w (NP i nb ob g w (.tuple #[]) (p.count i v) (ls++BZ i { Cy 3 with vote:=v } 5) ts):=by
 obtain⟨x,lt,tl,hN,hO,hg⟩:=h;refine gI (fn:=f133) (TN i) g func133 hg ?_;refine qN hN ?_;refine qO hO ?_;refine BW ⟨b1,.cells #[pt nb 0] 97,.z,false⟩ (λ_=>⟨h1.r,h1.z,λh=>(by cases h),λh=>absurd rfl h⟩) (by kernel_rfl) ?_;refine BW ⟨b2,.cells #[iv v.slot,iv v.b.r,iv v.b.n,iv v.w.k,iv v.w.c,iv v.w.s,iv v.w.n,iv v.w.v] 166,.z,false⟩ (λ_=>⟨h2.r,h2.z,λh=>(by cases h),λh=>absurd rfl h⟩) (by kernel_rfl) ?_;refine qR [] 8 [6,0,2,2,2,4,6,8,0,10,3] λs1 g1 w1 c1=>?_;refine qS 6 [false,false,true,true] hN hO c1 (λN2=>MM N2 (hB.ch (c1.nil (TN i)) (Bi i)) hT i hi v hba) λg2 w2 x2 lt2 tl2 hN2 hO2 c2=>?_;refine qR [] 5 [0,1] λs4 g4 w4 c4=>?_;refine qS 3 [true,true,false,false] hN2 hO2 c4 (λN5=>DN N5 hb { Cy 3 with vote:=v } s30 s30 ⟨Sv.nil _,λh=>absurd rfl h⟩ (Rc.nil _ _)) λg5 w5 x5 lt5 tl5 hN5 hO5 c5=>?_;refine qR [] 1 [] λs7 g7 w7 c7=>?_;exact qF hN5 hO5 c7 (((((c1.nil (TN i)).trans (c2)).n c4).trans (c5)).n c7)
theorem R6{b:Bal}{vs:List Vt}{x3:S3}(h:NS i nb ob g w p ls ts)(hB:Base w0 g w)(hT:Tabs w0)(hi:i<5)(hb:ls.length<90000000){b3:Nat}(h1:Box g w b1 #[pt nb 0] 97)(h2:Box g w b2 #[iv b.r,iv b.n] 102)(h3:Box g w b3 #[S3.v x3] 103)(hv:FSv g w x3 vs)(hb3:(p.rnd.heard i).vs.length<100000000) :
  Calls prog 84 #[pt b1 0,pt b2 0,pt b3 0] w (NP i nb ob g w (.tuple #[]) (if p.vo.p≠b then p else{ p with rnd:=p.rnd.hear i vs }) (if p.vo.p≠b then ls else(ls++BZ i { Cy 0 with bal:=b } 5)) ts):=by
 obtain⟨x,lt,tl,hN,hO,hg⟩:=h;refine gI (fn:=f84) (TN i) g func84 hg ?_;refine qN hN ?_;refine qO hO ?_;refine BW ⟨b1,.cells #[pt nb 0] 97,.z,false⟩ (λ_=>⟨h1.r,h1.z,λh=>(by cases h),λh=>absurd rfl h⟩) (by kernel_rfl) ?_;refine BW ⟨b2,.cells #[iv b.r,iv b.n] 102,.z,false⟩ (λ_=>⟨h2.r,h2.z,λh=>(by cases h),λh=>absurd rfl h⟩) (by kernel_rfl) ?_;refine BW ⟨b3,.cells #[S3.v x3] 103,.z,false⟩ (λ_=>⟨h3.r,h3.z,λh=>(by cases h),λh=>absurd rfl h⟩) (by kernel_rfl) ?_;refine qR [] 10 [8,0,2,2,4,6,8,10,0,12,3] λs1 g1 w1 c1=>?_;by_cases h1:p.vo.p≠b
 .refine qT 7 (.bool true) (λ_=>(Nm (x:=(.tmp 8)) (y:=(.tmp 9)) p.vo.p b h1)) ?_;refine qR [] 2 [] λs2 g2 w2 c2=>?_;rw[if_pos h1,if_pos h1];exact qF hN hO (c1.n c2) ((c1.nil (TN i)).n c2)
 .have h10:p.vo.p=b:=by simpa using h1
  refine qT 7 (.bool false) (λ_=>(Nl (x:=(.tmp 8)) (y:=(.tmp 9)) p.vo.p b h10)) ?_;rw[if_neg h1,if_neg h1];refine qR [] 14 [9,0,2,2,4,6,8,2,10,12,14,0,16,4] λs4 g4 w4 c4=>?_;refine qS 9 [false,false,true,true,true] hN hO (c1.n c4) (λN5=>Pv N5 (hB.ch ((c1.nil (TN i)).n c4) (Bi i)) hT i hi vs x3 (hv.ch ((c1.nil (TN i)).n c4) (Bi i)) hb3) λg5 w5 x5 lt5 tl5 hN5 hO5 c5=>?_;refine qR [] 5 [0,1] λs7 g7 w7 c7=>?_;refine qS 3 [true,true,true,false,false] hN5 hO5 c7 (λN8=>DN N8 hb { Cy 0 with bal:=b } s30 s30 ⟨Sv.nil _,λh=>absurd rfl h⟩ (Rc.nil _ _)) λg8 w8 x8 lt8 tl8 hN8 hO8 c8=>?_;refine qR [] 1 [] λs10 g10 w10 c10=>?_;exact qF hN8 hO8 c10 ((((((c1.nil (TN i)).n c4).trans (c5)).n c7).trans (c8)).n c10)
def Nod.runP(p:Nod)(i:Nat):Pend->Nod
 | .began b vs=>if p.vo.p≠b then p else{ p with rnd:=p.rnd.hear i vs }
 | .prop v=>p.count i v
 | _=>p
def Nod.sentP(p:Nod)(i:Nat):Pend->List Let
 | .began b vs=>if p.vo.p≠b then[]else BZ i { Cy 0 with bal:=b } 5
 | .prom to b vs=>[{ Cy 1 with bal:=b,votes:=vs,what:=p.agreed,src:=i,dst:=to }]
 | .voted to v=>[{ Cy 4 with vote:=v,src:=i,dst:=to }]
 | .refuse to b=>[{ Cy 2 with bal:=b,src:=i,dst:=to }]
 | .prop v=>BZ i { Cy 3 with vote:=v } 5
 | .askNews to=>[{ Cy 6 with slot:=p.agreed.length,src:=i,dst:=to }]
 | .start=>BZ i (Cy 6) 5
 | .tell to slot=>[{ Cy 5 with src:=i,dst:=to,slot:=slot,what:=p.agreed.drop slot }]
def Q6(p:Nod)(i:Nat):Pend->Prop
 | .began _ _=>(p.rnd.heard i).vs.length<100000000
 | .prop _=>p.agreed.length<=40
 | .tell _ slot=>slot<=p.agreed.length
 | _=>True
theorem cC{P:Program}{s:Xs}{S:Sem Next}{r:Result Next}(h:De s i=some S)(hr:S.run P W=r):CW P s i W=some r:=by
 unfold CW;unfold De at h;cases hx:opN s i with
 | none=>rw[hx]at h;cases h
 | some x =>
  rw[hx]at h
  simp only[jC,X']at h ⊢;rw[h,hr]
theorem Gj(h:NS i nb ob g w p ls ts)(hB:Base w0 g w)(hT:Tabs w0)(hi:i<5)(hb:ls.length<90000000){v:Value}(q:Pend)(hq:Q6 p i q)(hv:Km g w nb v q) :
  ∃ (F:FuncId) (cs:Array Value),v=.func (.func F) #[] cs/\(∀ W,(Go.callFunc F (#[]++cs)).run prog W=.ok (.enter F cs) W)/\Calls prog F cs w (NP i nb ob g w (.tuple #[]) (p.runP i q) (ls++p.sentP i q) ts):=by
 cases q with
 | began b vs =>
  obtain⟨b1,b2,b3,x,e,h1,h2,h3,h4⟩:=hv;refine⟨_,_,e,λW=>by kernel_rfl,?_⟩;have:=R6 h hB hT hi hb h1 h2 h3 h4 hq;unfold Nod.runP Nod.sentP;by_cases hx:p.vo.p≠b
  .rw[if_pos hx,if_pos hx]at this;simp only[if_pos hx,jy];exact this
  .rw[if_neg hx,if_neg hx]at this;simp only[if_neg hx];exact this
 | prom to b vs =>
  obtain⟨b1,b2,b3,x,lb,l,e,h1,h2,h3,h4,h5,rfl,rfl⟩:=hv;exact⟨_,_,e,λW=>(by kernel_rfl),Gv h hb h1 h2 h3 h5 h4⟩
 | voted to u =>
  obtain⟨b1,b2,lb,l,e,h1,h2,h3,rfl,rfl⟩:=hv;exact⟨_,_,e,λW=>(by kernel_rfl),He (b3:=0) h hb h1 h2 h3⟩
 | refuse to b =>
  obtain⟨b1,b2,b3,e,h1,h2,h3⟩:=hv;exact⟨_,_,e,λW=>(by kernel_rfl),Ox h hb h1 h2 h3⟩
 | prop u =>
  obtain⟨b1,b2,e,h1,h2⟩:=hv;exact⟨_,_,e,λW=>(by kernel_rfl),Mo h hB hT hi hb h1 h2 hq⟩
 | askNews to =>
  obtain⟨b1,b2,lb,l,e,h1,h2,h3,rfl⟩:=hv;exact⟨_,_,e,λW=>(by kernel_rfl),LF (b3:=0) h hb h1 h2 h3⟩
 | start =>
  obtain⟨b1,e,h1⟩:=hv;exact⟨_,_,e,λW=>(by kernel_rfl),Qk (b2:=0) (b3:=0) h hb h1⟩
 | tell to slot =>
  obtain⟨b1,b2,lb,l,e,h1,h2,h3,rfl,rfl⟩:=hv;exact⟨_,_,e,λW=>(by kernel_rfl),IU (b3:=0) h hb h1 h2 h3 hq⟩
structure FzL(g:Gh)(w:World)(x:S3)(vs:List Value):Prop where
 n:x.n=vs.length
 at_:∀ j u,vs[j]?=some u->∃ b,x.a=some ⟨b,0,none⟩/\b<w.heap.size/\j<g.k b/\w.cell? ⟨b,j,none⟩=some u
theorem OwnS.fz{τ:Tg}{e:TypeId}(h:OwnS g w τ true e 1 x vs):FzL g w x vs:=by
 refine⟨by have:=h.len;omega,λj u hj=>?_⟩;obtain⟨b,h1,h2,h3⟩:=h.cell hj;have hlt:j<vs.length:=(Q'.1 hj).1;refine⟨b,h1,h2,?_,h3⟩;rcases h.ex with⟨h4,_⟩|⟨b',cur,h4,_,_,_,_,_,_,h8⟩
 .rw[h4]at h1;cases h1
 .rw[h1]at h4
  simp only[X',Addr.mk.injEq,and_true]at h4;subst h4;rw[h8,if_pos rfl];exact hlt
theorem FzL.ch{B:Nat}{T:List Tg}{g':Gh}{w':World}(h:FzL g w x vs)(c:Cg B T g w g' w'):FzL g' w' x vs :=
 ⟨h.n,λj u hj=>by
  obtain⟨b,h1,h2,h3,h4⟩:=h.at_ j u hj;exact⟨b,h1,Z' h2 c.size,Z' h3 (c.kap b h2),(c.pref b h2 j h3).trans h4⟩⟩
theorem cN{b off:Nat}(ha:x.a=some ⟨b,off,none⟩)(j:Nat)(hj:j<x.n):(Instr.indexAt 106 x.v (iv (j:Int))).run prog W=.ok (pt b (off+1*j)) W:=by
 unfold S3.v;rw[ha];exact PZ (P:=prog) (e:=1) (z:=1) underlying106 (by kernel_rfl) (by kernel_rfl) hj _ rfl
def doneP(i:Nat):List Pend->Nod->List Let->Nod × List Let
 | [],p,ls=>(p,ls)
 | q::l,p,ls=>doneP i l (p.runP i q) (ls++p.sentP i q)
def FY(i:Nat):List Pend->Nod->List Let->Prop
 | [],_,_=>True
 | q::l,p,ls=>Q6 p i q/\ls.length<90000000/\FY i l (p.runP i q) (ls++p.sentP i q)
def Nod.syn(p:Nod):Nod:=if p.sy<(p.d.length:Int)then{ p with d:=Hd p.d p.sy,sy:=In p.d p.sy }else p
theorem Pg{l:List Pend}{j:Nat}{c:Pend}(h:l[j]?=some c):l.drop j=c::l.drop (j+1):=by
 obtain⟨h1,h2⟩:=Q'.1 h;rw[<- h2];exact js h1
theorem bH(h:NS i nb ob g w p ls ts)(hB:Base w0 g w)(hT:Tabs w0)(hi:i<5)(hok:FY i p.pend { p.syn with pend:=[] } ls)(hpb:p.pend.length<100000000) :
  Calls prog 90 #[pt nb 0] w (NP i nb ob g w (.tuple #[]) (if p.sy<(p.d.length:Int)/\CS p.d p.sy≠0 then(p,ls)else doneP i p.pend { p.syn with pend:=[] } ls).1 (if p.sy<(p.d.length:Int)/\CS p.d p.sy≠0 then(p,ls)else doneP i p.pend { p.syn with pend:=[] } ls).2 ts):=by
 obtain⟨x,lt,tl,hN,hO,hg⟩:=h;have htn:x.tape.n=p.d.length:=by obtain⟨a,cap,hh⟩:=hN.tape.s.shapeT;have:=hN.tape.s.len;simp only[S3.v,Value.slice.injEq]at hh;exact hh.2.1
 refine gI (fn:=f90) (TN i) g func90 hg ?_;refine qN hN ?_;refine qO hO ?_;obtain⟨pv,hP,hPs⟩:=hN.pend;have hF:=hP.fz;have hpn:x.synced.n=p.pend.length:=by rw[hF.n];exact hPs.len
 refine qR [] 16 [12,0,2,4,6,8,0,10,12,14,16,18,0,20,22] λs1 g1 w1 c1=>?_;by_cases h1:p.sy<(x.tape.n:Int)
 .refine qI ((decide (p.sy<(x.tape.n:Int)))) true (I' (by omega)) ?_;refine qR [] 6 [0] λs2 g2 w2 c2=>?_;refine Ag λKq=>?_;have hS:=(hN.tape.ch (c1.trans c2)).s;have hG:∀ z,w2.heap.size<=z->g2.t z=.z:=λz hz=>(Kq.new z hz).1;refine qC 4 (bG (s:=p.sy) hS) ?_;rintro e' w3 ⟨tz,rfl,hy3,hn3,b3⟩;refine⟨_,rfl,b3,?_⟩;have c3:=Cg.ofBelow (B:=w.heap.size) (T:=[]) (g:=g2) b3;have htz:=L3 hy3;have hts:FSl _ _ tz _:=⟨hy3,λhl a ha=>hG _ (hn3 hl a ha)⟩;refine qR [] 13 [0,0,2,0] λs4 g4 w4 c4=>?_;by_cases h2:CS p.d p.sy≠0
  .refine qI (((CS p.d p.sy) != 0)) true (by simpa using h2) ?_;refine qE (.tuple #[]) λK=>?_;rw[if_pos ⟨by omega,h2⟩];exact⟨_,rfl,(nsC hN hO (((c1.n c2).n c3).n c4) K),((((c1.nil (TN i)).n c2).n c3).n c4)⟩
  .refine qI (((CS p.d p.sy) != 0)) false (by simpa using h2) ?_;have hsy:p.syn={ p with d:=Hd p.d p.sy,sy:=In p.d p.sy }:=if_pos (by omega);rw[show(if p.sy<(p.d.length:Int)/\CS p.d p.sy≠0 then(p,ls)else doneP i p.pend { p.syn with pend:=[] } ls)=doneP i p.pend ({ p with d:=Hd p.d p.sy,sy:=In p.d p.sy,pend:=[] }:Nod) ls from by rw[if_neg (by rintro⟨_,h⟩;exact h2 h),hsy]];rw[show{ p.syn with pend:=[] }=({ p with d:=Hd p.d p.sy,sy:=In p.d p.sy,pend:=[] }:Nod)from by rw[hsy]]at hok
   refine qR [.n 0 i] 32 [2,0,1,0,0,1] λs7 g7 w7 c7=>?_;refine Hs [true,true,false] ?_;refine BI 51 [(42,S3.v x.synced),(43,iv (x.synced.n:Int)),(44,iv 0)] [false,false] [] (λk g' w' e L=>∃ (j:Nat) (q:Nod) (l2:List Let),k=p.pend.length-j/\j<=p.pend.length/\e=[(42,S3.v x.synced),(43,iv (x.synced.n:Int)),(44,iv (j:Int))]/\L=[]/\NS i nb ob g' w' q l2 ts/\doneP i (p.pend.drop j) q l2=doneP i p.pend ({ p with d:=Hd p.d p.sy,sy:=In p.d p.sy,pend:=[] }:Nod) ls/\FY i (p.pend.drop j) q l2/\Cg w.heap.size (TN i) g w g' w') (by kernel_rfl) (by kernel_rfl) (by kernel_rfl) (by kernel_rfl) p.pend.length (λK=>?_) ?_
   .have C8:=((((c1.nil ([.n 0 i]:List Tg)).n c2).n c3).n c4).trans (c7);have Z8:Tg.z∉([.n 0 i]:List Tg):=by simp
    exact⟨0,({ p with d:=Hd p.d p.sy,sy:=In p.d p.sy,pend:=[] }:Nod),ls,rfl,by omega,rfl,rfl,⟨({ x with tape:=tz,synced:=s30 }:NX),lt,tl,K.nd 0 ((hts.ch c4).ch c7) (hN.votes.ch C8 Z8) (Bl hN.heard C8 Z8) ⟨[],OwnS.nil _ _ _ _ _ _,⟨rfl,λk v q h=>by cases h⟩⟩ (hN.queue.ch C8) (hN.agreed.ch C8) (hN.wants.ch C8) (hN.asked.ch C8) hN.upm,hO.ch C8 Z8 (by simp<;>omega),K.new⟩,rfl,hok,(((((c1.nil (TN i)).n c2).n c3).n c4).trans (c7.mono (by simp[TN])))⟩
   .rintro k gr wr _ zr _ ⟨j,q,l2,rfl,hj,rfl,rfl,hM,hI,hK,hC⟩ J hJ;obtain⟨xr,ltr,tlr,hNr,hOr,hgr⟩:=id hM;refine qN hNr ?_;refine qO hOr ?_;refine qR [] 5 [] λs9 g9 w9 c9=>?_;by_cases h5:j<p.pend.length
    .refine qI ((decide ((j:Int)<(x.synced.n:Int)))) true (I' (by omega)) ?_;obtain⟨pd,hpd⟩:∃ pd,p.pend[j]?=some pd:=⟨_,E' h5⟩;obtain⟨v,hv⟩:∃ v,pv[j]?=some v:=⟨_,E' (by rw[hPs.len];exact h5)⟩;rw[Pg hpd]at hI hK
     obtain⟨hK1,hK2,hK3⟩:=hK;have hFr:=hF.ch hC;obtain⟨bx,hxa,hbx,hkx,hcx⟩:=hFr.at_ j v hv;have hVr:=(hPs.at_ j v pd hv hpd).ch hC (Bi i);refine qR [] 5 [] λs10 g10 w10 c10=>?_;refine qV 0 (pt bx (0+1*j)) (cN hxa j (by omega)) ?_;refine Ag λK=>?_;have N13:NS i nb ob g10 w10 q l2 ts:=(nsC hNr hOr (c9.n c10) K);obtain⟨F2,cs2,e2,hcf,_⟩:=Gj N13 (hB.ch (((hC.n c9).n c10)) (Bi i)) hT hi hK2 pd hK1 (hVr.ch ((c9.nil (TN i)).n c10) (Bi i));subst e2;have hFz:=hFr.ch (c9.trans c10);refine qV 1 (.func (.func F2) #[] cs2) (BD (ty:=1) (b:=bx) (k:=0+1*j) (v:=.func (.func F2) #[] cs2) underlying1 rfl (by rw[jm,mH];obtain⟨b2,h2,_,_,h4⟩:=hFz.at_ j _ hv;rw[hxa]at h2;simp only[X',Addr.mk.injEq,and_true]at h2;subst h2;exact h4)) ?_;refine qR [] 4 [] λs14 g14 w14 c14=>?_;refine Ag λK=>?_;have N15:NS i nb ob g14 w14 q l2 ts:=(nsC hNr hOr ((c9.n c10).n c14) K);obtain⟨F3,cs3,e3,_,hcall⟩:=Gj N15 (hB.ch ((((hC.n c9).n c10).n c14)) (Bi i)) hT hi hK2 pd hK1 (hVr.ch (((c9.nil (TN i)).n c10).n c14) (Bi i));simp only[Value.func.injEq,Fn.func.injEq,true_and]at e3;obtain⟨rfl,rfl⟩:=e3;refine Rm 1 F2 cs2 (TN i) [false,false] (λW=>cC (by kernel_rfl) (hcf W)) (by kernel_rfl) (by kernel_rfl) (by kernel_rfl) hcall ?_;rintro e' w15 ⟨g15,rfl,M15,c15⟩;refine⟨_,g15,rfl,c15,M15.new,?_⟩;replace c15:=c15.ret (B:=w.heap.size);refine qR [] 3 [] λs17 g17 w17 c17=>?_;refine qV 0 (iv ((j:Int)+1)) (AD (x:=(.tmp 44)) (y:=(.const (iv 1))) (j:Int) 1 underlying3 (by omega)) ?_;refine qR [] 2 [] λs18 g18 w18 c18=>?_;exact qB [] λz K0 K=>hJ (p.pend.length-(j+1)) _ _ _ z _ (by omega) ⟨j+1,q.runP i pd,l2++q.sentP i pd,rfl,by omega,rfl,rfl,NS.ch0 M15 (c17.trans c18) K0.new,hI,hK3,((((((hC.n c9).n c10).n c14).trans c15).n c17).n c18)⟩ K
    .refine qI ((decide ((j:Int)<(x.synced.n:Int)))) false (D' (by omega)) ?_;refine qR [] 1 [] λs19 g19 w19 c19=>?_;obtain rfl:j=p.pend.length:=by omega
     rw[j7]at hI
     rw[<- hI];exact qF hNr hOr (c9.n c19) ((hC.n c9).n c19)
 .refine qI ((decide (p.sy<(x.tape.n:Int)))) false (D' (by omega)) ?_;have hsy:p.syn=p:=if_neg (by omega);rw[show(if p.sy<(p.d.length:Int)/\CS p.d p.sy≠0 then(p,ls)else doneP i p.pend { p.syn with pend:=[] } ls)=doneP i p.pend ({ p with pend:=[] }:Nod) ls from by rw[if_neg (by rintro⟨h,_⟩;omega),hsy]];rw[show{ p.syn with pend:=[] }=({ p with pend:=[] }:Nod)from by rw[hsy]]at hok
  refine qR [.n 0 i] 25 [0,0,1] λs21 g21 w21 c21=>?_;refine BI 51 [(42,S3.v x.synced),(43,iv (x.synced.n:Int)),(44,iv 0)] [false,false] [] (λk g' w' e L=>∃ (j:Nat) (q:Nod) (l2:List Let),k=p.pend.length-j/\j<=p.pend.length/\e=[(42,S3.v x.synced),(43,iv (x.synced.n:Int)),(44,iv (j:Int))]/\L=[]/\NS i nb ob g' w' q l2 ts/\doneP i (p.pend.drop j) q l2=doneP i p.pend ({ p with pend:=[] }:Nod) ls/\FY i (p.pend.drop j) q l2/\Cg w.heap.size (TN i) g w g' w') (by kernel_rfl) (by kernel_rfl) (by kernel_rfl) (by kernel_rfl) p.pend.length (λK=>?_) ?_
  .have C22:=(c1.nil ([.n 0 i]:List Tg)).trans (c21);have Z22:Tg.z∉([.n 0 i]:List Tg):=by simp
   exact⟨0,({ p with pend:=[] }:Nod),ls,rfl,by omega,rfl,rfl,⟨({ x with synced:=s30 }:NX),lt,tl,K.nd 0 (hN.tape.ch C22 Z22) (hN.votes.ch C22 Z22) (Bl hN.heard C22 Z22) ⟨[],OwnS.nil _ _ _ _ _ _,⟨rfl,λk v q h=>by cases h⟩⟩ (hN.queue.ch C22) (hN.agreed.ch C22) (hN.wants.ch C22) (hN.asked.ch C22) hN.upm,hO.ch C22 Z22 (by simp<;>omega),K.new⟩,rfl,hok,((c1.nil (TN i)).trans (c21.mono (by simp[TN])))⟩
  .rintro k gr wr _ zr _ ⟨j,q,l2,rfl,hj,rfl,rfl,hM,hI,hK,hC⟩ J hJ;obtain⟨xr,ltr,tlr,hNr,hOr,hgr⟩:=id hM;refine qN hNr ?_;refine qO hOr ?_;refine qR [] 5 [] λs23 g23 w23 c23=>?_;by_cases h5:j<p.pend.length
   .refine qI ((decide ((j:Int)<(x.synced.n:Int)))) true (I' (by omega)) ?_;obtain⟨pd,hpd⟩:∃ pd,p.pend[j]?=some pd:=⟨_,E' h5⟩;obtain⟨v,hv⟩:∃ v,pv[j]?=some v:=⟨_,E' (by rw[hPs.len];exact h5)⟩;rw[Pg hpd]at hI hK
    obtain⟨hK1,hK2,hK3⟩:=hK;have hFr:=hF.ch hC;obtain⟨bx,hxa,hbx,hkx,hcx⟩:=hFr.at_ j v hv;have hVr:=(hPs.at_ j v pd hv hpd).ch hC (Bi i);refine qR [] 5 [] λs24 g24 w24 c24=>?_;refine qV 0 (pt bx (0+1*j)) (cN hxa j (by omega)) ?_;refine Ag λK=>?_;have N27:NS i nb ob g24 w24 q l2 ts:=(nsC hNr hOr (c23.n c24) K);obtain⟨F2,cs2,e2,hcf,_⟩:=Gj N27 (hB.ch (((hC.n c23).n c24)) (Bi i)) hT hi hK2 pd hK1 (hVr.ch ((c23.nil (TN i)).n c24) (Bi i));subst e2;have hFz:=hFr.ch (c23.trans c24);refine qV 1 (.func (.func F2) #[] cs2) (BD (ty:=1) (b:=bx) (k:=0+1*j) (v:=.func (.func F2) #[] cs2) underlying1 rfl (by rw[jm,mH];obtain⟨b2,h2,_,_,h4⟩:=hFz.at_ j _ hv;rw[hxa]at h2;simp only[X',Addr.mk.injEq,and_true]at h2;subst h2;exact h4)) ?_;refine qR [] 4 [] λs28 g28 w28 c28=>?_;refine Ag λK=>?_;have N29:NS i nb ob g28 w28 q l2 ts:=(nsC hNr hOr ((c23.n c24).n c28) K);obtain⟨F3,cs3,e3,_,hcall⟩:=Gj N29 (hB.ch ((((hC.n c23).n c24).n c28)) (Bi i)) hT hi hK2 pd hK1 (hVr.ch (((c23.nil (TN i)).n c24).n c28) (Bi i));simp only[Value.func.injEq,Fn.func.injEq,true_and]at e3;obtain⟨rfl,rfl⟩:=e3;refine Rm 1 F2 cs2 (TN i) [false,false] (λW=>cC (by kernel_rfl) (hcf W)) (by kernel_rfl) (by kernel_rfl) (by kernel_rfl) hcall ?_;rintro e' w29 ⟨g29,rfl,M29,c29⟩;refine⟨_,g29,rfl,c29,M29.new,?_⟩;replace c29:=c29.ret (B:=w.heap.size);refine qR [] 3 [] λs31 g31 w31 c31=>?_;refine qV 0 (iv ((j:Int)+1)) (AD (x:=(.tmp 44)) (y:=(.const (iv 1))) (j:Int) 1 underlying3 (by omega)) ?_;refine qR [] 2 [] λs32 g32 w32 c32=>?_;exact qB [] λz K0 K=>hJ (p.pend.length-(j+1)) _ _ _ z _ (by omega) ⟨j+1,q.runP i pd,l2++q.sentP i pd,rfl,by omega,rfl,rfl,NS.ch0 M29 (c31.trans c32) K0.new,hI,hK3,((((((hC.n c23).n c24).n c28).trans c29).n c31).n c32)⟩ K
   .refine qI ((decide ((j:Int)<(x.synced.n:Int)))) false (D' (by omega)) ?_;refine qR [] 1 [] λs33 g33 w33 c33=>?_;obtain rfl:j=p.pend.length:=by omega
    rw[j7]at hI
    rw[<- hI];exact qF hNr hOr (c23.n c33) ((hC.n c23).n c33)
def S2(p:Nod)(i j:Nat):Bool:=decide (j≠i/\p.rnd.taught j<p.agreed.length)
def JX(p:Nod)(i k:Nat):Nat->Nat:=λj=>if decide (j<k)&&S2 p i j then p.agreed.length else p.rnd.taught j
def Iq(p:Nod)(i k:Nat):Nod:={ p with rnd:={ p.rnd with taught:=JX p i k } }
def D2(p:Nod)(i:Nat):Nat->List Let
 | 0=>[]
 | k+1=>D2 p i k++(if S2 p i k then[{ Cy 5 with src:=i,dst:=k,slot:=p.rnd.taught k,what:=p.agreed.drop (p.rnd.taught k) }]else[])
theorem Ty(p:Nod)(i k:Nat):(D2 p i k).length<=k:=by
 induction k with
 | zero=>exact A' _
 | succ k ih=>unfold D2;rw[G'];split<;>simp<;>omega
theorem Vy(p:Nod)(i:Nat):Iq p i 0=p:=by unfold Iq JX;simp
theorem Tz(h:S2 p i k=false):JX p i (k+1)=JX p i k:=by
 funext j
 unfold JX;by_cases e:j=k
 .subst e;simp[h]
 .rw[show decide (j<k+1)=decide (j<k)from jZ.2 (by omega)]
theorem YC(h:S2 p i k=true):upN (JX p i k) k p.agreed.length=JX p i (k+1):=by
 funext j
 unfold upN JX;by_cases e:j=k
 .subst e;simp[h]
 .rw[if_neg e,show decide (j<k+1)=decide (j<k)from jZ.2 (by omega)]
theorem Vz(h:NS i nb ob g w p ls ts)(hb:ls.length<90000000) :
  Calls prog 91 #[pt nb 0] w (NP i nb ob g w (.tuple #[]) (if p.leads then Iq p i 5 else p) (if p.leads then ls++D2 p i 5 else ls) ts):=by
 obtain⟨x,lt,tl,hN,hO,hg⟩:=h;refine gI (fn:=f91) (TN i) g func91 hg ?_;refine qN hN ?_;refine qO hO ?_;refine qR [] 4 [] λs1 g1 w1 c1=>?_;by_cases h1:p.leads=false
 .refine Ag λK=>?_;have N3:NS i nb ob g1 w1 p ls ts:=(nsC hN hO c1 K);refine qC 1 (E7 N3 h1) ?_;rintro e' w4 ⟨rfl,b4⟩;refine⟨_,rfl,b4,?_⟩;have c4:=Cg.ofBelow (B:=w.heap.size) (T:=[]) (g:=g1) b4;refine qR [] 3 [] λs5 g5 w5 c5=>?_;refine qE (.tuple #[]) λK=>?_;rw[h1,if_neg (by simp),if_neg (by simp)];exact⟨_,rfl,(nsC hN hO ((c1.n c4).n c5) K),(((c1.nil (TN i)).n c4).n c5)⟩
 .have h10:p.leads=true:=by simpa using h1
  refine Ag λK=>?_;have N8:NS i nb ob g1 w1 p ls ts:=(nsC hN hO c1 K);refine qC 1 (E7 N8 h10) ?_;rintro e' w9 ⟨rfl,b9⟩;refine⟨_,rfl,b9,?_⟩;have c9:=Cg.ofBelow (B:=w.heap.size) (T:=[]) (g:=g1) b9;rw[if_pos h10,if_pos h10];refine qR [] 15 [0] λs10 g10 w10 c10=>?_;refine BI 51 [(0,pt nb 0),(12,.agg #[iv (p.rnd.taught 0:Int),iv (p.rnd.taught 1:Int),iv (p.rnd.taught 2:Int),iv (p.rnd.taught 3:Int),iv (p.rnd.taught 4:Int)]),(13,iv 0)] [false,false] [] (λk g' w' e L=>∃ k0:Nat,k=5-k0/\k0<=5/\e=[(0,pt nb 0),(12,.agg #[iv (p.rnd.taught 0:Int),iv (p.rnd.taught 1:Int),iv (p.rnd.taught 2:Int),iv (p.rnd.taught 3:Int),iv (p.rnd.taught 4:Int)]),(13,iv (k0:Int))]/\L=[]/\NS i nb ob g' w' (Iq p i k0) (ls++D2 p i k0) ts/\Cg w.heap.size (TN i) g w g' w') (by kernel_rfl) (by kernel_rfl) (by kernel_rfl) (by kernel_rfl) 5 (λK=>?_) ?_
  .have C11:=(c1.n c9).n c10;exact⟨0,rfl,by omega,rfl,rfl,(by rw[Vy,show ls++D2 p i 0=ls from jy _];exact(nsC hN hO C11 K)),(((c1.nil (TN i)).n c9).n c10)⟩
  .rintro k gr wr _ zr _ ⟨k0,rfl,hk0,rfl,rfl,hM,hC⟩ J hJ;obtain⟨xr,ltr,tlr,hNr,hOr,hgr⟩:=hM;have htl:=Ty p i k0;refine qN hNr ?_;refine qO hOr ?_;have han:xr.agreed.n=p.agreed.length:=hNr.agreed.num;refine qR [] 5 [] λs12 g12 w12 c12=>?_;by_cases h2:k0<5
   .refine qI ((decide ((k0:Int)<5))) true (I' (by omega)) ?_;refine qR [] 6 [] λs13 g13 w13 c13=>?_;refine ZL 1 (iv (p.rnd.taught k0:Int)) (λK=>(by rcases five h2 with rfl|rfl|rfl|rfl|rfl<;>kernel_rfl)) (by kernel_rfl) ?_;refine qR [] 10 [0] λs14 g14 w14 c14=>?_;by_cases h3:k0≠i
    .refine qV 5 (.bool true) (GY (t:=3) (m:=(k0:Int)) (n:=(i:Int)) (x:=(.tmp 17)) (y:=(.tmp 21)) (by simp;omega)) ?_;refine qR [] 11 [0] λs15 g15 w15 c15=>?_;by_cases h4:(p.rnd.taught k0:Int)<(xr.agreed.n:Int)
     .have hx:S2 p i k0=true:=I' ⟨by omega,by omega⟩;refine qI ((decide ((p.rnd.taught k0:Int)<(xr.agreed.n:Int)))) true (I' (by omega)) ?_;refine qR [] 5 [] λs16 g16 w16 c16=>?_;refine qS 3 [false,false] hNr hOr ((((c12.n c13).n c14).n c15).n c16) (λN17=>Ir N17 (by rw[G'];omega) k0 (p.rnd.taught k0) (by show _<=p.agreed.length;omega)) λg17 w17 x17 lt17 tl17 hN17 hO17 c17=>?_;refine qR [] 14 [13,0,2,4,6,8,10,12,0,14,16,18,20,22] λs19 g19 w19 c19=>?_;have han1:x17.agreed.n=p.agreed.length:=hN17.agreed.num;refine BX 51 (λg' w' e L=>e=[(0,pt nb 0),(12,.agg #[iv (p.rnd.taught 0:Int),iv (p.rnd.taught 1:Int),iv (p.rnd.taught 2:Int),iv (p.rnd.taught 3:Int),iv (p.rnd.taught 4:Int)]),(13,iv (k0:Int))]/\L=[⟨nb,.cells (AB i ob ({ p with rnd:={ p.rnd with taught:=upN (JX p i k0) k0 x17.agreed.n } }) x17) 123,.n 0 i,false⟩,⟨ob,.cells #[S3.v lt17,S3.v tl17] 94,.n 50 0,false⟩]/\True/\Cg w.heap.size ([.n 0 i]:List Tg) g19 w19 g' w') (by kernel_rfl) ?_ ?_
      .intro J hJ;rcases five h2 with rfl|rfl|rfl|rfl|rfl <;>
       (refine qR [.n 0 i] 3 [24,27,0,1] λs21 g21 w21 c21=>?_;exact qB [true,true] λz K0 K=>hJ _ _ _ z _ ⟨rfl,rfl,trivial,c21⟩ K)
      rintro g20 w20 _ z20 _ ⟨rfl,rfl,_,c20⟩;refine qR [] 2 [] λs22 g22 w22 c22=>?_;refine qV 0 (iv ((k0:Int)+1)) (AD (x:=(.tmp 13)) (y:=(.const (iv 1))) (k0:Int) 1 underlying3 (by omega)) ?_;refine qR [] 2 [] λs23 g23 w23 c23=>?_;refine qB [false,false] λz K0 K=>hJ (5-(k0+1)) _ _ _ z _ (by omega) ⟨k0+1,rfl,by omega,rfl,rfl,?_,((((((((((hC.n c12).n c13).n c14).n c15).n c16).trans c17).n c19).trans (c20.mono (by simp[TN]))).n c22).n c23)⟩ K;have C24:=(((c19.nil ([.n 0 i]:List Tg)).trans (c20)).n c22).n c23;rw[show Iq p i (k0+1)={ p with rnd:={ p.rnd with taught:=upN (JX p i k0) k0 x17.agreed.n } }from by unfold Iq;rw[<- YC hx,han1],show ls++D2 p i (k0+1)=(ls++D2 p i k0++[{ Cy 5 with src:=i,dst:=k0,slot:=p.rnd.taught k0,what:=p.agreed.drop (p.rnd.taught k0) }])from by show ls++(D2 p i k0++_)=_;rw[hx,if_pos rfl,iR]];exact⟨x17,lt17,tl17,K0.ndu 0 hN17 C24,hO17.ch C24 (hn:=by simp<;>omega),K0.new⟩
     .have hx:S2 p i k0=false:=D' (λh=>h4 (by omega));refine qI ((decide ((p.rnd.taught k0:Int)<(xr.agreed.n:Int)))) false (D' (by omega)) ?_;refine qR [] 3 [] λs25 g25 w25 c25=>?_;refine qV 0 (iv ((k0:Int)+1)) (AD (x:=(.tmp 13)) (y:=(.const (iv 1))) (k0:Int) 1 underlying3 (by omega)) ?_;refine qR [] 2 [] λs26 g26 w26 c26=>?_;refine qB [false,false] λz K0 K=>hJ (5-(k0+1)) _ _ _ z _ (by omega) ⟨k0+1,rfl,by omega,rfl,rfl,?_,((((((hC.n c12).n c13).n c14).n c15).n c25).n c26)⟩ K;rw[show Iq p i (k0+1)={ p with rnd:={ p.rnd with taught:=JX p i k0 } }from by unfold Iq;rw[Tz hx],show ls++D2 p i (k0+1)=ls++D2 p i k0 from by show ls++(D2 p i k0++_)=_;rw[hx];simp];exact(nsC hNr hOr (((((c12.n c13).n c14).n c15).n c25).n c26) K0)
    .have hx:S2 p i k0=false:=D' (λh=>h.1 (by omega));refine qV 5 (.bool false) (GY (t:=3) (m:=(k0:Int)) (n:=(i:Int)) (x:=(.tmp 17)) (y:=(.tmp 21)) (by simp;omega)) ?_;refine qR [] 15 [] λs28 g28 w28 c28=>?_;refine qV 0 (iv ((k0:Int)+1)) (AD (x:=(.tmp 13)) (y:=(.const (iv 1))) (k0:Int) 1 underlying3 (by omega)) ?_;refine qR [] 2 [] λs29 g29 w29 c29=>?_;refine qB [false,false] λz K0 K=>hJ (5-(k0+1)) _ _ _ z _ (by omega) ⟨k0+1,rfl,by omega,rfl,rfl,?_,(((((hC.n c12).n c13).n c14).n c28).n c29)⟩ K;rw[show Iq p i (k0+1)={ p with rnd:={ p.rnd with taught:=JX p i k0 } }from by unfold Iq;rw[Tz hx],show ls++D2 p i (k0+1)=ls++D2 p i k0 from by show ls++(D2 p i k0++_)=_;rw[hx];simp];exact(nsC hNr hOr ((((c12.n c13).n c14).n c28).n c29) K0)
   .refine qI ((decide ((k0:Int)<5))) false (D' (by omega)) ?_;refine qR [] 1 [] λs31 g31 w31 c31=>?_;obtain rfl:k0=5:=by omega
    exact qF hNr hOr (c12.n c31) ((hC.n c12).n c31)
end
end
section
section
def BB(l:List Vt):Prop:=BA l/\∀ v∈l,0<=v.slot/\v.slot<=39
theorem Yc(l:List Vt)(a:Int)(h:BA l)(hb:∀ v∈l,a<=v.slot/\v.slot<=39):l.length<=(40-a).toNat:=by
 induction l generalizing a with
 | nil=>exact jf _
 | cons u l ih =>
  obtain⟨h1,h2⟩:=h;have hu:=hb u U';have:=ih (u.slot+1) h2 λv hv=>⟨by have:=h1 v hv;omega,(hb v (P' _ hv)).2⟩;rw[jo];omega
variable{a:Acc}{b:Bal}{l:List Vt}{v:Vt}
theorem BB.len(h:BB l):l.length<=40:=Yc l 0 h.1 h.2
theorem BB.nil:BB []:=⟨trivial,λv h=>by cases h⟩
theorem AH(h:AQ a v=0):An a/\Ak v/\¬ v.b.lt a.p:=by
 unfold AQ at h;by_cases h1:An a
 .rw[if_neg (λg=>g h1)]at h
  by_cases h2:Ak v
  .rw[if_neg (λg=>g h2)]at h
   by_cases h3:v.b.lt a.p
   .rw[if_pos h3]at h;cases h
   .exact⟨h1,h2,h3⟩
  .rw[if_pos h2]at h;cases h
 .rw[if_pos h1]at h;cases h
theorem Dd(h:BQ a b=0):An a/\Ab b/\¬ b.lt a.p:=by
 unfold BQ at h;by_cases h1:An a
 .rw[if_neg (λg=>g h1)]at h
  by_cases h2:Ab b
  .rw[if_neg (λg=>g h2)]at h
   by_cases h3:b.lt a.p
   .rw[if_pos h3]at h;cases h
   .exact⟨h1,h2,h3⟩
  .rw[if_pos h2]at h;cases h
 .rw[if_pos h1]at h;cases h
theorem FA(h:BB l)(hv:Ak v):BB (Ba l v) :=
 ⟨IC v h.1,λu hu=>by
  rcases(Cw h.1).1 hu with rfl|⟨h2,_⟩
  .exact hv.1
  .exact h.2 u h2⟩
theorem Uv(a:Acc)(l:List Vt)(h:BB a.vs):BB (CX a l).vs:=by
 induction l generalizing a with
 | nil=>exact h
 | cons v l ih =>
  rw[CX];refine ih _ ?_;by_cases hv:AQ a v=0
  .rw[if_pos hv];show BB (Ca a v);rw[(Fj hv).2];exact FA h (AH hv).2.1
  .rw[if_neg hv];exact h
def POk(k:Nat):Pend->Prop
 | .began b vs=>BB vs
 | .prom to b vs=>to<5/\Aw b/\BB vs
 | .voted to v=>to<5
 | .refuse to b=>to<5/\Aw b
 | .prop v=>True
 | .askNews to=>to<5
 | .start=>True
 | .tell to slot=>to<5/\slot<=k
theorem POk.mono{k m:Nat}{q:Pend}(h:POk k q)(hk:k<=m):POk m q:=by
 cases q<;>first|exact h|exact⟨h.1,iP h.2 hk⟩
def Pend.wt:Pend->Nat
 | .began _ _=>4
 | .prop _=>4
 | .start=>4
 | _=>1
def Au:List Pend->Nat
 | []=>0
 | q::l=>q.wt+Au l
theorem Fb(l:List Pend)(q:Pend):Au (l++[q])=Au l+q.wt:=by
 induction l with
 | nil=>simp[Au]
 | cons x l ih=>simp only[List.cons_append,Au,ih];omega
theorem D6(l:List Pend):l.length<=Au l:=by
 induction l with
 | nil=>exact A' _
 | cons x l ih =>
  rw[Au,jo];have:1<=x.wt:=by cases x<;>simp[Pend.wt]
  omega
structure NOk(n:Nat)(p:Nod):Prop where
 ag:p.agreed.length<=40
 dn:p.done<=p.agreed.length
 qu:p.rnd.queue.length<=40
 wa:p.wants.length<=n
 ask:∀ c,(p.asked c).isSome=true->c∈p.wants
 ro:0<=p.rounds/\p.rounds<=65536
 vp:Aw p.vo.p
 vs:BB p.vo.vs
 he:∀ j,BB (p.rnd.heard j).vs
 pe:∀ q∈p.pend,POk p.agreed.length q
structure LOk(l:Let):Prop where
 kd:l.kind<7
 src:l.src<5
 dst:l.dst<5
 bal:Aw l.bal
 vs:BB l.votes
 wh:l.what.length<=40
 sl:l.kind=5->l.slot+l.what.length<=40
theorem Aw.b0:Aw Cc:=.inr ⟨rfl,rfl⟩
theorem Aw.rng(h:Aw b):0<=b.r/\b.r<=65536/\0<=b.n/\b.n<=4:=by
 rcases h with⟨h1,h2⟩|⟨h1,h2⟩<;>omega
end
section
variable{n:Nat}{p:Nod}
theorem NOk.wait(h:NOk n p){q:Pend}(hq:POk p.agreed.length q):NOk n (p.wait q) :=
 { h with pe:=λr hr=>(V'.1 hr).elim (h.pe r) λh1=>(O'.1 h1)▸hq }
theorem NOk.promise(h:NOk n p)(b:Bal):NOk n (p.promise b).1/\(p.promise b).1.pend=p.pend/\(p.promise b).1.agreed=p.agreed/\BB (p.promise b).2.1/\((p.promise b).2.2=0->Ab b):=by
 unfold Nod.promise;by_cases h1:BQ p.vo b≠0
 .rw[if_pos h1];exact⟨h,rfl,rfl,BB.nil,λg=>absurd g h1⟩
 .rw[if_neg h1];have h2:=Dd (jO h1);by_cases h3:b=p.vo.p
  .rw[if_pos h3];exact⟨{ h with vp:=.inl h2.2.1,vs:=h.vs },rfl,rfl,h.vs,λ_=>h2.2.1⟩
  .rw[if_neg h3];by_cases h4:CM p.d p.sy (Ab b) (Bn b)≠0
   .rw[if_pos h4];exact⟨h,rfl,rfl,BB.nil,λg=>absurd g h4⟩
   .rw[if_neg h4];exact⟨{ h with vp:=.inl h2.2.1,vs:=h.vs },rfl,rfl,h.vs,λ_=>h2.2.1⟩
theorem NOk.vote(h:NOk n p)(v:Vt):NOk n (p.vote v).1/\(p.vote v).1.pend=p.pend/\(p.vote v).1.agreed=p.agreed/\(p.vote v).1.rnd=p.rnd:=by
 unfold Nod.vote;by_cases h1:AQ p.vo v≠0
 .rw[if_pos h1];exact⟨h,rfl,rfl,rfl⟩
 .rw[if_neg h1];have h2:=AH (jO h1);by_cases h3:v∈p.vo.vs
  .rw[if_pos h3];exact⟨{ h with vp:=.inl h2.2.1.2.1,vs:=FA h.vs h2.2.1 },rfl,rfl,rfl⟩
  .rw[if_neg h3];by_cases h4:CM p.d p.sy (Ak v) (Be v)≠0
   .rw[if_pos h4];exact⟨h,rfl,rfl,rfl⟩
   .rw[if_neg h4];exact⟨{ h with vp:=.inl h2.2.1.2.1,vs:=FA h.vs h2.2.1 },rfl,rfl,rfl⟩
theorem NOk.refuse(h:NOk n p){to:Nat}(hto:to<5)(e:Int):NOk n (p.refuse to e)/\(p.refuse to e).agreed=p.agreed/\Au (p.refuse to e).pend<=Au p.pend+1:=by
 unfold Nod.refuse;split
 .exact⟨h.wait ⟨hto,h.vp⟩,rfl,by show Au (p.pend++[_])<=_;rw[Fb];exact A' _⟩
 .exact⟨h,rfl,jP _⟩
theorem am(k:Nat)(r:Rnd)(l:List Cmd)(h:l.length<=40):(KW k r l).length<=40/\l.length<=(KW k r l).length:=by
 induction k generalizing l with
 | zero=>exact⟨h,A' _⟩
 | succ k ih =>
  rw[KW];split
  .rename_i h1
   have h2:=VY h1;have:=ih (l++[Cv r.accs (l.length:Int)]) (by simp;omega);simp at this;exact⟨this.1,by omega⟩
  .exact⟨h,A' _⟩
theorem NOk.grow(h:NOk n p){l:List Cmd}(h1:l.length<=40)(h2:p.agreed.length<=l.length):NOk n { p with agreed:=l } :=
 { h with ag:=h1,dn:=iP h.dn h2,pe:=λq hq=>(h.pe q hq).mono h2 }
theorem NOk.learnC(h:NOk n p):NOk n p.learnC/\p.learnC.pend=p.pend/\p.agreed.length<=p.learnC.agreed.length :=
 have:=am 41 p.rnd p.agreed h.ag
 ⟨h.grow this.1 this.2,rfl,this.2⟩
theorem NOk.learn(h:NOk n p){slot:Nat}{what:List Cmd}(h1:slot<=p.agreed.length)(h2:slot+what.length<=40):NOk n (p.learn slot what)/\(p.learn slot what).pend=p.pend/\p.agreed.length<=(p.learn slot what).agreed.length:=by
 have ha:=h.ag;refine⟨h.grow ?_ ?_,rfl,?_⟩
 .rw[G',iQ];omega
 .rw[G'];omega
 .show _<=(p.agreed++_).length;rw[G'];omega
theorem YG{α:Type}{f:Nat->α}{P:α->Prop}(h:∀ j,P (f j))(i:Nat){x:α}(hx:P x):∀ j,P (upN f i x j):=by
 intro j;unfold upN;split
 .exact hx
 .exact h j
theorem NOk.hear(h:NOk n p)(j:Nat){vs:List Vt}(hv:BB vs):NOk n { p with rnd:=p.rnd.hear j vs } :=
 { h with qu:=h.qu,he:=YG (P:=λa:Acc=>BB a.vs) h.he j (Uv _ _ hv) }
theorem NOk.count(h:NOk n p)(j:Nat)(v:Vt):NOk n (p.count j v)/\(p.count j v).pend=p.pend/\p.agreed.length<=(p.count j v).agreed.length:=by
 unfold Nod.count;by_cases h1:v.b≠p.rnd.bal
 .rw[if_pos h1];exact⟨h,rfl,A' _⟩
 .rw[if_neg h1];by_cases h2:AQ (p.rnd.heard j) v≠0
  .rw[if_pos h2];exact⟨h,rfl,A' _⟩
  .rw[if_neg h2];have h3:=jO h2;have:NOk n { p with rnd:={ p.rnd with heard:=upN p.rnd.heard j ⟨BR (p.rnd.heard j) v,Ca (p.rnd.heard j) v⟩ } } :=
    { h with qu:=h.qu,he:=YG (P:=λa:Acc=>BB a.vs) h.he j (by show BB (Ca _ v);rw[(Fj h3).2];exact FA (h.he j) (AH h3).2.1) }
   exact this.learnC
theorem NOk.enqueue(h:NOk n p)(l:List Cmd):NOk n (p.enqueue l)/\(p.enqueue l).pend=p.pend/\(p.enqueue l).agreed=p.agreed:=by
 unfold Nod.enqueue;split
 .exact⟨{ h with qu:=Zz _ _ h.qu,he:=h.he },rfl,rfl⟩
 .exact⟨h,rfl,rfl⟩
theorem NOk.take(h:NOk n p){l:Let}(hl:LOk l):NOk n (p.take l)/\Au (p.take l).pend<=Au p.pend+1/\p.agreed.length<=(p.take l).agreed.length:=by
 have ha:=h.ag;unfold Nod.take;have hw:∀ {P:Nod} {q:Pend},P.pend=p.pend->q.wt=1->Au (P.wait q).pend<=Au p.pend+1:=λ{P q} e e2=>by
  show Au (P.pend++[q])<=_;rw[Fb,e,e2];exact A' _
 split
 .have hp:=h.promise l.bal;split
  .have:=h.refuse hl.src (p.promise l.bal).2.2;exact⟨this.1,this.2.2,by rw[this.2.1];exact A' _⟩
  .rename_i h1
   exact⟨hp.1.wait ⟨hl.src,.inl (hp.2.2.2.2 (jO h1)),hp.2.2.2.1⟩,hw hp.2.1 rfl,by show _<=(p.promise l.bal).1.agreed.length;rw[hp.2.2.1];exact A' _⟩
 .have hk:=h.learn (slot:=0) (what:=l.what) (jf _) (by have:=hl.wh;omega);simp only;split
  .exact⟨hk.1,by rw[hk.2.1];omega,hk.2.2⟩
  .have h2:=hk.1.hear l.src (vs:=l.votes) hl.vs;have h3:NOk n { p.learn 0 l.what with rnd:={ (p.learn 0 l.what).rnd.hear l.src l.votes with taught:=upN (p.learn 0 l.what).rnd.taught l.src l.what.length } }:={ h2 with qu:=h2.qu,he:=h2.he };have h4:=h3.learnC;exact⟨h4.1,by rw[h4.2.1];show Au (p.learn 0 l.what).pend<=_;rw[hk.2.1];omega,iP hk.2.2 h4.2.2⟩
 .have hr:=h.ro;have hb:=hl.bal.rng;exact⟨{ h with ro:=by show 0<=max p.rounds l.bal.r/\max p.rounds l.bal.r<=65536;omega },jP _,A' _⟩
 .have hp:=h.vote l.vote;split
  .have:=h.refuse hl.src (p.vote l.vote).2;exact⟨this.1,this.2.2,by rw[this.2.1];exact A' _⟩
  .exact⟨hp.1.wait hl.src,hw hp.2.1 rfl,by show _<=(p.vote l.vote).1.agreed.length;rw[hp.2.2.1];exact A' _⟩
 .have:=h.count l.src l.vote;exact⟨this.1,by rw[this.2.1];omega,this.2.2⟩
 .rename_i hk
  split
  .exact⟨h.wait hl.src,hw rfl rfl,A' _⟩
  .have:=h.learn (slot:=l.slot) (what:=l.what) (by omega) (hl.sl hk);exact⟨this.1,by rw[this.2.1];omega,this.2.2⟩
 .have he:=h.enqueue l.what;simp only;split
  .rename_i h1
   exact⟨he.1.wait ⟨hl.src,ks h1⟩,hw he.2.1 rfl,by show _<=(p.enqueue l.what).agreed.length;rw[he.2.2];exact A' _⟩
  .exact⟨he.1,by rw[he.2.1];omega,by rw[he.2.2];exact A' _⟩
 .exact⟨h,jP _,A' _⟩
end
def Nod.askd(p:Nod)(i:Nat):Nod × List Let :=
 if(CY p.vo.p p.asked (p.wants.take 40)).1=[]then({ p with asked:=(CY p.vo.p p.asked (p.wants.take 40)).2 },[])
 else if p.vo.p.n=(i:Int)then(Nod.enqueue { p with asked:=(CY p.vo.p p.asked (p.wants.take 40)).2 } (CY p.vo.p p.asked (p.wants.take 40)).1,[])
 else({ p with asked:=(CY p.vo.p p.asked (p.wants.take 40)).2 },[{ Cy 6 with slot:=p.agreed.length,what:=(CY p.vo.p p.asked (p.wants.take 40)).1,src:=i,dst:=p.vo.p.n.toNat }])
noncomputable def doP(i:Nat):List Cmd->Nod->List Tol->Nod × List Tol
 | [],p,ts=>(p,ts)
 | c::l,p,ts =>
  if doE p.sto c≠0 then(p,ts)
  else doP i l (Nod.unwant { p with sto:=doS p.sto c,done:=p.done+1 } c) (if(p.asked c).isSome=true then ts++[⟨i,c.c,c.s,doC p.sto c,doA p.sto c⟩]else ts)
def Nod.syncd(p:Nod)(i:Nat)(ls:List Let):Nod × List Let:=if p.sy<(p.d.length:Int)/\CS p.d p.sy≠0 then(p,ls)else doneP i p.pend { p.syn with pend:=[] } ls
def Nod.taught(p:Nod)(i:Nat)(ls:List Let):Nod × List Let:=if p.leads then(Iq p i 5,ls++D2 p i 5)else(p,ls)
noncomputable def Nod.piece(p:Nod)(i:Nat)(ls:List Let)(ts:List Tol):Nod × List Let × List Tol :=
 let a:=doP i (p.agreed.drop p.done) p ts
 let b:=a.1.askd i
 let c:=b.1.propose.syncd i (ls++b.2)
 let d:=c.1.taught i c.2
 (d.1,d.2,a.2)
noncomputable def Nod.sub0(p:Nod)(i:Nat)(e:Int)(c:Cmd)(ts:List Tol):Nod × List Tol :=
 if p.up=false then(p,ts)
 else if e≠0 then({ p with bad:=p.bad+1 },ts)
 else if c∈p.agreed.take p.done then(p,ts++[⟨i,c.c,c.s,doC p.sto c,doA p.sto c⟩])
 else(p.want c,ts)
def Li(l:List Int)(now:Int):Cmd:=if opE l now=0 then⟨Ac (unQ l) 0,Ac (unQ l) 4,Ac (unQ l) 8,Ac (unQ l) 12,Ac (unQ l) 16⟩else TW
theorem el(l:List Int)(now:Int):opA l now=cmC (Li l now):=by unfold opA Li;split<;>rfl
noncomputable def Nod.subm(p:Nod)(i:Nat)(d:List Int)(ts:List Tol):Nod × List Tol:=p.sub0 i (opE d (p.done:Int)) (Li d (p.done:Int)) ts
def Meet.set(M:Meet)(i:Nat)(p:Nod)(ls:List Let)(ts:List Tol):Meet:=⟨upN M.node i p,ls,ts⟩
noncomputable def Meet.act(M:Meet)(x:Lac):Meet :=
 let i:=x.n.toNat
 if x.k=1 then M.set i ((M.node i).subm i x.d M.told).1 M.lets ((M.node i).subm i x.d M.told).2
 else if x.k=2 then M.set i (if(M.node i).up then(M.node i).lead i else M.node i) M.lets M.told
 else if x.k=3 then M.set i (if(M.node i).up then((M.node i).piece i M.lets M.told).1 else M.node i) (if(M.node i).up then((M.node i).piece i M.lets M.told).2.1 else M.lets) (if(M.node i).up then((M.node i).piece i M.lets M.told).2.2 else M.told)
 else if x.k=4\/x.k=5\/x.k=6 then M.move x.k x.a.toNat
 else if x.k=7 then M.comeAll
 else if x.k=8 then M.set i (if(M.node i).up then(M.node i).crash x.p else M.node i) M.lets M.told
 else if x.k=9 then M.set i (if(M.node i).up then M.node i else(M.node i).start) M.lets M.told
 else M
noncomputable def Meet.acts(M:Meet)(l:List Lac):Meet:=l.foldl Meet.act M
theorem aV(r:List Int):Aw (DU r).2.p/\BB (DU r).2.vs:=by
 have h:∀ k,Aw (itR r k).2.p/\BB (itR r k).2.vs:=by
  intro k;induction k with
  | zero=>exact⟨.inr ⟨rfl,rfl⟩,BB.nil⟩
  | succ k ih =>
   rw[itR];unfold Jp;split
   .exact ih
   .rename_i c m hs
    have hd:∃ b,Dp (itR r k).2 b=some c:=by
     unfold BG at hs;split at hs
     .cases hs
     .split at hs
      .cases hs
      .split at hs
       .cases hs
       .obtain⟨x,hx,e⟩:=j0.1 hs;injection e with e1 e2
        subst e1;exact⟨_,hx⟩
    obtain⟨b,hb⟩:=hd;unfold Dp at hb;split at hb
    .split at hb
     .rename_i h1
      injection hb with hb;subst hb
      exact⟨.inl (Dd h1).2.1,ih.2⟩
     .cases hb
    .split at hb
     .split at hb
      .split at hb
       .rename_i h1
        injection hb with hb;subst hb
        exact⟨.inl (AH h1).2.1.2.1,FA ih.2 (AH h1).2.1⟩
       .cases hb
      .cases hb
     .cases hb
 exact h r.length
theorem aU(d:List Int)(s:Int):Aw (FJ d s).p/\BB (FJ d s).vs:=by
 unfold FJ;split
 .exact aV d
 .exact⟨.inr ⟨rfl,rfl⟩,BB.nil⟩
theorem D8{i:Nat}{l m:Let}{k:Nat}(h:m∈BZ i l k):∃ to,to<k/\m={ l with src:=i,dst:=to }:=by
 unfold BZ at h;obtain⟨to,h1,rfl⟩:=ju.1 h;exact⟨to,kQ.1 (List.mem_filter.1 h1).1,rfl⟩
theorem IL{i:Nat}(hi:i<5)(l:Let):(BZ i l 5).length<=4:=by
 unfold BZ;rw[jc];rcases five hi with rfl|rfl|rfl|rfl|rfl<;>decide
section
variable{n i:Nat}{p:Nod}
theorem NOk.runP(h:NOk n p)(hi:i<5){q:Pend}(hq:POk p.agreed.length q):NOk n (p.runP i q)/\(p.runP i q).pend=p.pend/\p.agreed.length<=(p.runP i q).agreed.length/\Q6 p i q/\(∀ m∈p.sentP i q,LOk m)/\(p.sentP i q).length<=q.wt:=by
 have ha:=h.ag;have one:∀ {l:Let},LOk l->∀ m∈[l],LOk m:=λhl m hm=>by rw[O'.1 hm];exact hl
 cases q with
 | began b vs =>
  unfold Nod.runP Nod.sentP;refine⟨?_,?_,?_,l7 (h.he i).len (by decide),?_,?_⟩
  .simp only;split
   .exact h
   .exact h.hear i hq
  .simp only;split<;>rfl
  .simp only;split<;>exact A' _
  .simp only;split
   .exact λm hm=>by cases hm
   .rename_i h1
    intro m hm;obtain⟨to,h2,rfl⟩:=D8 hm;exact⟨by show 0<7;decide,hi,h2,by show Aw b;rw[<- jO h1];exact h.vp,BB.nil,by show 0<=40;decide,λh=>by cases h⟩
  .simp only;split
   .exact jf _
   .exact IL hi _
 | prom to b vs=>exact⟨h,rfl,A' _,trivial,one ⟨by show 1<7;decide,hi,hq.1,hq.2.1,hq.2.2,ha,λh=>by cases h⟩,A' _⟩
 | voted to v=>exact⟨h,rfl,A' _,trivial,one ⟨by show 4<7;decide,hi,hq,Aw.b0,BB.nil,by show 0<=40;decide,λh=>by cases h⟩,A' _⟩
 | refuse to b=>exact⟨h,rfl,A' _,trivial,one ⟨by show 2<7;decide,hi,hq.1,hq.2,BB.nil,by show 0<=40;decide,λh=>by cases h⟩,A' _⟩
 | prop v =>
  have hc:=h.count i v;refine⟨hc.1,hc.2.1,hc.2.2,ha,λm hm=>?_,IL hi _⟩;obtain⟨to,h2,rfl⟩:=D8 hm;exact⟨by show 3<7;decide,hi,h2,Aw.b0,BB.nil,by show 0<=40;decide,λh=>by cases h⟩
 | askNews to=>exact⟨h,rfl,A' _,trivial,one ⟨by show 6<7;decide,hi,hq,Aw.b0,BB.nil,by show 0<=40;decide,λh=>by cases h⟩,A' _⟩
 | start =>
  refine⟨h,rfl,A' _,trivial,λm hm=>?_,IL hi _⟩;obtain⟨to,h2,rfl⟩:=D8 hm;exact⟨by show 6<7;decide,hi,h2,Aw.b0,BB.nil,by show 0<=40;decide,λh=>by cases h⟩
 | tell to slot=>exact⟨h,rfl,A' _,hq.2,one ⟨by show 5<7;decide,hi,hq.1,Aw.b0,BB.nil,by show(p.agreed.drop slot).length<=40;rw[iQ];omega,λ_=>by show slot+(p.agreed.drop slot).length<=40;rw[iQ];have:=hq.2;omega⟩,A' _⟩
theorem Wr(hi:i<5)(l:List Pend)(p:Nod)(ls:List Let)(h:NOk n p)(hq:∀ q∈l,POk p.agreed.length q)(hb:ls.length+Au l<90000000)(hl:∀ m∈ls,LOk m) :
  NOk n (doneP i l p ls).1/\(doneP i l p ls).1.pend=p.pend/\(∀ m∈(doneP i l p ls).2,LOk m)/\(doneP i l p ls).2.length<=ls.length+Au l/\FY i l p ls:=by
 induction l generalizing p ls with
 | nil=>exact⟨h,rfl,hl,A' _,trivial⟩
 | cons q l ih =>
  obtain⟨h1,h2,h3,h4,h5,h6⟩:=h.runP hi (hq q U');have hw:Au (q::l)=q.wt+Au l:=rfl;obtain⟨k1,k2,k3,k4,k5⟩:=ih (p.runP i q) (ls++p.sentP i q) h1 (λr hr=>(hq r (P' _ hr)).mono h3) (by rw[G'];omega) (λm hm=>by
   rcases V'.1 hm with h|h
   .exact hl m h
   .exact h5 m h)
  refine⟨k1,k2.trans h2,k3,?_,h4,by omega,k5⟩;show(doneP i l (p.runP i q) (ls++p.sentP i q)).2.length<=_;rw[G']at k4;omega
theorem NOk.syn(h:NOk n p):NOk n { p.syn with pend:=[] }:=by
 unfold Nod.syn;split
 .exact{ h with pe:=λq hq=>by cases hq }
 .exact{ h with pe:=λq hq=>by cases hq }
theorem Ss(p:Nod):p.syn.agreed=p.agreed:=by unfold Nod.syn;split<;>rfl
theorem NOk.syncd(h:NOk n p)(hi:i<5){ls:List Let}(hb:ls.length+Au p.pend<90000000)(hl:∀ m∈ls,LOk m) :
  NOk n (p.syncd i ls).1/\(∀ m∈(p.syncd i ls).2,LOk m)/\(p.syncd i ls).2.length+Au (p.syncd i ls).1.pend<=ls.length+Au p.pend/\FY i p.pend { p.syn with pend:=[] } ls:=by
 have hd:=Wr hi p.pend { p.syn with pend:=[] } ls h.syn (λq hq=>by show POk p.syn.agreed.length q;rw[Ss];exact h.pe q hq) hb hl;unfold Nod.syncd;split
 .exact⟨h,hl,A' _,hd.2.2.2.2⟩
 .exact⟨hd.1,hd.2.2.1,by rw[hd.2.1];exact hd.2.2.2.1,hd.2.2.2.2⟩
theorem VJ(b:Bal)(f:Cmd->Option Bal)(l:List Cmd):(CY b f l).1.length<=l.length:=by
 induction l generalizing f with
 | nil=>exact A' _
 | cons c l ih =>
  rw[CY];split
  .have:=ih (Ex f c (some b));simp only[jo];omega
  .have:=ih f;simp only[jo];omega
theorem TL(b:Bal)(f:Cmd->Option Bal)(l:List Cmd)(c:Cmd)(h:((CY b f l).2 c).isSome=true):(f c).isSome=true\/c∈l:=by
 induction l generalizing f with
 | nil=>exact .inl h
 | cons d l ih =>
  rw[CY]at h
  split at h
  .rcases ih _ h with h1|h1
   .unfold Ex at h1;split at h1
    .rename_i e;exact .inr (e▸U')
    .exact .inl h1
   .exact .inr (P' _ h1)
  .rcases ih _ h with h1|h1
   .exact .inl h1
   .exact .inr (P' _ h1)
theorem NOk.asks(h:NOk n p):NOk n { p with asked:=(CY p.vo.p p.asked (p.wants.take 40)).2 } :=
 { h with ask:=λc hc=>(TL _ _ _ c hc).elim (h.ask c) jb }
theorem NOk.askd(h:NOk n p)(hi:i<5):NOk n (p.askd i).1/\(p.askd i).1.pend=p.pend/\(p.askd i).1.agreed=p.agreed/\(∀ m∈(p.askd i).2,LOk m)/\(p.askd i).2.length<=1:=by
 have hL:(CY p.vo.p p.asked (p.wants.take 40)).1.length<=40:=iP (VJ _ _ _) (by rw[iO];omega);unfold Nod.askd;split
 .exact⟨h.asks,rfl,rfl,λm hm=>(by cases hm),jf _⟩
 .split
  .have:=h.asks.enqueue (CY p.vo.p p.asked (p.wants.take 40)).1;exact⟨this.1,this.2.1,this.2.2,λm hm=>(by cases hm),jf _⟩
  .have hr:=h.vp.rng;refine⟨h.asks,rfl,rfl,λm hm=>?_,A' _⟩;rw[O'.1 hm];exact⟨by show 6<7;decide,hi,by show p.vo.p.n.toNat<5;omega,Aw.b0,BB.nil,hL,λh=>by cases h⟩
theorem NOk.propose(h:NOk n p):NOk n p.propose/\Au p.propose.pend<=Au p.pend+4/\p.propose.agreed=p.agreed:=by
 unfold Nod.propose;split
 .exact⟨h,by omega,rfl⟩
 .split
  .exact⟨h,by omega,rfl⟩
  .rename_i c _
   split
   .exact⟨h,by omega,rfl⟩
   .have hv:=h.vote ⟨(p.agreed.length:Int),p.rnd.bal,c⟩;have h1:NOk n { (p.vote ⟨(p.agreed.length:Int),p.rnd.bal,c⟩).1 with rnd:={ p.rnd with next:=p.agreed.length+1 } }:={ hv.1 with qu:=h.qu,he:=h.he };refine⟨h1.wait trivial,?_,hv.2.2.1⟩;show Au ((p.vote ⟨(p.agreed.length:Int),p.rnd.bal,c⟩).1.pend++[_])<=_;rw[Fb,hv.2.1];exact A' _
theorem NOk.taught(h:NOk n p)(hi:i<5)(ls:List Let)(hl:∀ m∈ls,LOk m):NOk n (p.taught i ls).1/\(p.taught i ls).1.pend=p.pend/\(∀ m∈(p.taught i ls).2,LOk m)/\(p.taught i ls).2.length<=ls.length+5:=by
 have ha:=h.ag;have ht:∀ k,k<=5->∀ m∈D2 p i k,LOk m:=by
  intro k;induction k with
  | zero=>exact λ_ m hm=>by cases hm
  | succ k ih =>
   intro hk m hm;rw[D2]at hm
   rcases V'.1 hm with h1|h1
   .exact ih (by omega) m h1
   .split at h1
    .rename_i hb
     have hb:=jn hb;rw[O'.1 h1];exact⟨by show 5<7;decide,hi,by show k<5;omega,Aw.b0,BB.nil,by show(p.agreed.drop _).length<=40;rw[iQ];omega,λ_=>by show p.rnd.taught k+(p.agreed.drop _).length<=40;rw[iQ];omega⟩
    .cases h1
 unfold Nod.taught;split
 .refine⟨{ h with qu:=h.qu,he:=h.he },rfl,λm hm=>?_,by show(ls++D2 p i 5).length<=_;rw[G'];have:=Ty p i 5;omega⟩;rcases V'.1 hm with h1|h1
  .exact hl m h1
  .exact ht 5 (A' _) m h1
 .exact⟨h,rfl,hl,mq _ _⟩
theorem NOk.unwant(h:NOk n p)(c:Cmd):NOk n (p.unwant c)/\(p.unwant c).wants.length+(if(p.asked c).isSome=true then 1 else 0)<=p.wants.length:=by
 unfold Nod.unwant;split
 .rename_i h1
  have hm:=h.ask c h1;have hl:(p.wants.erase c).length=p.wants.length-1:=List.length_erase_of_mem hm;have hp:0<p.wants.length:=List.length_pos_of_mem hm;refine⟨{ h with wa:=?_,ask:=λd hd=>?_ },by show(p.wants.erase c).length+1<=_;omega⟩
  .show(p.wants.erase c).length<=n;have:=h.wa;omega
  .unfold Ex at hd;simp only at hd;split at hd
   .cases hd
   .rename_i hne;exact(List.mem_erase_of_ne hne).2 (h.ask d hd)
 .exact⟨h,A' _⟩
theorem FS(p:Nod)(c:Cmd):(p.unwant c).up=p.up/\(p.unwant c).pend=p.pend/\(p.unwant c).agreed=p.agreed/\(p.unwant c).done=p.done/\(p.unwant c).sto=p.sto:=by
 unfold Nod.unwant;split<;>exact⟨rfl,rfl,rfl,rfl,rfl⟩
theorem Wo(i:Nat)(l:List Cmd)(p:Nod)(ts:List Tol)(h:NOk n p)(hl:p.done+l.length<=p.agreed.length) :
  NOk n (doP i l p ts).1/\(doP i l p ts).1.pend=p.pend/\(doP i l p ts).1.agreed=p.agreed/\(doP i l p ts).2.length+(doP i l p ts).1.wants.length<=ts.length+p.wants.length:=by
 induction l generalizing p ts with
 | nil=>exact⟨h,rfl,rfl,A' _⟩
 | cons c l ih =>
  rw[doP];split
  .exact⟨h,rfl,rfl,A' _⟩
  .rw[jo]at hl
   have h1:NOk n { p with sto:=doS p.sto c,done:=p.done+1 }:={ h with dn:=by show p.done+1<=p.agreed.length;omega };have h2:=h1.unwant c;have hs:=FS { p with sto:=doS p.sto c,done:=p.done+1 } c;obtain⟨k1,k2,k3,k4⟩:=ih (Nod.unwant { p with sto:=doS p.sto c,done:=p.done+1 } c) (if(p.asked c).isSome=true then ts++[⟨i,c.c,c.s,doC p.sto c,doA p.sto c⟩]else ts) h2.1 (by rw[hs.2.2.2.1,hs.2.2.1];show p.done+1+l.length<=p.agreed.length;omega);refine⟨k1,k2.trans hs.2.1,k3.trans hs.2.2.1,iP k4 ?_⟩;have h3:=h2.2;simp only at h3;by_cases hx:(p.asked c).isSome=true
   .rw[if_pos hx]at h3 ⊢
    rw[G'];show ts.length+1+_<=_;omega
   .rw[if_neg hx]at h3 ⊢;omega
theorem NOk.piece(h:NOk n p)(hi:i<5){ls:List Let}{ts:List Tol}(hb:ls.length+Au p.pend<80000000)(hl:∀ m∈ls,LOk m) :
  NOk n (p.piece i ls ts).1/\(∀ m∈(p.piece i ls ts).2.1,LOk m)/\(p.piece i ls ts).2.1.length+Au (p.piece i ls ts).1.pend<=ls.length+Au p.pend+10/\(p.piece i ls ts).2.2.length+(doP i (p.agreed.drop p.done) p ts).1.wants.length<=ts.length+p.wants.length:=by
 have h1:=Wo i (p.agreed.drop p.done) p ts h (by rw[iQ];have:=h.dn;omega);have h2:=h1.1.askd hi;have h3:=h2.1.propose;have h4:=h3.1.syncd hi (ls:=ls++((doP i (p.agreed.drop p.done) p ts).1.askd i).2) (by rw[G'];have:=h3.2.1;have:=h2.2.2.2.2;rw[h2.2.1,h1.2.1]at *;omega) (λm hm=>by
  rcases V'.1 hm with h|h
  .exact hl m h
  .exact h2.2.2.2.1 m h)
 have h5:=h4.1.taught hi _ h4.2.1;refine⟨h5.1,h5.2.2.1,?_,h1.2.2.2⟩;have e1:=h5.2.2.2;have e2:=h4.2.2.1;have e3:=h3.2.1;have e4:=h2.2.2.2.2;rw[h2.2.1,h1.2.1]at e3
 rw[G']at e2
 show(Nod.taught _ i _).2.length+Au (Nod.taught _ i _).1.pend<=_;rw[h5.2.1];omega
end
end
section
open Go.RowKit
section
variable{g:Gh}{ob:Nat}{w:World}
theorem S1(hg:∀ b,w.heap.size<=b->g.t b=.z/\g.k b=0) :
  Calls prog 46 #[] w λe w'=>∃ (b:Nat) (g':Gh),e=.returned (.map (some b))/\TkAt g' w' b 7/\Iy g' w'/\Cg w.heap.size [.n 70 0] g w g' w':=by
 refine gI (fn:=f46) [.n 70 0] g func46 hg ?_;refine qR [] 6 [] λs1 g1 w1 c1=>?_;refine fW 0 (by kernel_rfl) (by kernel_rfl) ?_;intro tb g2 w2 htb A0 cc2 n2;have c2:=cc2 w.heap.size [];refine GJ 1 (b:=tb) A0 (by decide) (by kernel_rfl) (by kernel_rfl) (by kernel_rfl) ?_;intro w4 A1 cc4;have c4:=cc4 w.heap.size [.n 70 0] (O'.2 rfl);refine GJ 2 (b:=tb) A1 (by decide) (by kernel_rfl) (by kernel_rfl) (by kernel_rfl) ?_;intro w6 A2 cc6;have c6:=cc6 w.heap.size [.n 70 0] (O'.2 rfl);refine GJ 3 (b:=tb) A2 (by decide) (by kernel_rfl) (by kernel_rfl) (by kernel_rfl) ?_;intro w8 A3 cc8;have c8:=cc8 w.heap.size [.n 70 0] (O'.2 rfl);refine GJ 4 (b:=tb) A3 (by decide) (by kernel_rfl) (by kernel_rfl) (by kernel_rfl) ?_;intro w10 A4 cc10;have c10:=cc10 w.heap.size [.n 70 0] (O'.2 rfl);refine GJ 5 (b:=tb) A4 (by decide) (by kernel_rfl) (by kernel_rfl) (by kernel_rfl) ?_;intro w12 A5 cc12;have c12:=cc12 w.heap.size [.n 70 0] (O'.2 rfl);refine GJ 6 (b:=tb) A5 (by decide) (by kernel_rfl) (by kernel_rfl) (by kernel_rfl) ?_;intro w14 A6 cc14;have c14:=cc14 w.heap.size [.n 70 0] (O'.2 rfl);refine GJ 7 (b:=tb) A6 (by decide) (by kernel_rfl) (by kernel_rfl) (by kernel_rfl) ?_;intro w16 A7 cc16;have c16:=cc16 w.heap.size [.n 70 0] (O'.2 rfl);refine qR [] 3 [] λs17 g17 w17 c17=>?_;exact qE (.map (some tb)) λK=>⟨tb,_,rfl,(A7.ch c17),K.new,((((((((((c1.nil [.n 70 0]).n c2).trans c4).trans c6).trans c8).trans c10).trans c12).trans c14).trans c16).n c17)⟩
theorem K8{mb tb:Nat}{nb:Nat->Nat}{M:Meet}(h:MS mb tb ob nb g w M){w0:World}(hB:Base w0 g w)(hT:Tabs w0)(lb:Nat)(l:Let)(hl:Cu g w lb l)(hlo:LOk l){n:Nat}(hok:NOk n (M.node l.dst))(hpb:(M.node l.dst).pend.length<100000000) :
  Calls prog 93 #[pt mb 0,pt lb 0] w (MP mb tb ob nb g w (.tuple #[]) (M.come l)):=by
 have hLL:=hl;obtain⟨kd,src,dst,bal,vote,votes,slot,what⟩:=l;have hs:src<5:=hlo.src;have hd:dst<5:=hlo.dst;have hkd:kd<7:=hlo.kd;have hwl:what.length<=40:=hlo.wh;simp only at hok hpb;obtain⟨x,hN⟩:=h.node dst hd;have hag:=hok.ag;refine gI (fn:=f93) TM g func93 h.new ?_;refine BW ⟨mb,_,.z,false⟩ (λ_=>⟨h.box.r,h.box.z,λh=>(by cases h),λh=>absurd rfl h⟩) (by kernel_rfl) ?_;obtain⟨vs,wh,hl1,hl2,hl3⟩:=hl;refine BW ⟨lb,.cells (EQ (Let.mk kd src dst bal vote votes slot what) vs wh) 168,.z,false⟩ (λ_=>⟨hl1.r,hl1.z,λh=>(by cases h),λh=>absurd rfl h⟩) (by kernel_rfl) ?_;refine qR [] 9 [10,0,2,4,6,8,1,10,12] λs1 g1 w1 c1=>?_;refine Pq 7 (pt mb dst) false (λW hW=>(by rcases five hd with rfl|rfl|rfl|rfl|rfl<;>kernel_rfl)) (by kernel_rfl) ?_;refine qU 8 (pt (nb dst) 0) (λW hW=>(BD underlying97 rfl (Tj (AP.at (hW rfl) 0 mb (.cells (mtA nb ob tb) 100) .z (by kernel_rfl)) hd))) ?_;refine qR [] 7 [18] λs3 g3 w3 c3=>?_;have hN1:=hN.ch (c1.trans c3);refine qN hN1 ?_;refine qR [] 2 [2] λs4 g4 w4 c4=>?_;by_cases h1:(M.node dst).up=true
 .refine qI ((M.node dst).up) true h1 ?_;have hk1:=h.tk.ch ((c1.trans c3).trans c4) (by simp);refine Hr tb _ 70 0 hk1.row hk1.t hk1.k (by kernel_rfl) ?_;rw[show M.come (Let.mk kd src dst bal vote votes slot what)=M.set dst ((M.node dst).take (Let.mk kd src dst bal vote votes slot what)) M.lets M.told from if_pos h1];refine qR [] 9 [11,0,2,4,6,0,8,10,12,14,1] λs5 g5 w5 c5=>?_;refine qU 8 (tkV kd) (λW hW=>(rTk (AP.at (hW rfl) 3 tb (.map (tkL 7).toArray 7) (.n 70 0) (by kernel_rfl)) hkd)) ?_;refine qR [] 2 [18,20] λs6 g6 w6 c6=>?_;rcases Ys hkd with rfl|rfl|rfl|rfl|rfl|rfl|rfl
  .refine Ag λK=>?_;have N7:MS mb tb ob nb g6 w6 M:=(h.ch0 ((((c1.trans c3).trans c4).trans c5).trans c6) K.new);refine qG 11 TM [true,true,false,false] ((N7).call hd (Ip ((N7).ns hd) (hB.ch (((((c1.nil TM).n c3).n c4).n c5).n c6) EF) hT lb _ (hLL.ch ((((c1.trans c3).trans c4).trans c5).trans c6) (by simp)) rfl hpb)) ?_;rintro e' w7 ⟨g7,rfl,M7,c7⟩;refine⟨_,g7,rfl,c7,M7.new,?_⟩;replace c7:=c7.ret (B:=w.heap.size);refine qR [] 1 [] λs8 g8 w8 c8=>?_;refine qE (.tuple #[]) λK=>?_;exact⟨_,rfl,(M7.ch0 c8 K.new),(((((((c1.nil TM).n c3).n c4).n c5).n c6).trans (c7)).n c8)⟩
  .refine Ag λK=>?_;have N9:MS mb tb ob nb g6 w6 M:=(h.ch0 ((((c1.trans c3).trans c4).trans c5).trans c6) K.new);refine qG 11 TM [true,true,false,false] ((N9).call hd (JV ((N9).ns hd) (hB.ch (((((c1.nil TM).n c3).n c4).n c5).n c6) EF) hT lb _ (hLL.ch ((((c1.trans c3).trans c4).trans c5).trans c6) (by simp)) rfl hs (by show((M.node dst).agreed++what.drop ((M.node dst).agreed.length-0)).length<=40;rw[G',iQ];omega) hwl (l7 (hok.he src).len (by decide)))) ?_;rintro e' w9 ⟨g9,rfl,M9,c9⟩;refine⟨_,g9,rfl,c9,M9.new,?_⟩;replace c9:=c9.ret (B:=w.heap.size);refine qR [] 1 [] λs10 g10 w10 c10=>?_;refine qE (.tuple #[]) λK=>?_;exact⟨_,rfl,(M9.ch0 c10 K.new),(((((((c1.nil TM).n c3).n c4).n c5).n c6).trans (c9)).n c10)⟩
  .refine Ag λK=>?_;have N11:MS mb tb ob nb g6 w6 M:=(h.ch0 ((((c1.trans c3).trans c4).trans c5).trans c6) K.new);refine qG 11 TM [true,true,false,false] ((N11).call hd (JW ((N11).ns hd) lb _ (hLL.ch ((((c1.trans c3).trans c4).trans c5).trans c6) (by simp)))) ?_;rintro e' w11 ⟨g11,rfl,M11,c11⟩;refine⟨_,g11,rfl,c11,M11.new,?_⟩;replace c11:=c11.ret (B:=w.heap.size);refine qR [] 1 [] λs12 g12 w12 c12=>?_;refine qE (.tuple #[]) λK=>?_;exact⟨_,rfl,(M11.ch0 c12 K.new),(((((((c1.nil TM).n c3).n c4).n c5).n c6).trans (c11)).n c12)⟩
  .refine Ag λK=>?_;have N13:MS mb tb ob nb g6 w6 M:=(h.ch0 ((((c1.trans c3).trans c4).trans c5).trans c6) K.new);refine qG 11 TM [true,true,false,false] ((N13).call hd (IV ((N13).ns hd) (hB.ch (((((c1.nil TM).n c3).n c4).n c5).n c6) EF) hT lb _ (hLL.ch ((((c1.trans c3).trans c4).trans c5).trans c6) (by simp)) rfl hpb (by have:=hok.vs.len;omega))) ?_;rintro e' w13 ⟨g13,rfl,M13,c13⟩;refine⟨_,g13,rfl,c13,M13.new,?_⟩;replace c13:=c13.ret (B:=w.heap.size);refine qR [] 1 [] λs14 g14 w14 c14=>?_;refine qE (.tuple #[]) λK=>?_;exact⟨_,rfl,(M13.ch0 c14 K.new),(((((((c1.nil TM).n c3).n c4).n c5).n c6).trans (c13)).n c14)⟩
  .refine Ag λK=>?_;have N15:MS mb tb ob nb g6 w6 M:=(h.ch0 ((((c1.trans c3).trans c4).trans c5).trans c6) K.new);refine qG 11 TM [true,true,false,false] ((N15).call hd (O6 ((N15).ns hd) (hB.ch (((((c1.nil TM).n c3).n c4).n c5).n c6) EF) hT lb _ (hLL.ch ((((c1.trans c3).trans c4).trans c5).trans c6) (by simp)) hs hag)) ?_;rintro e' w15 ⟨g15,rfl,M15,c15⟩;refine⟨_,g15,rfl,c15,M15.new,?_⟩;replace c15:=c15.ret (B:=w.heap.size);refine qR [] 1 [] λs16 g16 w16 c16=>?_;refine qE (.tuple #[]) λK=>?_;exact⟨_,rfl,(M15.ch0 c16 K.new),(((((((c1.nil TM).n c3).n c4).n c5).n c6).trans (c15)).n c16)⟩
  .refine Ag λK=>?_;have N17:MS mb tb ob nb g6 w6 M:=(h.ch0 ((((c1.trans c3).trans c4).trans c5).trans c6) K.new);refine qG 11 TM [true,true,false,false] ((N17).call hd (O5 ((N17).ns hd) lb _ (hLL.ch ((((c1.trans c3).trans c4).trans c5).trans c6) (by simp)) rfl hpb (by omega) (by show what.length<_;omega))) ?_;rintro e' w17 ⟨g17,rfl,M17,c17⟩;refine⟨_,g17,rfl,c17,M17.new,?_⟩;replace c17:=c17.ret (B:=w.heap.size);refine qR [] 1 [] λs18 g18 w18 c18=>?_;refine qE (.tuple #[]) λK=>?_;exact⟨_,rfl,(M17.ch0 c18 K.new),(((((((c1.nil TM).n c3).n c4).n c5).n c6).trans (c17)).n c18)⟩
  .refine Ag λK=>?_;have N19:MS mb tb ob nb g6 w6 M:=(h.ch0 ((((c1.trans c3).trans c4).trans c5).trans c6) K.new);refine qG 11 TM [true,true,false,false] ((N19).call hd (LE ((N19).ns hd) lb _ (hLL.ch ((((c1.trans c3).trans c4).trans c5).trans c6) (by simp)) rfl hpb (by show what.length<_;omega) hok.qu)) ?_;rintro e' w19 ⟨g19,rfl,M19,c19⟩;refine⟨_,g19,rfl,c19,M19.new,?_⟩;replace c19:=c19.ret (B:=w.heap.size);refine qR [] 1 [] λs20 g20 w20 c20=>?_;refine qE (.tuple #[]) λK=>?_;exact⟨_,rfl,(M19.ch0 c20 K.new),(((((((c1.nil TM).n c3).n c4).n c5).n c6).trans (c19)).n c20)⟩
 .refine qI ((M.node dst).up) false (by simpa using h1) ?_;refine qR [] 1 [] λs21 g21 w21 c21=>?_;refine qE (.tuple #[]) λK=>?_;rw[show M.come (Let.mk kd src dst bal vote votes slot what)=M from if_neg h1];exact⟨_,rfl,(h.ch0 (((c1.trans c3).trans c4).trans c21) K.new),((((c1.nil TM).n c3).n c4).n c21)⟩
def nx0(b:Nat):NX:=NX.mk s30 s30 s30 s30 s30 s30 (λ_=>s30) (some b)
theorem PF{i nb b:Nat}(hr:w.heap[nb]?=some (.cells (AB i ob CV (nx0 b)) 123))(ht:g.t nb=.n 0 i)(hk:g.k nb=0)(hA:AskAt g w (.n 5 i) b (λ_=>none)):NodeAt g w i nb ob (nx0 b) CV :=
 ⟨hr,ht,hk,⟨⟨⟨none,0,rfl,A' _,λ_=>rfl,.inl rfl⟩,by simp[CV],by simp[CV]⟩,λh=>absurd rfl h⟩,⟨Sv.nil _,λh=>absurd rfl h⟩,λ_ _=>⟨Sv.nil _,λh=>absurd rfl h⟩,⟨[],OwnS.nil _ _ _ _ _ _,Pends.nil _ _ _⟩,OwnS.nil _ _ _ _ _ _,OwnS.nil _ _ _ _ _ _,OwnS.nil _ _ _ _ _ _,hA,λ_=>⟨b,rfl⟩⟩
def nbF(a b c d e:Nat):Nat->Nat
 | 0=>a
 | 1=>b
 | 2=>c
 | 3=>d
 | _=>e
theorem Le(hg:∀ b,w.heap.size<=b->g.t b=.z/\g.k b=0) :
  Calls prog 29 #[] w λe w'=>∃ (mb tb ob:Nat) (nb:Nat->Nat) (g':Gh),e=.returned (pt mb 0)/\MS mb tb ob nb g' w' AK/\Cg w.heap.size [.n 70 0] g w g' w':=by
 refine gI (fn:=f29) [.n 70 0] g func29 hg ?_;refine qR [] 8 [52,0] λs1 g1 w1 c1=>?_;refine Ag λK=>?_;refine qG 2 [.n 70 0] [true] (S1 K.new) ?_;rintro e' w2 ⟨tb,g2,rfl,A2,n2,c2⟩;refine⟨_,g2,rfl,c2,n2,?_⟩;replace c2:=c2.ret (B:=w.heap.size);refine qR [] 10 [1,0] λs3 g3 w3 c3=>?_;refine cG 5 27 [(1,pt (s3 0) 0),(8,iv 0)] [true,true] [⟨(s1 0),.cells #[sn,sn] 94,.n 50 0,false⟩,⟨(s3 0),.cells #[.pointer none,.pointer none,.pointer none,.pointer none,.pointer none,pt (s1 0) 0,.map (some tb)] 100,.l,false⟩] (by kernel_rfl) (by kernel_rfl) (by kernel_rfl) (by kernel_rfl) λJ4 hJ4 z=>?_;refine qR [] 25 [14,0,2,4,6,8,10,12,1,14,22,24] λs5 g5 w5 c5=>?_;refine Ag λK=>?_;refine qG 8 [] [true,true] (AW 0 K.new Ej s30) ?_;rintro e' w6 ⟨b6,g6,rfl,A6,n6,c6⟩;refine⟨_,g6,rfl,c6,n6,?_⟩;replace c6:=c6.ret (B:=w.heap.size);refine qR [] 10 [18,21,2,0,26,29,1,0] λs7 g7 w7 c7=>?_;refine DX (J4 5) 27 [(1,pt (s3 0) 0),(8,iv 1)] [true,true,true] [⟨(s1 0),.cells #[sn,sn] 94,.n 50 0,false⟩,⟨(s3 0),.cells #[pt (s7 0) 0,.pointer none,.pointer none,.pointer none,.pointer none,pt (s1 0) 0,.map (some tb)] 100,.l,false⟩,⟨(s7 0),.cells (AB 0 (s1 0) CV (nx0 b6)) 123,.n 0 0,false⟩] (by kernel_rfl) (by kernel_rfl) (by kernel_rfl) (by kernel_rfl) (by kernel_rfl) λz K0 K=>hJ4 4 _ _ _ _ _ ?_ K;refine qR [] 25 [14,0,2,4,6,8,10,12,1,14,22,24] λs8 g8 w8 c8=>?_;refine Ag λK=>?_;refine qG 8 [] [true,true,true] (AW 1 K.new Ej s30) ?_;rintro e' w9 ⟨b9,g9,rfl,A9,n9,c9⟩;refine⟨_,g9,rfl,c9,n9,?_⟩;replace c9:=c9.ret (B:=w.heap.size);refine qR [] 10 [18,21,2,1,26,29,1,0] λs10 g10 w10 c10=>?_;refine DX (J4 4) 27 [(1,pt (s3 0) 0),(8,iv 2)] [true,true,true,true] [⟨(s1 0),.cells #[sn,sn] 94,.n 50 0,false⟩,⟨(s3 0),.cells #[pt (s7 0) 0,pt (s10 0) 0,.pointer none,.pointer none,.pointer none,pt (s1 0) 0,.map (some tb)] 100,.l,false⟩,⟨(s7 0),.cells (AB 0 (s1 0) CV (nx0 b6)) 123,.n 0 0,false⟩,⟨(s10 0),.cells (AB 1 (s1 0) CV (nx0 b9)) 123,.n 0 1,false⟩] (by kernel_rfl) (by kernel_rfl) (by kernel_rfl) (by kernel_rfl) (by kernel_rfl) λz K0 K=>hJ4 3 _ _ _ _ _ ?_ K;refine qR [] 25 [14,0,2,4,6,8,10,12,1,14,22,24] λs11 g11 w11 c11=>?_;refine Ag λK=>?_;refine qG 8 [] [true,true,true,true] (AW 2 K.new Ej s30) ?_;rintro e' w12 ⟨b12,g12,rfl,A12,n12,c12⟩;refine⟨_,g12,rfl,c12,n12,?_⟩;replace c12:=c12.ret (B:=w.heap.size);refine qR [] 10 [18,21,2,2,26,29,1,0] λs13 g13 w13 c13=>?_;refine DX (J4 3) 27 [(1,pt (s3 0) 0),(8,iv 3)] [true,true,true,true,true] [⟨(s1 0),.cells #[sn,sn] 94,.n 50 0,false⟩,⟨(s3 0),.cells #[pt (s7 0) 0,pt (s10 0) 0,pt (s13 0) 0,.pointer none,.pointer none,pt (s1 0) 0,.map (some tb)] 100,.l,false⟩,⟨(s7 0),.cells (AB 0 (s1 0) CV (nx0 b6)) 123,.n 0 0,false⟩,⟨(s10 0),.cells (AB 1 (s1 0) CV (nx0 b9)) 123,.n 0 1,false⟩,⟨(s13 0),.cells (AB 2 (s1 0) CV (nx0 b12)) 123,.n 0 2,false⟩] (by kernel_rfl) (by kernel_rfl) (by kernel_rfl) (by kernel_rfl) (by kernel_rfl) λz K0 K=>hJ4 2 _ _ _ _ _ ?_ K;refine qR [] 25 [14,0,2,4,6,8,10,12,1,14,22,24] λs14 g14 w14 c14=>?_;refine Ag λK=>?_;refine qG 8 [] [true,true,true,true,true] (AW 3 K.new Ej s30) ?_;rintro e' w15 ⟨b15,g15,rfl,A15,n15,c15⟩;refine⟨_,g15,rfl,c15,n15,?_⟩;replace c15:=c15.ret (B:=w.heap.size);refine qR [] 10 [18,21,2,3,26,29,1,0] λs16 g16 w16 c16=>?_;refine DX (J4 2) 27 [(1,pt (s3 0) 0),(8,iv 4)] [true,true,true,true,true,true] [⟨(s1 0),.cells #[sn,sn] 94,.n 50 0,false⟩,⟨(s3 0),.cells #[pt (s7 0) 0,pt (s10 0) 0,pt (s13 0) 0,pt (s16 0) 0,.pointer none,pt (s1 0) 0,.map (some tb)] 100,.l,false⟩,⟨(s7 0),.cells (AB 0 (s1 0) CV (nx0 b6)) 123,.n 0 0,false⟩,⟨(s10 0),.cells (AB 1 (s1 0) CV (nx0 b9)) 123,.n 0 1,false⟩,⟨(s13 0),.cells (AB 2 (s1 0) CV (nx0 b12)) 123,.n 0 2,false⟩,⟨(s16 0),.cells (AB 3 (s1 0) CV (nx0 b15)) 123,.n 0 3,false⟩] (by kernel_rfl) (by kernel_rfl) (by kernel_rfl) (by kernel_rfl) (by kernel_rfl) λz K0 K=>hJ4 1 _ _ _ _ _ ?_ K;refine qR [] 25 [14,0,2,4,6,8,10,12,1,14,22,24] λs17 g17 w17 c17=>?_;refine Ag λK=>?_;refine qG 8 [] [true,true,true,true,true,true] (AW 4 K.new Ej s30) ?_;rintro e' w18 ⟨b18,g18,rfl,A18,n18,c18⟩;refine⟨_,g18,rfl,c18,n18,?_⟩;replace c18:=c18.ret (B:=w.heap.size);refine qR [] 10 [18,21,2,4,26,29,1,0] λs19 g19 w19 c19=>?_;refine DX (J4 1) 27 [(1,pt (s3 0) 0),(8,iv 5)] [true,true,true,true,true,true,true] [⟨(s1 0),.cells #[sn,sn] 94,.n 50 0,false⟩,⟨(s3 0),.cells #[pt (s7 0) 0,pt (s10 0) 0,pt (s13 0) 0,pt (s16 0) 0,pt (s19 0) 0,pt (s1 0) 0,.map (some tb)] 100,.l,false⟩,⟨(s7 0),.cells (AB 0 (s1 0) CV (nx0 b6)) 123,.n 0 0,false⟩,⟨(s10 0),.cells (AB 1 (s1 0) CV (nx0 b9)) 123,.n 0 1,false⟩,⟨(s13 0),.cells (AB 2 (s1 0) CV (nx0 b12)) 123,.n 0 2,false⟩,⟨(s16 0),.cells (AB 3 (s1 0) CV (nx0 b15)) 123,.n 0 3,false⟩,⟨(s19 0),.cells (AB 4 (s1 0) CV (nx0 b18)) 123,.n 0 4,false⟩] (by kernel_rfl) (by kernel_rfl) (by kernel_rfl) (by kernel_rfl) (by kernel_rfl) λz K0 K=>hJ4 0 _ _ _ _ _ ?_ K;refine qR [] 12 [] λs20 g20 w20 c20=>?_;refine fV 1 (s3 0) (by kernel_rfl) λg21 c21=>?_;refine qE (pt (s3 0) 0) λK=>⟨(s3 0),tb,(s1 0),(nbF (s7 0) (s10 0) (s13 0) (s16 0) (s19 0)),_,rfl,?_,((((((((((((((((((((c1.nil [.n 70 0]).trans c2).n c3).n c5).n c6).n c7).n c8).n c9).n c10).n c11).n c12).n c13).n c14).n c15).n c16).n c17).n c18).n c19).n c20).n c21)⟩;obtain⟨z1,z2⟩:=K.isZ 1 (s3 0) (.cells (mtA (nbF (s7 0) (s10 0) (s13 0) (s16 0) (s19 0)) (s1 0) tb) 100) false (by kernel_rfl);obtain⟨o1,o2,o3⟩:=K.isN 0 (s1 0) (.cells #[S3.v s30,S3.v s30] 94) 50 0 (by kernel_rfl);obtain⟨q0,r0,t0⟩:=K.isN 2 (s7 0) (.cells (AB 0 (s1 0) CV (nx0 b6)) 123) 0 0 (by kernel_rfl);obtain⟨q1,r1,t1⟩:=K.isN 3 (s10 0) (.cells (AB 1 (s1 0) CV (nx0 b9)) 123) 0 1 (by kernel_rfl);obtain⟨q2,r2,t2⟩:=K.isN 4 (s13 0) (.cells (AB 2 (s1 0) CV (nx0 b12)) 123) 0 2 (by kernel_rfl);obtain⟨q3,r3,t3⟩:=K.isN 5 (s16 0) (.cells (AB 3 (s1 0) CV (nx0 b15)) 123) 0 3 (by kernel_rfl);obtain⟨q4,r4,t4⟩:=K.isN 6 (s19 0) (.cells (AB 4 (s1 0) CV (nx0 b18)) 123) 0 4 (by kernel_rfl);refine⟨⟨z1,z2⟩,((((((((((((((((((A2.ch c3).ch c5).ch c6).ch c7).ch c8).ch c9).ch c10).ch c11).ch c12).ch c13).ch c14).ch c15).ch c16).ch c17).ch c18).ch c19).ch c20).ch c21),λi hi=>?_,⟨s30,s30,o1,o2,o3,⟨[],OwnS.nil _ _ _ _ _ _,⟨rfl,λk b m h=>(by cases h)⟩⟩,OwnS.nil _ _ _ _ _ _⟩,K.new⟩;rcases five hi with rfl|rfl|rfl|rfl|rfl
 .exact⟨_,PF q0 r0 t0 (((((((((((((((A6.ch c7).ch c8).ch c9).ch c10).ch c11).ch c12).ch c13).ch c14).ch c15).ch c16).ch c17).ch c18).ch c19).ch c20).ch c21)⟩
 .exact⟨_,PF q1 r1 t1 ((((((((((((A9.ch c10).ch c11).ch c12).ch c13).ch c14).ch c15).ch c16).ch c17).ch c18).ch c19).ch c20).ch c21)⟩
 .exact⟨_,PF q2 r2 t2 (((((((((A12.ch c13).ch c14).ch c15).ch c16).ch c17).ch c18).ch c19).ch c20).ch c21)⟩
 .exact⟨_,PF q3 r3 t3 ((((((A15.ch c16).ch c17).ch c18).ch c19).ch c20).ch c21)⟩
 .exact⟨_,PF q4 r4 t4 (((A18.ch c19).ch c20).ch c21)⟩
end
end
end Go.Proofs.YtalbmmghmoggcadGreatDoor
