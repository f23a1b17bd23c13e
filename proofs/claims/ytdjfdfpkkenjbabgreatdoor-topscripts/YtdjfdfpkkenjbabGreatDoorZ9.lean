/- Part 9 of the walk. -/
import Derived.Test.YtdjfdfpkkenjbabGreatDoorZ8
set_option maxRecDepth 100000
set_option maxHeartbeats 4000000
open Go.Proofs.Tryz
set_option linter.unusedVariables false
namespace Go.Proofs.YtdjfdfpkkenjbabGreatDoor
open Go.RowKit
section
structure Svv(w:World)(x:Value)(ls:List (List Vt)):Prop where
 ex:∃ a cap,x=.slice a ls.length cap/\(ls=[]\/∃ b off,a=some ⟨b,off,none⟩/\b<w.heap.size/\∀ (i:Nat) (l:List Vt),ls[i]?=some l->∃ y,w.cell? ⟨b,off+i,none⟩=some y/\Sv w y l)
 len:ls.length<=5864062014634
variable{L:List Vt}{b u:Vt}{g:Gh}{ls:List (List Vt)}{s:Int}{w:World}
theorem Svv.shape{x:Value}(h:Svv w x ls):∃ a cap,x=.slice a ls.length cap:=by
 obtain⟨⟨a,cap,e,_⟩,_⟩:=h;exact⟨a,cap,e⟩
theorem Svv.spot{a:Option Addr}{n c:Nat}(h:Svv w (.slice a n c) ls)(i:Nat)(l:List Vt)(f:ls[i]?=some l):∃ b off y,a=some ⟨b,off,none⟩/\b<w.heap.size/\w.cell? ⟨b,off+i,none⟩=some y/\Sv w y l:=by
 obtain⟨⟨j,d,e,g⟩,_⟩:=h;simp only[Value.slice.injEq]at e;obtain⟨rfl,rfl,rfl⟩:=e;rcases g with rfl|⟨b,off,rfl,hb,hc⟩
 .simp at f
 .obtain⟨y,h3,h4⟩:=hc i l f;exact⟨b,off,y,rfl,hb,h3,h4⟩
theorem iW{W:World}{x:S3}{b c:Nat}(d:x.a=some ⟨b,c,none⟩)(j:Nat)(f:j<x.n):(Instr.indexAt 274 x.v (iv (j:Int))).run prog W=.ok (pt b (c+j)) W:=by
 obtain⟨g,i,h⟩:=x;simp only at d f;subst d;exact MX (P:=prog) (e:=124) (z:=1) underlying274 (by kernel_rfl) (by kernel_rfl) f _ (by rw[qj])
theorem dw(h:E8 (CZ (Am L s) none) b)(a:u.an≠s):E8 (CZ (Am (L++[u]) s) none) b:=by
 rw[JW,if_neg a,nI];exact h
theorem du(h:E8 (CZ (Am L s) none) b)(a:u.an=s)(c:Ac u.b):E8 (CZ (Am (L++[u]) s) none) (if b.b.lt u.b then u else b):=by
 rw[JW,if_pos a,RA];exact h.next c
theorem QE{a:World}{f:Bool}(h:(JY ls s=b.w/\Iz ls s=!decide (b.b.r=0/\b.b.n=0)/\CW ls s=0))(e:decide (b.b=Bv)=!f)(d:Bw w a):(Ending.returned (.tuple #[.agg #[iv b.w.k,iv b.w.c,iv b.w.s,iv b.w.n,iv b.w.v],.bool f,iv 0]):Ending)=.returned (.tuple #[.agg (cmC (JY ls s)),.bool (Iz ls s),.int .i64 (CW ls s)])/\Bw w a:=by
 rw[h.1,h.2.1,h.2.2,show decide (b.b.r=0/\b.b.n=0)=decide (b.b=Bv)from nK.2 (Bal.eq_iff b.b Bv),e,Bool.not_not];exact⟨rfl,d⟩
theorem ZA(x:Value)(ls:List (List Vt))(s:Int)(w:World)(h:Svv w x ls)(ht:NTab w) :
  Calls prog 187 #[x,.int .i64 s] w λe w'=>e=.returned (.tuple #[.agg (cmC (JY ls s)),.bool (Iz ls s),.int .i64 (CW ls s)])/\Bw w w':=by
 have c5:=h.len;obtain⟨a,P,rfl⟩:=h.shape;obtain⟨y,hy⟩:∃ y:S3,y=⟨a,ls.length,P⟩:=⟨_,rfl⟩;have c7:y.n=ls.length:=by rw[hy]
 rw[show(.slice a ls.length P:Value)=y.v by rw[hy]]at h ⊢
 clear hy;refine tIn [] func187 trivial (tR 10 [1,0] λd _ _=>?_);by_cases G:0<=s/\s<=39
 .refine tC 1 (λF C=>DG (r:=true) (N' G)) λNz=>?_;rintro _ _ ⟨rfl,W⟩;refine⟨_,_,rfl,W,id,?_⟩;refine tR 16 [1,0] λo _ _=>GU 52 [(1,iv s),(4,pt (d 0) 0),(7,pt (o 0) 0),(16,S3.v y),(17,iv (y.n:Int)),(18,iv 0)] [true,true] [⟨(d 0),.cells #[iv 0,iv 0,iv 0,iv 0,iv 0] 64,.l,false⟩,⟨(o 0),.cells #[iv 0,iv 0,iv 0,iv 0,iv 0,iv 0,iv 0,iv 0] 184,.l,false⟩] [] (λkk E D f=>∃ (j:Nat) (b:Vt),kk=y.n-j/\E=[(1,iv s),(4,pt (d 0) 0),(7,pt (o 0) 0),(16,S3.v y),(17,iv (y.n:Int)),(18,iv (j:Int))]/\D=[⟨(d 0),.cells #[iv 0,iv 0,iv 0,iv 0,iv 0] 64,.l,false⟩,⟨(o 0),.cells #[iv b.an,iv b.b.r,iv b.b.n,iv b.w.k,iv b.w.c,iv b.w.s,iv b.w.n,iv b.w.v] 184,.l,false⟩]/\f=[]/\j<=ls.length/\E8 (CZ (Am (ls.take j).flatten s) none) b/\∀ l∈ls.take j,∀ v∈l,Al v) (y.n) ⟨0,vt0,rfl,rfl,rfl,rfl,by omega,.inl ⟨rfl,rfl⟩,λl L=>(by simp at L)⟩ (λF=>trivial) ?_;rintro k _ _ _ ⟨j,b,rfl,rfl,rfl,rfl,hj,q,O⟩ _ _ _ J I;refine tR 5 [] λc9 _ _=>?_;by_cases h2:j<y.n
  .refine tI ((decide ((j:Int)<(y.n:Int)))) true (N' (by omega)) ?_;obtain⟨l,A⟩:∃ l,ls[j]?=some l:=⟨_,H' (by omega)⟩;obtain⟨bb,S,yl,a1,a0,Z,L⟩:=h.spot j l A;obtain⟨z,rfl⟩:=L.s3;have c8:=L.op.1;have hF:(ls.take (j+1)).flatten=_:=Xd ls j l A;have c6:=L.len;refine tR 5 [] λd0 _ _=>tV 0 (pt bb (S+j)) (λF C=>(iW a1 j (by omega))) (tV 1 (S3.v z) (λF C=>(BW underlying124 rfl (((CgQ.ab C).cell (p:=⟨bb,S+j,none⟩) a0).trans Z))) (tR 9 [] λd1 _ _=>GU 52 [(1,iv s),(4,pt (d 0) 0),(7,pt (o 0) 0),(16,S3.v y),(17,iv (y.n:Int)),(18,iv (j:Int)),(22,S3.v z),(23,iv (z.n:Int)),(24,iv 0)] [true,true] [⟨(d 0),.cells #[iv 0,iv 0,iv 0,iv 0,iv 0] 64,.l,false⟩,⟨(o 0),.cells #[iv b.an,iv b.b.r,iv b.b.n,iv b.w.k,iv b.w.c,iv b.w.s,iv b.w.n,iv b.w.v] 184,.l,false⟩] [] (λkk E D f=>∃ (k:Nat) (b:Vt),kk=z.n-k/\E=[(1,iv s),(4,pt (d 0) 0),(7,pt (o 0) 0),(16,S3.v y),(17,iv (y.n:Int)),(18,iv (j:Int)),(22,S3.v z),(23,iv (z.n:Int)),(24,iv (k:Int))]/\D=[⟨(d 0),.cells #[iv 0,iv 0,iv 0,iv 0,iv 0] 64,.l,false⟩,⟨(o 0),.cells #[iv b.an,iv b.b.r,iv b.b.n,iv b.w.k,iv b.w.c,iv b.w.s,iv b.w.n,iv b.w.v] 184,.l,false⟩]/\f=[]/\k<=l.length/\E8 (CZ (Am ((ls.take j).flatten++l.take k) s) none) b/\∀ v∈l.take k,Al v) (z.n) ⟨0,b,rfl,rfl,rfl,rfl,by omega,(by rw[nM,nI];exact q),λv hv=>(by simp at hv)⟩ (λF=>trivial) ?_));rintro k _ _ _ ⟨k,b,rfl,rfl,rfl,rfl,hk,q,N⟩ _ _ _ Jb K;refine tR 5 [] λd2 _ _=>?_;by_cases H:k<z.n
   .refine tI ((decide ((k:Int)<(z.n:Int)))) true (N' (by omega)) ?_;obtain⟨u,V⟩:∃ u,l[k]?=some u:=⟨_,H' (by omega)⟩;obtain⟨W,o2,R⟩:=L.ad (i:=k) (by omega);have Y:=F1 l k u V;refine tR 5 [] λd3 _ _=>tV 0 (pt W (o2+8*k)) (λF C=>(UM R k (by omega))) (tV 1 (.agg #[iv u.an,iv u.b.r,iv u.b.n,iv u.w.k,iv u.w.c,iv u.w.s,iv u.w.n,iv u.w.v]) (λF C=>(eo u ((L.ab (CgQ.ab C)).at_ R V))) (tR 7 [0,0,2,0,2] λa2 _ _=>?_));by_cases Q:Al u
    .refine tC1 1 (λF C=>G0 (v:=u) (ht.ab (CgQ.ab C)) (r:=true) (N' Q)) λ_=>?_;have M:∀ v∈l.take (k+1),Al v:=be V N Q;refine tR 9 [2] λa3 _ _=>?_;by_cases T:u.an=s
     .refine tV 3 (.bool true) (λF C=>(EO (t:=3) (m:=u.an) (n:=s) (x:=(.tmp 33)) (y:=(.tmp 34)) (by simpa using T))) (tR 5 [1,2] λa4 _ _=>?_);have B:=du q T Q.2.1;by_cases U:b.b.lt u.b
      .rw[if_pos U]at B
       refine tC1 9 (λF C=>DL (a:=b.b) (b:=u.b) (r:=true) (N' U)) λ_=>tR 9 [2,1,0] λa5 _ _=>tV 0 (iv ((k:Int)+1)) (λF C=>(AZ 24 (k:Int) underlying3 (by omega))) (tR 2 [] λa6 _ _=>tB K (z.n-(k+1)) (by omega) [true,true,false] ⟨k+1,u,rfl,rfl,rfl,rfl,by omega,by rw[Y,<- mN];exact B,M⟩ (λF=>trivial))
      .rw[if_neg U]at B
       refine tC1 9 (λF C=>DL (a:=b.b) (b:=u.b) (r:=false) (G' U)) λ_=>tR 6 [] λa7 _ _=>tV 0 (iv ((k:Int)+1)) (λF C=>(AZ 24 (k:Int) underlying3 (by omega))) (tR 2 [] λa8 _ _=>tB K (z.n-(k+1)) (by omega) [true,true,false] ⟨k+1,b,rfl,rfl,rfl,rfl,by omega,by rw[Y,<- mN];exact B,M⟩ (λF=>trivial))
     .refine tV 3 (.bool false) (λF C=>(EO (t:=3) (m:=u.an) (n:=s) (x:=(.tmp 33)) (y:=(.tmp 34)) (by simpa using T))) (tR 12 [] λa9 _ _=>tV 0 (iv ((k:Int)+1)) (λF C=>(AZ 24 (k:Int) underlying3 (by omega))) (tR 2 [] λb0 _ _=>tB K (z.n-(k+1)) (by omega) [true,true,false] ⟨k+1,b,rfl,rfl,rfl,rfl,by omega,by rw[Y,<- mN];exact dw q T,M⟩ (λF=>trivial)))
    .refine tC1 1 (λF C=>G0 (v:=u) (ht.ab (CgQ.ab C)) (r:=false) (G' Q)) λ_=>?_;have X:=Tm (ls:=ls) G λg=>Q (g l (nm A) u (nm V));refine tR 10 [0,0] λb1 _ _=>tX λF C=>qE3 4 5 6 64 0 (d 0) #[iv 0,iv 0,iv 0,iv 0,iv 0] (.bool false) (iv 5) λ_=>by rw[X.1,X.2.1,X.2.2];exact⟨rfl,CgQ.ab C⟩
   .refine tI ((decide ((k:Int)<(z.n:Int)))) false (G' (by omega)) ?_;rw[mV (show l.length<=k by omega)]at q N
    rw[<- hF]at q
    refine tR 3 [] λb3 _ _=>tV 0 (iv ((j:Int)+1)) (λF C=>(AZ 18 (j:Int) underlying3 (by omega))) (tR 2 [] λb4 _ _=>tB I (y.n-(j+1)) (by omega) [true,true] ⟨j+1,b,rfl,rfl,rfl,rfl,by omega,q,aZ A O N⟩ (λF=>trivial))
  .refine tI ((decide ((j:Int)<(y.n:Int)))) false (G' (by omega)) ?_;rw[mV (show ls.length<=j by omega)]at q O
   have hK:=E8.pick G O q;refine tR 7 [6,0,2,1,4,8] λb5 _ _=>?_;by_cases H:b.b=Bv
   .refine K7 52 (λE D f=>∃ (_:Unit),E=[(4,pt (d 0) 0),(5,.bool false),(6,iv 0)]/\D=[⟨(d 0),.cells #[iv b.w.k,iv b.w.c,iv b.w.s,iv b.w.n,iv b.w.v] 64,.l,false⟩,⟨(o 0),.cells #[iv b.an,iv b.b.r,iv b.b.n,iv b.w.k,iv b.w.c,iv b.w.s,iv b.w.n,iv b.w.v] 184,.l,false⟩]/\f=[]) (λJ I=>?_) ?_
    .refine K8 3 6 ?_ ?_
     .refine tR 1 [1] λb6 _ _=>tT 5 (.bool false) (λ_=>(I2 (x:=(.tmp 49)) (y:=(.tmp 50)) b.b Bv H)) (tR 4 [13,0,0,14,16] λb7 _ _=>tD I [true,true] ⟨(),rfl,rfl,rfl⟩ (λF=>trivial))
     .refine tR 2 [0,0,7,1] λb8 _ _=>tT 5 (.bool false) (λ_=>(I2 (x:=(.tmp 49)) (y:=(.tmp 50)) b.b Bv H)) (tR 3 [14,16] λb9 _ _=>tD I [true,true] ⟨(),rfl,rfl,rfl⟩ (λF=>trivial))
    rintro _ _ _ ⟨_,rfl,rfl,rfl⟩ _ _ _;exact tX λF C=>qE3 4 5 6 64 0 (d 0) #[iv b.w.k,iv b.w.c,iv b.w.s,iv b.w.n,iv b.w.v] (.bool false) (iv 0) λ_=>QE hK (N' H) (CgQ.ab C)
   .refine K7 52 (λE D f=>∃ (_:Unit),E=[(4,pt (d 0) 0),(5,.bool true),(6,iv 0)]/\D=[⟨(d 0),.cells #[iv b.w.k,iv b.w.c,iv b.w.s,iv b.w.n,iv b.w.v] 64,.l,false⟩,⟨(o 0),.cells #[iv b.an,iv b.b.r,iv b.b.n,iv b.w.k,iv b.w.c,iv b.w.s,iv b.w.n,iv b.w.v] 184,.l,false⟩]/\f=[]) (λJ I=>?_) ?_
    .refine K8 3 6 ?_ ?_
     .refine tR 1 [1] λc0 _ _=>tT 5 (.bool true) (λ_=>(I3 (x:=(.tmp 49)) (y:=(.tmp 50)) b.b Bv H)) (tR 4 [13,0,0,14,16] λc1 _ _=>tD I [true,true] ⟨(),rfl,rfl,rfl⟩ (λF=>trivial))
     .refine tR 2 [0,0,7,1] λc2 _ _=>tT 5 (.bool true) (λ_=>(I3 (x:=(.tmp 49)) (y:=(.tmp 50)) b.b Bv H)) (tR 3 [14,16] λc3 _ _=>tD I [true,true] ⟨(),rfl,rfl,rfl⟩ (λF=>trivial))
    rintro _ _ _ ⟨_,rfl,rfl,rfl⟩ _ _ _;exact tX λF C=>qE3 4 5 6 64 0 (d 0) #[iv b.w.k,iv b.w.c,iv b.w.s,iv b.w.n,iv b.w.v] (.bool true) (iv 0) λ_=>QE hK (G' H) (CgQ.ab C)
 .refine tC1 1 (λF C=>DG (r:=false) (G' G)) λ_=>tR 10 [0,0] λc4 _ _=>tX λF C=>qE3 4 5 6 64 0 (d 0) #[iv 0,iv 0,iv 0,iv 0,iv 0] (.bool false) (iv 2) λ_=>by rw[(LW G).1,(LW G).2.1,(LW G).2.2];exact⟨rfl,CgQ.ab C⟩
def gz:Gh:=⟨λ_=>.z,λ_=>0⟩
theorem DN{b:Nat}:gz.t b∉([.n 60 0]:List Tg):=by simp[gz]
def Qr(x:NX)(k:Nat):List Value:=(List.range k).map λj=>S3.v (x.hv j)
theorem Wd(x:NX)(k:Nat):Qr x (k+1)=Qr x k++[S3.v (x.hv k)]:=by unfold Qr;rw[pj,mS];rfl
theorem ec{τ:Tg}{e:TypeId}{y:S3}{x:NX}{r:Rnd}(h:OwnS g w τ false e 1 y (Qr x 5))(A:∀ j,j<5->Sv w (x.hv j).v (r.av j).vs):Svv w y.v (r.gC.map (·.vs)):=by
 have s:=h.len;have t:y.n=5:=by simp[Qr]at s;omega
 obtain⟨b,o,i,_⟩:=h.cell (j:=0) (u:=S3.v (x.hv 0)) rfl;refine⟨⟨y.a,y.c,by unfold S3.v;rw[t];rfl,.inr ⟨b,0,o,i,λj l k=>?_⟩⟩,by show 5<=5864062014634;decide⟩;have f:j<5:=by have:=(Q'.1 k).1;exact this
 have m:(Qr x 5)[j]?=some (S3.v (x.hv j)):=by rcases hZ f with rfl|rfl|rfl|rfl|rfl<;>rfl
 obtain⟨B,d,_,q⟩:=h.cell m;rw[o]at d
 simp only[P',Addr.mk.injEq,and_true]at d;subst d;refine⟨S3.v (x.hv j),by rw[nn];exact q,?_⟩;have p:=A j f;rcases hZ f with rfl|rfl|rfl|rfl|rfl<;>(simp[Rnd.gC]at k;subst k;exact p)
theorem VD{l:List Cmd}{f:Cmd->Bool}{j:Nat}{c:Cmd}(h:l[j]?=some c):(l.drop j).find? f=if f c then some c else(l.drop (j+1)).find? f:=by
 rw[Ds h,pi];split<;>simp_all
theorem Ky{i m C:Nat}{p:Nod}{ls:List Let}{ts:List Tol}(h:NS i m C g w p ls ts){w0:World}(hB:Base w0 g w)(hT:Tabs w0)(s:Nat)(hq:p.bt.cn.length<100000000)(a6:p.ae.length<100000000) :
  Calls prog 142 #[pt m 0,iv (s:Int)] w λe w'=>e=.returned (.tuple #[.agg (cmC ((p.rD s).getD Vw)),.bool (p.rD s).isSome])/\Bw w w':=by
 obtain⟨x,lt,tl,R,hO,hg⟩:=h;have hQ:=R.cn.rd;have hA:=R.ae.rd;have c0:=hQ.len;have hH:∀ j,j<5->Sv w (x.hv j).v (p.bt.av j).vs:=λj S=>(R.av j S).s;have a3:Base w0 gz w:=⟨hB.b,λ_ _=>rfl⟩;refine gI (fn:=f142) [.n 60 0] gz func142 (λ_ _=>⟨rfl,rfl⟩) (BS ⟨m,.cells (Az i C p x) 145,.z,false⟩ (λ_=>⟨R.row,rfl,λh=>(by cases h),λh=>absurd rfl h⟩) (by kernel_rfl) ?_);refine qR [] 21 [1,0,0] λa g1 w1 c1=>BJ 63 [(0,pt m 0),(1,iv (s:Int)),(4,pt (a 0) 0),(6,sn),(19,.agg #[iv ((p.bt.av 0).p.r),iv ((p.bt.av 0).p.n),S3.v (x.hv 0),iv ((p.bt.av 1).p.r),iv ((p.bt.av 1).p.n),S3.v (x.hv 1),iv ((p.bt.av 2).p.r),iv ((p.bt.av 2).p.n),S3.v (x.hv 2),iv ((p.bt.av 3).p.r),iv ((p.bt.av 3).p.n),S3.v (x.hv 3),iv ((p.bt.av 4).p.r),iv ((p.bt.av 4).p.n),S3.v (x.hv 4)]),(20,iv 0)] [true,true] [⟨m,.cells (Az i C p x) 145,.z,false⟩,⟨(a 0),.cells #[iv 0,iv 0,iv 0,iv 0,iv 0] 64,.l,false⟩] (λk O w' e L=>∃ (k0:Nat) (y:S3),k=5-k0/\k0<=5/\e=[(0,pt m 0),(1,iv (s:Int)),(4,pt (a 0) 0),(6,S3.v y),(19,.agg #[iv (p.bt.av 0).p.r,iv (p.bt.av 0).p.n,S3.v (x.hv 0),iv (p.bt.av 1).p.r,iv (p.bt.av 1).p.n,S3.v (x.hv 1),iv (p.bt.av 2).p.r,iv (p.bt.av 2).p.n,S3.v (x.hv 2),iv (p.bt.av 3).p.r,iv (p.bt.av 3).p.n,S3.v (x.hv 3),iv (p.bt.av 4).p.r,iv (p.bt.av 4).p.n,S3.v (x.hv 4)]),(20,iv (k0:Int))]/\L=[⟨m,.cells (Az i C p x) 145,.z,false⟩,⟨(a 0),.cells #[iv 0,iv 0,iv 0,iv 0,iv 0] 64,.l,false⟩]/\OwnS O w' (.n 60 0) false 124 1 y (Qr x k0)/\Cg w.heap.size [.n 60 0] gz w O w') (by kernel_rfl) (by kernel_rfl) (by kernel_rfl) (by kernel_rfl) 5 (λK=>?_) ?_
 .exact⟨0,s30,rfl,by omega,rfl,rfl,OwnS.nil _ _ _ _ _ _,(c1.nil [.n 60 0])⟩
 .rintro k gr wr _ zr _ ⟨k0,y,rfl,hk0,rfl,rfl,hy,hC⟩ J hJ;refine qR [] 5 [] λs2 g2 w2 A=>?_;by_cases h1:k0<5
  .refine qI ((decide ((k0:Int)<5))) true (N' (by omega)) (qR [] 5 [] λs3 g3 w3 c3=>?_);refine de 0 (.agg #[iv (p.bt.av k0).p.r,iv (p.bt.av k0).p.n,S3.v (x.hv k0)]) (λK=>(by rcases hZ h1 with rfl|rfl|rfl|rfl|rfl<;>kernel_rfl)) (by kernel_rfl) ?_;refine qR [] 8 [0,0,2,0,2,0,0] λs4 g4 w4 c4=>?_;have d0:y.n=k0:=by have:=hy.len;simp[Qr]at this;omega
   refine Kv 4 (x:=y) 274 274 124 1 24 (.slice none 0 0) ⟨(s4 1),0,none⟩ 1 1 [S3.v (x.hv k0)] (((hy.ch A).ch c3).ch c4) (by kernel_rfl) (by kernel_rfl) (by kernel_rfl) underlying274 (by kernel_rfl) (by kernel_rfl) (by decide) (by decide) rfl (by simp[Value.oneCell']) (λK=>D0 K 3 (s4 1) [S3.v (x.hv k0)] 124 .z true (by kernel_rfl)) (by unfold maxLen;omega) (by omega) ?_;intro y5 g5 w5 a5 n5 a1 G5;have c5:=a1 w.heap.size [.n 60 0] (U'.2 rfl);refine qR [] 4 [] λs6 g6 w6 c6=>qV 0 (iv ((k0:Int)+1)) (AZ 20 (k0:Int) underlying3 (by omega)) (qR [] 2 [] λs7 g7 w7 c7=>qB [true,true,false,false] λz K0 K=>hJ (5-(k0+1)) _ _ _ z _ (by omega) ⟨k0+1,y5,rfl,by omega,rfl,rfl,(by rw[Wd];exact((a5.ch c6).ch c7)),((((((hC.n A).n c3).n c4).trans c5).n c6).n c7)⟩ K)
  .refine qI ((decide ((k0:Int)<5))) false (G' (by omega)) ?_;obtain rfl:k0=5:=by omega
   refine qR [] 5 [] λs8 g8 w8 H=>?_;have hD:=((hC.n A).n H);have hS:=ec (r:=p.bt) ((hy.ch A).ch H) (λj S=>(hH j S).ab (hD.ab (λ_ _=>DN)));refine qC 2 (ZA _ _ (s:Int) w8 hS ((a3.ch hD).tn hT)) ?_;rintro e' w9 ⟨rfl,b9⟩;refine⟨_,rfl,b9,?_⟩;have c9:=Cg.au (B:=w.heap.size) (T:=[]) (g:=g8) b9;refine qR [] 15 [0,0,2,0] λd1 a7 e4 q=>?_;by_cases I:(CW (p.bt.gC.map (·.vs)) (s:Int))≠0
   .refine qI (((CW (p.bt.gC.map (·.vs)) (s:Int)) != 0)) true (by simpa using I) (qR [] 6 [1,0] λd2 a8 e5 U=>?_);rw[show p.rD s=none from if_pos I];exact qE2 4 5 64 1 (a 0) (cmC Vw) (.bool false) λK=>⟨rfl,Cg.ab (((((hC.n A).n H).n c9).n q).n U) (λ_ _=>DN)⟩
   .refine qI (((CW (p.bt.gC.map (·.vs)) (s:Int)) != 0)) false (by simpa using I) (qR [] 6 [] λd3 a9 e6 E=>?_);by_cases P:(Iz (p.bt.gC.map (·.vs)) (s:Int))=true
    .refine qI ((Iz (p.bt.gC.map (·.vs)) (s:Int))) true P (qR [] 6 [2,1,0] λd4 b0 e7 V=>?_);rw[show p.rD s=some (JY (p.bt.gC.map (·.vs)) (s:Int))from(if_neg I).trans (if_pos P)];exact qE2 4 5 64 1 (a 0) (cmC (JY (p.bt.gC.map (·.vs)) (s:Int))) (.bool true) λK=>⟨rfl,Cg.ab ((((((hC.n A).n H).n c9).n q).n E).n V) (λ_ _=>DN)⟩
    .refine qI ((Iz (p.bt.gC.map (·.vs)) (s:Int))) false (by simpa using P) (qR [] 14 [0] λd5 b1 e8 W=>?_);have hX:p.rD s=p.bt.cn.find? (λc=>decide (c∉p.ae)):=(if_neg I).trans (if_neg P);refine BJ 63 [(0,pt m 0),(4,pt (a 0) 0),(46,S3.v x.cn),(47,iv (x.cn.n:Int)),(48,iv 0)] [true,true,false] [⟨m,.cells (Az i C p x) 145,.z,false⟩,⟨(a 0),.cells #[iv 0,iv 0,iv 0,iv 0,iv 0] 64,.l,false⟩] (λk O w' e L=>∃ j:Nat,k=p.bt.cn.length-j/\j<=p.bt.cn.length/\e=[(0,pt m 0),(4,pt (a 0) 0),(46,S3.v x.cn),(47,iv (x.cn.n:Int)),(48,iv (j:Int))]/\L=[⟨m,.cells (Az i C p x) 145,.z,false⟩,⟨(a 0),.cells #[iv 0,iv 0,iv 0,iv 0,iv 0] 64,.l,false⟩]/\(p.bt.cn.drop j).find? (λc=>decide (c∉p.ae))=p.rD s/\Cg w.heap.size [.n 60 0] gz w O w') (by kernel_rfl) (by kernel_rfl) (by kernel_rfl) (by kernel_rfl) p.bt.cn.length (λK=>?_) ?_
     .exact⟨0,rfl,by omega,rfl,rfl,by rw[hX];rfl,((((((hC.n A).n H).n c9).n q).n E).n W)⟩
     .rintro k gr wr _ zr _ ⟨j,rfl,S,rfl,rfl,hI,hC2⟩ J hJ;refine qR [] 5 [] λd6 b2 e9 d=>?_;by_cases h4:j<p.bt.cn.length
      .refine qI ((decide ((j:Int)<(x.cn.n:Int)))) true (N' (by omega)) ?_;obtain⟨c,M⟩:∃ c,p.bt.cn[j]?=some c:=⟨_,H' h4⟩;obtain⟨bx,ox,N⟩:=hQ.addr h4;rw[VD M]at hI
       refine qR [] 5 [] λd7 b3 f0 o=>qV 0 (pt bx (ox+5*j)) (Mb N j (by omega)) ?_;have a4:=hQ.ab (((hC2.n d).n o).ab (λ_ _=>DN));refine qV 1 (.agg #[iv c.k,iv c.c,iv c.s,iv c.n,iv c.v]) (Pa c λq_ u hu=>a4.cellAt N M hu) (qR [] 11 [0,0,2,0,8,0,2,4,6,8,0,10,2] λd8 a2 f1 t=>qC 6 (Fe (l:=p.ae) (hA.ab ((((hC2.n d).n o).n t).ab (λ_ _=>DN))) a6 c) ?_);rintro e' f2 ⟨rfl,D⟩;refine⟨_,rfl,D,?_⟩;have F:=Cg.au (B:=w.heap.size) (T:=[]) (g:=a2) D;refine qR [] 2 [14] λd9 b4 f3 G=>?_;by_cases Q:c∈p.ae
       .refine qI ((!(decide (c∈p.ae)))) false (by simpa using Q) (qR [] 3 [] λe0 b5 f4 X=>qV 0 (iv ((j:Int)+1)) (AZ 48 (j:Int) underlying3 (by omega)) (qR [] 2 [] λe1 b6 f5 Y=>qB [true,true,false] λz K0 K=>hJ (p.bt.cn.length-(j+1)) _ _ _ z _ (by omega) ⟨j+1,rfl,by omega,rfl,rfl,(by rw[<- hI,if_neg (by simpa using Q)]),(((((((hC2.n d).n o).n t).n F).n G).n X).n Y)⟩ K))
       .refine qI ((!(decide (c∈p.ae)))) true (by simpa using Q) (qR [] 6 [2,1,0] λe2 b7 f6 Z=>?_);rw[if_pos (by simpa using Q)]at hI
        rw[<- hI];exact qE2 4 5 64 1 (a 0) (cmC c) (.bool true) λK=>⟨rfl,Cg.ab ((((((hC2.n d).n o).n t).n F).n G).n Z) (λ_ _=>DN)⟩
      .refine qI ((decide ((j:Int)<(x.cn.n:Int)))) false (G' (by omega)) (qR [] 7 [1,0] λe3 b8 f7 a0=>?_);obtain rfl:j=p.bt.cn.length:=by omega
       rw[oH]at hI
       rw[<- hI];exact qE2 4 5 64 1 (a 0) (cmC Vw) (.bool false) λK=>⟨rfl,Cg.ab ((hC2.n d).n a0) (λ_ _=>DN)⟩
end
section
variable{P:Program}{B:Nat}{T:List Tg}{g:Gh}{w:World}
section
variable{x:S3}{xs:List Value}{τ:Tg}
theorem OwnS.sq{e:TypeId}{d:Nat}(h:OwnS g w τ false e d x xs){k:Nat}(f:k<=x.n)(i:0<x.n):OwnS g w τ false e d ⟨x.a,k,x.c⟩ (xs.take (k*d)):=by
 have l:=h.len;have j:k*d<=x.n*d:=oO _ f;refine⟨by rw[mH];show min _ _=k*d;omega,?_⟩;rcases h.ex with⟨h1,h2,h3⟩|⟨b,cur,h1,h2,h3,h4,h5,h6,h7,h8⟩
 .omega
 .refine .inr ⟨b,cur,h1,h2,mI f h3,h4,h5,?_,h7,h8⟩;show cur.toList.take (k*d)=xs.take (k*d);rw[<- h6,List.take_take,oF j]
theorem jO(t C e:TypeId)(i:TypeInfo)(J:P.underlying t=some (.slice e))(F:P.info? e=some i)(y:τ∈T)(A:OwnS g w τ false e i.size x xs)(a:Addr)(m c:Nat)(h:List Value)(H:0<x.c)(s:h.length=m*i.size)(o:∀ j u,h[j]?=some u->w.cell? (a.add j)=some u)(D:∀ u∈h,u.oneCell'=true)(f:x.n+m<=x.c) :
  ∃ w',(Builtin.append_ #[t,t] C #[x.v,.slice (some a) m c]).run P w=.ok (S3.v ⟨x.a,x.n+m,x.c⟩) w'/\OwnS g w' τ false e i.size ⟨x.a,x.n+m,x.c⟩ (xs++h)/\Cg B T g w g w'/\w'.heap.size=w.heap.size:=by
 obtain⟨L,z,K⟩:=x;have l:(xs++h).length=(z+m)*i.size:=by rw[I',A.len,s,pP]
 rcases A.ex with⟨h2,h3,h4⟩|⟨b,cur,h2,h3,h4,h5,h6,h7,h8,h9⟩
 .simp only at h4 f H;omega
 .simp only at h2 h4 h5 h6 h7 f;subst h2;have q:z*i.size+h.length<=cur.size:=by rw[s,h6,<- pP];exact oO _ f
  have I:=run_append_room (P:=P) w t C e i J F b z K cur h3 a m c h s o D f q;have p:g.k b=0:=by simpa using h9
  refine⟨_,I,⟨l,.inr ⟨b,_,rfl,setRow_heap w b cur _ e _ h3,f,h5,?_,?_,h8,by rw[p];rfl⟩⟩,⟨rfl,rfl,rfl,by simp,λ_ _=>.inl rfl,λ_ _=>A' _,λ_ _ _ _=>rfl,λd E r _=>setRow_other w b d _ (λe=>r (by rw[e,h8];exact y)),λd E j G=>?_⟩,by simp⟩
  .simp only[oo,I',mH,mJ,om];omega
  .rw[h7,<- l];exact qt
  .exact World.cell?_of_block (w:=w) (setRow_other w b d _ (λe=>by rw[e,p]at G;omega))
theorem jV(t J e:TypeId)(z:Value)(f:Nat)(H:P.underlying t=some (.slice e))(I:∀ w,(zeroValue e).run P w=.ok z w)(r:z.cells.size=f)(A:0<f)(C:∀ j,j<f->(z.cells[j]!).oneCell'=true)(D:τ∈T)(E:OwnS g w τ false e f x xs){b:Nat}(s:x.a=some ⟨b,0,none⟩)(k c:Nat)(K:0<k)(i:x.n+k<=x.c) :
  ∃ w',(Builtin.clear_ #[t] J #[.slice (some ⟨b,x.n*f,none⟩) k c]).run P w=.ok (.tuple #[]) w'/\OwnS g w' τ false e f x xs/\Cg B T g w g w'/\w'.heap.size=w.heap.size:=by
 rcases E.ex with⟨h2,h3,h4⟩|⟨b',cur,h2,h3,h4,h5,h6,h7,h8,h9⟩
 .rw[h2]at s;cases s
 .rw[s]at h2
  simp only[P',Addr.mk.injEq,and_true]at h2;subst h2;have u:g.k b=0:=by simpa using h9
  have l:(Builtin.zeroCells z.cells k).toList.length=k*f:=by rw[om,size_zeroCells,r]
  have h:x.n*f+0+(Builtin.zeroCells z.cells k).toList.length<=cur.size:=by rw[l,h6,oU,<- pP];exact oO _ i
  have o:∀ v∈(Builtin.zeroCells z.cells k).toList,v.oneCell'=true:=by
   intro v q;simp only[Builtin.zeroCells,Array.toList_map,nG]at q;obtain⟨j,_,rfl⟩:=q;exact C _ (by rw[r];exact Nat.mod_lt _ A)
  have p:=run_storeCells_at (P:=P) b (x.n*f) e (Builtin.zeroCells z.cells k).toList 0 cur w h3 h o;simp only[oU]at p;obtain⟨m,rfl⟩:∃ m,k=m+1:=⟨k-1,by omega⟩;refine⟨_,by simp only[Builtin.clear_,nD,nY,Sem.run_bind,run_underlying H,Result.andThen_ok,I,p];rfl,⟨E.len,.inr ⟨b,_,s,setRow_heap w b cur _ e _ h3,h4,h5,?_,?_,h8,h9⟩⟩,⟨rfl,rfl,rfl,by simp,λ_ _=>.inl rfl,λ_ _=>A' _,λ_ _ _ _=>rfl,λd F y _=>setRow_other w b d _ (λe=>y (by rw[e,h8];exact D)),λd F j G=>?_⟩,by simp⟩
  .rw[l]at h ⊢
   simp only[oo,I',mH,mJ,om,l];simp only[oU]at h;omega
  .have hle:x.n*f<=cur.toList.length:=by rw[om,h6];exact oO _ h4
   show(cur.toList.take (x.n*f)++_++_).take (x.n*f)=xs;rw[mN,qd (by rw[mH];omega),List.take_take,Nat.min_self,h7]
  .exact World.cell?_of_block (w:=w) (setRow_other w b d _ (λe=>by rw[e,u]at G;omega))
end
end
section
variable{fn:Func}{R:Ending->World->Prop}{B:Nat}{T:List Tg}{g:Gh}{w W:World}
section
theorem Kr(b o k:Nat):(⟨b,o,none⟩:Addr).add k=⟨b,o+k,none⟩:=by
 unfold Addr.add;split
 .rename_i h;simp[]
 .rfl
theorem mz(b n c l h m:Nat)(a:l<=h)(d:h<=m)(e:m<=c)(f:l<m):(Instr.sliceAt 38 (.slice (some ⟨b,0,none⟩) n c) (some (iv (l:Int))) (some (iv (h:Int))) (some (iv (m:Int)))).run prog W=.ok (.slice (some ⟨b,l*5,none⟩) (h-l) (m-l)) W:=by
 rw[run_sliceAt_slice _ _ _ _ _ _ unC,run_slice_lhm (P:=prog) (w:=W) _ _ _ _ unC .i64 .i64 .i64 l h m (by omega) (by omega) (by omega) (by omega),sz5];simp[Result.andThen,sliced,Kr];omega
theorem my(b n c l h:Nat)(a:l<=h)(d:h<=c)(e:l<c):(Instr.sliceAt 38 (.slice (some ⟨b,0,none⟩) n c) (some (iv (l:Int))) (some (iv (h:Int))) none).run prog W=.ok (.slice (some ⟨b,l*5,none⟩) (h-l) (c-l)) W:=by
 rw[run_sliceAt_slice _ _ _ _ _ _ unC,run_slice_lh (P:=prog) (w:=W) _ _ _ _ unC .i64 .i64 l h (by omega) (by omega) (by omega),sz5];simp[Result.andThen,sliced,Kr];omega
theorem m5(b n c h:Nat)(a:h<=c):(Instr.sliceAt 38 (.slice (some ⟨b,0,none⟩) n c) none (some (iv (h:Int))) none).run prog W=.ok (.slice (some ⟨b,0,none⟩) h c) W:=by
 rw[run_sliceAt_slice _ _ _ _ _ _ unC,run_slice_h (P:=prog) (w:=W) _ _ _ _ unC .i64 h (by omega) (by omega),sz5];simp[Result.andThen,sliced,Kr]
theorem m6(b n c l:Nat)(a:l<=n):(Instr.sliceAt 38 (.slice (some ⟨b,0,none⟩) n c) (some (iv (l:Int))) none none).run prog W=.ok (.slice (some ⟨b,if c=l then 0 else l*5,none⟩) (n-l) (c-l)) W:=by
 rw[run_sliceAt_slice _ _ _ _ _ _ unC,run_slice_l (P:=prog) (w:=W) _ _ _ _ unC .i64 l (by omega) (by omega),sz5];simp[Result.andThen,sliced,Kr];split<;>simp
variable{s:Xs}
theorem jZ(q:Nat){τ:Tg}{x:S3}{K:List Value}(J:TypeId)(a:Addr)(m c:Nat)(d:List Value)(X:OwnS g w τ false 64 5 x K)(f:Dw s q=some (Builtin.append_ #[38,38] J #[x.v,.slice (some a) m c]>>=λv=>pure (.value v)))(C:(nxt s q undef s.L).o.map Ob.l'=(nxt s q undef s.L).o.map Ob.r')(A:s.L.all (λy=>[τ].all λt=>y.t.ne t)=true)(U:0<x.c)(S:d.length=m*5)(M:∀ u∈d,u.oneCell'=true)(h:∀ j u,d[j]?=some u->w.cell? (a.add j)=some u)(k:x.n+m<=x.c)(Q:∀ w',OwnS g w' τ false 64 5 ⟨x.a,x.n+m,x.c⟩ (K++d)->(∀ B T,τ∈T->Cg B T g w g w')->w'.heap.size=w.heap.size->GG prog fn R B T (nxt s q (S3.v ⟨x.a,x.n+m,x.c⟩) s.L).s g w'):GG prog fn R B T s g w:=by
 refine L5 q s.L C (BO f) λH Y i o D=>?_;obtain⟨e,O,p⟩:∃ e,prog.info? 64=some e/\e.size=5:=by
  have r:(prog.info? 64).map (·.size)=some 5:=by kernel_rfl
  cases hh:prog.info? 64 with
  | none=>rw[hh]at r;cases r
  | some v=>rw[hh]at r;exact⟨v,rfl,by simpa using r⟩
 obtain⟨w',V,E,N,F⟩:=jO (P:=prog) (B:=w.heap.size) (T:=[τ]) 38 J 64 e underlying38 O (U'.2 rfl) (by rw[p];exact X) a m c d U (by rw[p];exact S) h M k;rw[p]at E
 have G:∀ B T,τ∈T->Cg B T g w g w':=λB T A=>(N.ret (B:=B)).mono λt W=>by rw[U'.1 W];exact A
 refine⟨S3.v ⟨x.a,x.n+m,x.c⟩,w',g,.inl ?_,H.ch (G _ [τ] (U'.2 rfl)) (λb I=>H.new b (by rw[F]at I;exact I)) A,Q w' E G F⟩;rw[Dn f D,Sem.run_bind,V,Result.andThen_ok];rfl
theorem lY(w:World):(zeroValue 64).run prog w=.ok (.agg #[iv 0,iv 0,iv 0,iv 0,iv 0]) w:=by kernel_rfl
theorem mm(f:Nat){τ:Tg}{x:S3}{E:List Value}(D:TypeId){b:Nat}(h:x.a=some ⟨b,0,none⟩)(k c:Nat)(M:OwnS g w τ false 64 5 x E)(d:Dw s f=some (Builtin.clear_ #[38] D #[.slice (some ⟨b,x.n*5,none⟩) k c]>>=λv=>pure (.value v)))(q:(nxt s f undef s.L).o.map Ob.l'=(nxt s f undef s.L).o.map Ob.r')(m:s.L.all (λy=>[τ].all λt=>y.t.ne t)=true)(p:0<k)(e:x.n+k<=x.c)(I:∀ w',OwnS g w' τ false 64 5 x E->(∀ B T,τ∈T->Cg B T g w g w')->w'.heap.size=w.heap.size->GG prog fn R B T (nxt s f (.tuple #[]) s.L).s g w'):GG prog fn R B T s g w:=by
 refine L5 f s.L q (BO d) λC N i o r=>?_;obtain⟨w',J,F,G,u⟩:=jV (P:=prog) (B:=w.heap.size) (T:=[τ]) 38 D 64 (.agg #[iv 0,iv 0,iv 0,iv 0,iv 0]) 5 underlying38 lY rfl (by decide) (λj H=>by rcases hZ H with rfl|rfl|rfl|rfl|rfl<;>rfl) (U'.2 rfl) M h k c p e;have A:∀ B T,τ∈T->Cg B T g w g w':=λB T m=>(G.ret (B:=B)).mono λt K=>by rw[U'.1 K];exact m
 refine⟨.tuple #[],w',g,.inl ?_,C.ch (A _ [τ] (U'.2 rfl)) (λb h=>C.new b (by rw[u]at h;exact h)) m,I w' F A u⟩;rw[Dn d r,Sem.run_bind,J,Result.andThen_ok];rfl
end
end
section
variable{B i j mb ob sz tb:Nat}{M:Meet}{W w w' w0:World}{e:TypeId}{g g':Gh}{k:Int}{nb:Nat->Nat}{vs xs:List Value}{x y:S3}{ys:Nat->S3}
theorem fW{f:Bool}(h:OwnS g' w' (.n 60 0) f e sz y xs)(c:Cg w.heap.size [.n 60 0] gz w g' w'):∀ a,y.a=some a->w.heap.size<=a.block:=by
 intro a d;rcases h.ex with⟨h1,_⟩|⟨b,_,h1,_,_,_,_,_,h7,_⟩
 .rw[h1]at d;cases d
 .rw[h1]at d
  simp only[P']at d;subst d;rcases nO b w.heap.size with hlt|hge
  .have:=c.tag hlt (λh=>hlt);rw[h7]at this;cases this
  .exact hge
theorem RL(h:RdV w x 5 vs)(H:∀ u∈vs,u.oneCell'=true)(L:x.n<100000000) :
  Calls prog 58 #[x.v] w λe w'=>∃ y:S3,e=.returned y.v/\RdV w' y 5 vs/\y.n=x.n/\(vs≠[]->∀ a,y.a=some a->w.heap.size<=a.block)/\Bw w w':=by
 obtain⟨S,c,i⟩:=x;simp only at L;refine gI (fn:=f58) [.n 60 0] gz func58 (λ_ _=>⟨rfl,rfl⟩) (qR [] 8 [] λT Y w1 c1=>?_);by_cases B:S=none
 .subst B;have m:i=0:=h.sh rfl;have o:c=0:=by have:=h.cap;simp only at this;omega
  subst m o;refine qV 1 (.bool true) (ep (z:=⟨none,0,0⟩) (t:=38) (e:=64) (x:=(.tmp 3)) (y:=(.const (sn))) rfl underlying38 (by kernel_rfl)) (qR [] 6 [] λU Z w2 E=>qE (S3.v s30) λK=>⟨s30,rfl,⟨h.len,A' _,λ_=>rfl,.inl rfl⟩,rfl,λ_ a J=>(by cases J),Cg.ab ((c1.nil [.n 60 0]).n E) (λ_ _=>DN)⟩)
 .obtain⟨ad,rfl⟩:=pm.1 B;refine qV 1 (.bool false) (ep (z:=⟨some ad,c,i⟩) (t:=38) (e:=64) (x:=(.tmp 3)) (y:=(.const (sn))) rfl underlying38 (by kernel_rfl)) (qR [] 7 [62,0] λb G R d=>?_);by_cases C:c=0
  .subst C;obtain⟨r,q⟩:∃ r,prog.info? 64=some r:=Option.isSome_iff_exists.1 (by kernel_rfl);refine qV 2 (.slice (some ⟨(b 0),0,none⟩) 0 0) (fZ 38 38 64 r underlying38 q (b 0) ad i) (qR [] 2 [] λV g4 w4 F=>qE (S3.v ⟨some ⟨(b 0),0,none⟩,0,0⟩) λK=>⟨_,rfl,⟨h.len,A' _,λh=>(by cases h),.inl rfl⟩,rfl,λN=>absurd (mG (by rw[h.len];exact Nat.zero_mul 5)) N,Cg.ab (((c1.nil [.n 60 0]).n d).n F) (λ_ _=>DN)⟩)
  .obtain⟨bx,ox,hx1,hx2,hx3⟩:∃ bx ox,(some ad:Option Addr)=some ⟨bx,ox,none⟩/\bx<w.heap.size/\∀ j u,vs[j]?=some u->w.cell? ⟨bx,ox+j,none⟩=some u:=by rcases h.ex with h|h;exact absurd h C;exact h
   simp only[P']at hx1;subst hx1;refine Ad λK=>?_;obtain⟨O,P,Q⟩:=K.sN 0 (b 0) (.cells #[] 64) 60 0 true (by kernel_rfl);have I:OwnS G R (.n 60 0) true 64 5 ⟨some ⟨(b 0),0,none⟩,0,0⟩ []:=⟨rfl,.inr ⟨(b 0),#[],rfl,O,A' _,ng _,rfl,rfl,P,Q⟩⟩;refine Ij [false] ?_;have l:=Cg.ab ((c1.nil [.n 60 0]).n d) (λ_ _=>DN);refine Kv 2 (x:=⟨some ⟨(b 0),0,none⟩,0,0⟩) 38 38 64 5 40 (.agg #[iv 0,iv 0,iv 0,iv 0,iv 0]) ⟨bx,ox,none⟩ c i vs I (by kernel_rfl) (by kernel_rfl) (by kernel_rfl) underlying38 (by kernel_rfl) (by kernel_rfl) (by decide) (by omega) h.len H (λK j u M=>by rw[Kr];exact(l.cell (p:=⟨bx,ox+j,none⟩) hx2).trans (hx3 j u M)) (by show 0+c<=_;unfold maxLen;omega) (by show(0+c)*40<=_;omega) ?_;intro D g5 w5 s n5 k X;have A:=k w.heap.size [.n 60 0] (U'.2 rfl);refine qR [] 2 [] λW g6 w6 g=>qE (S3.v D) λK=>⟨D,rfl,(by have:=(s.ch g).rv;rwa [nF]at this),(by rw[n5];show 0+c=c;omega),λ_=>fW (s.ch g) ((((c1.nil [.n 60 0]).n d).trans A).n g),Cg.ab ((((c1.nil [.n 60 0]).n d).trans A).n g) (λ_ _=>DN)⟩
theorem Ln(h:RdV w x 5 vs)(H:∀ u∈vs,u.oneCell'=true)(L:x.n<100000000) :
  Calls prog 57 #[x.v] w λe w'=>∃ y:S3,e=.returned y.v/\RdV w' y 5 vs/\y.n=x.n/\(vs≠[]->∀ a,y.a=some a->w.heap.size<=a.block)/\Bw w w':=by
 obtain⟨S,c,i⟩:=x;simp only at L;refine gI (fn:=f57) [.n 60 0] gz func57 (λ_ _=>⟨rfl,rfl⟩) (qR [] 8 [] λT Y w1 c1=>?_);by_cases B:S=none
 .subst B;have m:i=0:=h.sh rfl;have o:c=0:=by have:=h.cap;simp only at this;omega
  subst m o;refine qV 1 (.bool true) (ep (z:=⟨none,0,0⟩) (t:=33) (e:=150) (x:=(.tmp 3)) (y:=(.const (sn))) rfl underlying33 (by kernel_rfl)) (qR [] 6 [] λU Z w2 E=>qE (S3.v s30) λK=>⟨s30,rfl,⟨h.len,A' _,λ_=>rfl,.inl rfl⟩,rfl,λ_ a J=>(by cases J),Cg.ab ((c1.nil [.n 60 0]).n E) (λ_ _=>DN)⟩)
 .obtain⟨ad,rfl⟩:=pm.1 B;refine qV 1 (.bool false) (ep (z:=⟨some ad,c,i⟩) (t:=33) (e:=150) (x:=(.tmp 3)) (y:=(.const (sn))) rfl underlying33 (by kernel_rfl)) (qR [] 7 [62,0] λb G R d=>?_);by_cases C:c=0
  .subst C;obtain⟨r,q⟩:∃ r,prog.info? 150=some r:=Option.isSome_iff_exists.1 (by kernel_rfl);refine qV 2 (.slice (some ⟨(b 0),0,none⟩) 0 0) (fZ 33 33 150 r underlying33 q (b 0) ad i) (qR [] 2 [] λV g4 w4 F=>qE (S3.v ⟨some ⟨(b 0),0,none⟩,0,0⟩) λK=>⟨_,rfl,⟨h.len,A' _,λh=>(by cases h),.inl rfl⟩,rfl,λN=>absurd (mG (by rw[h.len];exact Nat.zero_mul 5)) N,Cg.ab (((c1.nil [.n 60 0]).n d).n F) (λ_ _=>DN)⟩)
  .obtain⟨bx,ox,hx1,hx2,hx3⟩:∃ bx ox,(some ad:Option Addr)=some ⟨bx,ox,none⟩/\bx<w.heap.size/\∀ j u,vs[j]?=some u->w.cell? ⟨bx,ox+j,none⟩=some u:=by rcases h.ex with h|h;exact absurd h C;exact h
   simp only[P']at hx1;subst hx1;refine Ad λK=>?_;obtain⟨O,P,Q⟩:=K.sN 0 (b 0) (.cells #[] 150) 60 0 true (by kernel_rfl);have I:OwnS G R (.n 60 0) true 150 5 ⟨some ⟨(b 0),0,none⟩,0,0⟩ []:=⟨rfl,.inr ⟨(b 0),#[],rfl,O,A' _,ng _,rfl,rfl,P,Q⟩⟩;refine Ij [false] ?_;have l:=Cg.ab ((c1.nil [.n 60 0]).n d) (λ_ _=>DN);refine Kv 2 (x:=⟨some ⟨(b 0),0,none⟩,0,0⟩) 33 33 150 5 40 (.agg #[iv 0,iv 0,iv 0,iv 0,iv 0]) ⟨bx,ox,none⟩ c i vs I (by kernel_rfl) (by kernel_rfl) (by kernel_rfl) underlying33 (by kernel_rfl) (by kernel_rfl) (by decide) (by omega) h.len H (λK j u M=>by rw[Kr];exact(l.cell (p:=⟨bx,ox+j,none⟩) hx2).trans (hx3 j u M)) (by show 0+c<=_;unfold maxLen;omega) (by show(0+c)*40<=_;omega) ?_;intro D g5 w5 s n5 k X;have A:=k w.heap.size [.n 60 0] (U'.2 rfl);refine qR [] 2 [] λW g6 w6 g=>qE (S3.v D) λK=>⟨D,rfl,(by have:=(s.ch g).rv;rwa [nF]at this),(by rw[n5];show 0+c=c;omega),λ_=>fW (s.ch g) ((((c1.nil [.n 60 0]).n d).trans A).n g),Cg.ab ((((c1.nil [.n 60 0]).n d).trans A).n g) (λ_ _=>DN)⟩
def Ix(M:Meet)(ly tv:S3):Array Value:=#[iv (M.bN.length:Int),.bool (M.ao 0).up,.bool (M.ao 1).up,.bool (M.ao 2).up,.bool (M.ao 3).up,.bool (M.ao 4).up,S3.v ly,iv ((M.ao 0).bad:Int),iv ((M.ao 1).bad:Int),iv ((M.ao 2).bad:Int),iv ((M.ao 3).bad:Int),iv ((M.ao 4).bad:Int),S3.v tv]
structure OutW(w:World)(M:Meet)(ly tv:S3)(ys:Nat->S3):Prop where
 mv:RdV w ly 1 [S3.v (ys 0),S3.v (ys 1),S3.v (ys 2),S3.v (ys 3),S3.v (ys 4)]
 log:∀ j,j<5->RdC w (ys j) ((M.ao j).ae.take (M.ao j).done)
 cF:RdV w tv 5 (M.cF.flatMap F4)
structure OutN(B:Nat)(M:Meet)(ly tv:S3)(ys:Nat->S3):Prop where
 mv:∀ a,ly.a=some a->B<=a.block
 log:∀ j,j<5->cmL ((M.ao j).ae.take (M.ao j).done)≠[]->∀ a,(ys j).a=some a->B<=a.block
 cF:M.cF.flatMap F4≠[]->∀ a,tv.a=some a->B<=a.block
theorem OutW.ch{C:Nat}{e f:S3}(h:OutW w M e f ys)(hn:OutN B M e f ys)(i:∀ b,B<=b->g.t b=.z)(c:Cg C [] g w g' w'):OutW w' M e f ys :=
 ⟨((⟨h.mv,λ_ a d=>i _ (hn.mv a d)⟩:FzV g w e 1 _).ch c).rd,λj l=>(((⟨(h.log j l).rv,λk a d=>i _ (hn.log j l k a d)⟩:FzV g w (ys j) 5 _).ch c).rd).rc,((⟨h.cF,λk a d=>i _ (hn.cF k a d)⟩:FzV g w f 5 _).ch c).rd⟩
theorem Va(d:List Tol):∀ u∈d.flatMap F4,u.oneCell'=true:=by
 intro u b;obtain⟨c,_,a⟩:=pu.1 b;simp only[F4,mK,O',or_false]at a;rcases a with rfl|rfl|rfl|rfl|rfl<;>rfl
theorem aS{P:Program}{c:Func}{R:Ending->World->Prop}{Φ:List Fa}{s:Xs}(b:Nat)(o:Obj)(a:w0.heap[b]?=some o)(h:GT P c R w0 Φ ⟨s.K,s.f,B2 s.L++[⟨b,o,.z,false⟩]⟩ g w):GT P c R w0 Φ s g w :=
 ⟨λF C=>BS ⟨b,o,.z,false⟩ (λ_=>⟨((CgQ.ab C).block b (rl a)).trans a,C.tag (rl a) (λ_=>rl a),(λh=>by cases h),λh=>absurd rfl h⟩) rfl (h.ex F C)⟩
theorem iE(h:MS mb tb ob nb g w0 M)(b:Bw w0 w){i:Nat}(c:i<5)(a:(M.ao i).done<=(M.ao i).ae.length) :
  Calls prog 59 #[pt (nb i) 0] w λe w'=>∃ y:S3,e=.returned y.v/\RdC w' y ((M.ao i).ae.take (M.ao i).done)/\Bw w w' :=
 UC ((h.lp (Cg.au (B:=0) b) λd a=>h.new d (mI b.size a)).ns c) a
theorem kS(a:i<5):(Instr.index 119 (.agg #[pt (nb 0) 0,pt (nb 1) 0,pt (nb 2) 0,pt (nb 3) 0,pt (nb 4) 0]) (iv (i:Int))).run prog W=.ok (pt (nb i) 0) W:=by
 rcases hZ a with rfl|rfl|rfl|rfl|rfl<;>kernel_rfl
def ysL(ys:Nat->S3)(i:Nat):List Value:=(List.range i).map λj=>S3.v (ys j)
def FE(f:Nat->Bool)(i:Nat)(b:Bool):Nat->Bool:=λj=>bif Nat.beq j i then b else f j
def Kw(f:Nat->Int)(i:Nat)(b:Int):Nat->Int:=λj=>bif Nat.beq j i then b else f j
def gm(M:Meet)(i:Nat):Nat->Bool:=λj=>bif Nat.blt j i then(M.ao j).up else false
def Cn(M:Meet)(i:Nat):Nat->Int:=λj=>bif Nat.blt j i then((M.ao j).bad:Int)else 0
theorem P0(j i:Nat):Nat.blt j (i+1)=bif Nat.beq j i then true else Nat.blt j i:=by
 rw[pG];rcases pR j i with h|h|h
 .simp[Nat.blt,show Nat.beq j i=false from Bool.eq_false_iff.2 λe=>by have:=Nat.eq_of_beq_eq_true e;omega];omega
 .subst h;simp[Nat.blt,Nat.beq_refl]
 .simp[Nat.blt,show Nat.beq j i=false from Bool.eq_false_iff.2 λe=>by have:=Nat.eq_of_beq_eq_true e;omega];omega
theorem j3(M:Meet)(i:Nat):FE (gm M i) i (M.ao i).up=gm M (i+1):=by
 funext j
 unfold FE gm;rw[P0];cases h:Nat.beq j i
 .rfl
 .rw[mX h];rfl
theorem gO(M:Meet)(i:Nat):Kw (Cn M i) i ((M.ao i).bad:Int)=Cn M (i+1):=by
 funext j
 unfold Kw Cn;rw[P0];cases h:Nat.beq j i
 .rfl
 .rw[mX h];rfl
def Lgs(g:Gh)(w:World)(M:Meet)(ys:Nat->S3)(i:Nat):Prop:=∀ j,j<i->FzV g w (ys j) 5 (cmL ((M.ao j).ae.take (M.ao j).done))
def Fa.lg(M:Meet)(ys:Nat->S3)(i:Nat):Fa:=⟨none,λg w=>Lgs g w M ys i,λhz _ c h j hj=>(h j hj).ch c hz⟩
def yup(ys:Nat->S3)(i:Nat)(y:S3):Nat->S3:=λj=>if j=i then y else ys j
theorem dE(h:Lgs g w M ys i)(k:FzV g w y 5 (cmL ((M.ao i).ae.take (M.ao i).done))):Lgs g w M (yup ys i y) (i+1):=by
 intro j a;unfold yup;split
 .rename_i e;rw[e];exact k
 .exact h j (by omega)
theorem lW(a:Nat->S3)(i:Nat)(y:S3):ysL (yup a i y) (i+1)=ysL a i++[S3.v y]:=by
 unfold ysL;rw[pj,mS]
 congr 1
 .apply pA;intro j b;have:=o8.1 b;unfold yup;rw[if_neg (by omega)]
 .simp[yup]
theorem fK(h:∀ j,j<i->cmL ((M.ao j).ae.take (M.ao j).done)≠[]->∀ a,(ys j).a=some a->B<=a.block)(k:cmL ((M.ao i).ae.take (M.ao i).done)≠[]->∀ a,y.a=some a->B<=a.block):∀ j,j<i+1->cmL ((M.ao j).ae.take (M.ao j).done)≠[]->∀ a,(yup ys i y j).a=some a->B<=a.block:=by
 intro j b;unfold yup;split
 .rename_i e;rw[e];exact k
 .exact h j (by omega)
theorem iQ(h:OwnS g w (.n 60 0) true e sz x xs)(C:Cg w0.heap.size TQ gS w0 g w):∀ a,x.a=some a->w0.heap.size<=a.block:=by
 intro a c;rcases h.ex with⟨h1,_⟩|⟨b,cur,h1,_,_,_,_,_,h7,_⟩
 .rw[h1]at c;cases c
 .rw[h1]at c;cases c
  refine qL λd=>?_;have:=C.tag d (λ_=>d);rw[h7]at this
  cases this
theorem QB(h:MS mb tb ob nb g w M)(hd:∀ i,i<5->(M.ao i).done<=(M.ao i).ae.length/\(M.ao i).ae.length<=40)(b2:M.bN.length<100000000)(b5:M.cF.length<100000000) :
  Calls prog 35 #[pt mb 0] w λe w'=>∃ (ly tv:S3) (ys:Nat->S3),e=.returned (.agg (Ix M ly tv))/\OutW w' M ly tv ys/\OutN w.heap.size M ly tv ys/\Bw w w':=by
 obtain⟨lt,tl,E⟩:=h.out;obtain⟨bs,hL,R⟩:=E.bN;have S:lt.n=M.bN.length:=by have:=hL.len;have:=R.len;simp at *;omega
 have b6:tl.n=M.cF.length:=by have Z:=E.cF.len;rw[Gf]at Z;omega
 refine tIn [] func35 trivial (aS mb _ h.box.r ?_);refine aS ob _ E.row ?_;refine tR 21 [1,0,19,0,2,4,6,0,8,10,12,1,14,16,18,20,22,0,24,26,28,1] λb _ _=>K7 55 (λy t c=>∃ (tv:S3) (m:Nat),y=[(0,pt mb 0),(2,pt (b 0) 0),(3,pt m 0)]/\t=[⟨mb,.cells (mtA nb ob tb) 121,.z,false⟩,⟨ob,.cells #[S3.v lt,S3.v tl] 115,.z,false⟩,⟨(b 0),.cells #[iv 0,.bool false,.bool false,.bool false,.bool false,.bool false,sn,iv 0,iv 0,iv 0,iv 0,iv 0,sn] 35,.l,false⟩,⟨m,.cells #[iv (lt.n:Int),.bool false,.bool false,.bool false,.bool false,.bool false,sn,iv 0,iv 0,iv 0,iv 0,iv 0,S3.v tv] 35,.l,false⟩]/\c=[Fa.zv tv 5 (M.cF.flatMap F4)]/\(M.cF.flatMap F4≠[]->∀ a,tv.a=some a->w.heap.size<=a.block)) (λJ q=>?_) ?_
 .refine K8 15 17 ?_ ?_
  .refine tF λ_ D=>?_;have T:=D.size;refine tC 15 (λF C=>Ln (E.cF.rv.ab (CgQ.ab C)) (Va _) (by omega)) λB=>?_;rintro _ _ ⟨tv,rfl,A,_,f,b4⟩;refine⟨_,Fa.zv tv 5 (M.cF.flatMap F4)::_,rfl,b4,λF=>⟨⟨A,λp a o=>B _ (f p a o)⟩,F⟩,?_⟩;refine tR 4 [32,35,1,0,37,3,0] λX _ _=>tD q [true,true,true,true] ⟨tv,(X 0),rfl,rfl,rfl,λp a o=>mI T (f p a o)⟩ (λF=>⟨F.1,trivial⟩)
  .refine tR 1 [1,0] λY _ _=>tF λ_ D=>?_;have U:=D.size;refine tC 15 (λF C=>Ln (E.cF.rv.ab (CgQ.ab C)) (Va _) (by omega)) λB=>?_;rintro _ _ ⟨tv,rfl,A,_,f,b8⟩;refine⟨_,Fa.zv tv 5 (M.cF.flatMap F4)::_,rfl,b8,λF=>⟨⟨A,λp a o=>B _ (f p a o)⟩,F⟩,?_⟩;refine tR 3 [32,37,3,0] λb9 _ _=>tD q [true,true,true,true] ⟨tv,(Y 0),rfl,rfl,rfl,λp a o=>mI U (f p a o)⟩ (λF=>⟨F.1,trivial⟩)
 rintro _ _ _ ⟨tv,m,rfl,rfl,rfl,f⟩ _ _ _;refine tR 10 [0] λa1 _ _=>GU 55 [(2,pt (b 0) 0),(3,pt m 0),(26,.agg #[pt (nb 0) 0,pt (nb 1) 0,pt (nb 2) 0,pt (nb 3) 0,pt (nb 4) 0]),(27,iv 0)] [true,false,true,true] [⟨mb,.cells (mtA nb ob tb) 121,.z,false⟩,⟨(b 0),.cells #[iv 0,.bool false,.bool false,.bool false,.bool false,.bool false,sn,iv 0,iv 0,iv 0,iv 0,iv 0,sn] 35,.l,false⟩,⟨m,.cells #[iv (lt.n:Int),.bool false,.bool false,.bool false,.bool false,.bool false,sn,iv 0,iv 0,iv 0,iv 0,iv 0,S3.v tv] 35,.l,false⟩] [Fa.zv tv 5 (M.cF.flatMap F4),Fa.ow 0 38 1 s30 (ysL (λ_=>s30) 0),Fa.lg M (λ_=>s30) 0] (λkk y t c=>∃ (i:Nat) (ly:S3) (ys:Nat->S3),kk=5-i/\y=[(2,pt (b 0) 0),(3,pt m 0),(26,.agg #[pt (nb 0) 0,pt (nb 1) 0,pt (nb 2) 0,pt (nb 3) 0,pt (nb 4) 0]),(27,iv (i:Int))]/\t=[⟨mb,.cells (mtA nb ob tb) 121,.z,false⟩,⟨(b 0),.cells #[iv 0,.bool false,.bool false,.bool false,.bool false,.bool false,sn,iv 0,iv 0,iv 0,iv 0,iv 0,sn] 35,.l,false⟩,⟨m,.cells #[iv (lt.n:Int),.bool (gm M i 0),.bool (gm M i 1),.bool (gm M i 2),.bool (gm M i 3),.bool (gm M i 4),S3.v ly,iv (Cn M i 0),iv (Cn M i 1),iv (Cn M i 2),iv (Cn M i 3),iv (Cn M i 4),S3.v tv] 35,.l,false⟩]/\c=[Fa.zv tv 5 (M.cF.flatMap F4),Fa.ow 0 38 1 ly (ysL ys i),Fa.lg M ys i]/\i<=5/\ly.n=i/\(∀ j,j<i->cmL ((M.ao j).ae.take (M.ao j).done)≠[]->∀ a,(ys j).a=some a->w.heap.size<=a.block)) (5) ⟨0,s30,λ_=>s30,rfl,rfl,rfl,rfl,by omega,rfl,λj G=>absurd G (ri _)⟩ (λF=>⟨F.1,OwnS.nil _ _ _ _ _ _,(λj G=>absurd G (ri _)),trivial⟩) ?_;rintro k _ _ _ ⟨i,ly,ys,rfl,rfl,rfl,rfl,hi,a0,hw⟩ _ _ _ J q;refine tR 5 [] λa2 _ _=>?_;by_cases Z:i<5
 .refine tI ((decide ((i:Int)<5))) true (N' (by omega)) ?_;have d:i<5:=by omega
  obtain⟨x,hN⟩:=h.ao i d;refine tR 6 [] λa3 _ _=>tV 1 (pt (nb i) 0) (λF C=>(kS d)) (aS (nb i) _ hN.row ?_);refine tR 4 [] λa4 _ _=>K7 55 (λy t c=>y=[(2,pt (b 0) 0),(3,pt m 0),(26,.agg #[pt (nb 0) 0,pt (nb 1) 0,pt (nb 2) 0,pt (nb 3) 0,pt (nb 4) 0]),(27,iv (i:Int)),(4,iv (i:Int)),(5,pt (nb i) 0)]/\t=[⟨mb,.cells (mtA nb ob tb) 121,.z,false⟩,⟨(b 0),.cells #[iv 0,.bool false,.bool false,.bool false,.bool false,.bool false,sn,iv 0,iv 0,iv 0,iv 0,iv 0,sn] 35,.l,false⟩,⟨m,.cells #[iv (lt.n:Int),.bool (FE (gm M i) i (M.ao i).up 0),.bool (FE (gm M i) i (M.ao i).up 1),.bool (FE (gm M i) i (M.ao i).up 2),.bool (FE (gm M i) i (M.ao i).up 3),.bool (FE (gm M i) i (M.ao i).up 4),S3.v ly,iv (Cn M i 0),iv (Cn M i 1),iv (Cn M i 2),iv (Cn M i 3),iv (Cn M i 4),S3.v tv] 35,.l,false⟩,⟨(nb i),.cells (Az i ob (M.ao i) x) 145,.z,false⟩]/\c=[Fa.zv tv 5 (M.cF.flatMap F4),Fa.ow 0 38 1 ly (ysL ys i),Fa.lg M ys i]) (λJ q=>?_) ?_
  .rcases hZ d with rfl|rfl|rfl|rfl|rfl<;>exact tR 10 [3,2,0] λa5 _ _=>tD q [true,true,true,true] ⟨rfl,rfl,rfl⟩ (λF=>F)
  rintro _ _ _ ⟨rfl,rfl,rfl⟩ _ _ _;refine tR 1 [] λa6 _ _=>K7 55 (λy t c=>y=[(2,pt (b 0) 0),(3,pt m 0),(26,.agg #[pt (nb 0) 0,pt (nb 1) 0,pt (nb 2) 0,pt (nb 3) 0,pt (nb 4) 0]),(27,iv (i:Int)),(4,iv (i:Int)),(5,pt (nb i) 0)]/\t=[⟨mb,.cells (mtA nb ob tb) 121,.z,false⟩,⟨(b 0),.cells #[iv 0,.bool false,.bool false,.bool false,.bool false,.bool false,sn,iv 0,iv 0,iv 0,iv 0,iv 0,sn] 35,.l,false⟩,⟨m,.cells #[iv (lt.n:Int),.bool (FE (gm M i) i (M.ao i).up 0),.bool (FE (gm M i) i (M.ao i).up 1),.bool (FE (gm M i) i (M.ao i).up 2),.bool (FE (gm M i) i (M.ao i).up 3),.bool (FE (gm M i) i (M.ao i).up 4),S3.v ly,iv (Kw (Cn M i) i ((M.ao i).bad:Int) 0),iv (Kw (Cn M i) i ((M.ao i).bad:Int) 1),iv (Kw (Cn M i) i ((M.ao i).bad:Int) 2),iv (Kw (Cn M i) i ((M.ao i).bad:Int) 3),iv (Kw (Cn M i) i ((M.ao i).bad:Int) 4),S3.v tv] 35,.l,false⟩,⟨(nb i),.cells (Az i ob (M.ao i) x) 145,.z,false⟩]/\c=[Fa.zv tv 5 (M.cF.flatMap F4),Fa.ow 0 38 1 ly (ysL ys i),Fa.lg M ys i]) (λJ q=>?_) ?_
  .rcases hZ d with rfl|rfl|rfl|rfl|rfl<;>exact tR 10 [3,2,0] λa7 _ _=>tD q [true,true,true,true] ⟨rfl,rfl,rfl⟩ (λF=>F)
  rintro _ _ _ ⟨rfl,rfl,rfl⟩ _ _ _;refine tR 4 [8,0,2,2,4] λa8 _ _=>tC 3 (λF C=>iE h (CgQ.ab C) d (hd i d).1) λB=>?_;rintro _ _ ⟨yl,rfl,I,P⟩;refine⟨_,_,rfl,P,id,?_⟩;have V:yl.n<100000000:=by rw[I.len,mH];have:=hd i d;omega
  refine tF λ_ D=>?_;have H:=D.size;refine tC 4 (λF C=>RL I.rv (λu hu=>OA _ u hu) V) λB=>?_;rintro _ _ ⟨O,rfl,W,_,L,Q⟩;refine⟨_,Fa.zv O 5 (cmL ((M.ao i).ae.take (M.ao i).done))::_,rfl,Q,λF=>⟨⟨W,λp a o=>B _ (L p a o)⟩,F⟩,?_⟩;refine tR 1 [11,0,0] λs _ _=>eV 6 0 (x:=ly) 31 31 38 1 24 sn ⟨(s 0),0,none⟩ 1 1 [S3.v O] (λF=>F.2.2.1) [Fa.zv tv 5 (M.cF.flatMap F4),Fa.lg M (yup ys i O) (i+1)] (λF=>⟨F.2.1,dE F.2.2.2.1 F.1,trivial⟩) rfl (by simp[TQ]) rfl (by simp[Value.oneCell']) (λF K=>D0 K 4 (s 0) [S3.v O] 38 .z true (by kernel_rfl)) (by unfold maxLen;omega) (by omega) λN _ _ b7=>tR 5 [14,17,2,0] λa9 _ _=>tV 0 (iv ((i:Int)+1)) (λF C=>(AZ 27 (i:Int) underlying3 (by omega))) (tR 2 [] λb0 _ _=>tB q (5-(i+1)) (by omega) [true,true,true,false,false] (L':=[⟨mb,.cells (mtA nb ob tb) 121,.z,false⟩,⟨(b 0),.cells #[iv 0,.bool false,.bool false,.bool false,.bool false,.bool false,sn,iv 0,iv 0,iv 0,iv 0,iv 0,sn] 35,.l,false⟩,⟨m,.cells #[iv (lt.n:Int),.bool (FE (gm M i) i (M.ao i).up 0),.bool (FE (gm M i) i (M.ao i).up 1),.bool (FE (gm M i) i (M.ao i).up 2),.bool (FE (gm M i) i (M.ao i).up 3),.bool (FE (gm M i) i (M.ao i).up 4),S3.v N,iv (Kw (Cn M i) i ((M.ao i).bad:Int) 0),iv (Kw (Cn M i) i ((M.ao i).bad:Int) 1),iv (Kw (Cn M i) i ((M.ao i).bad:Int) 2),iv (Kw (Cn M i) i ((M.ao i).bad:Int) 3),iv (Kw (Cn M i) i ((M.ao i).bad:Int) 4),S3.v tv] 35,.l,false⟩]) ⟨i+1,N,yup ys i O,rfl,rfl,(by rw[j3,gO]),rfl,by omega,by omega,fK hw (λp a o=>mI H (L p a o))⟩ (λF=>⟨F.2.1,(by rw[lW];exact F.1),F.2.2.1,trivial⟩))
 .refine tI ((decide ((i:Int)<5))) false (G' (by omega)) ?_;obtain rfl:i=5:=by omega
  refine tR 6 [2,1,0] λb1 _ _=>?_;have hA:Ix M ly tv=#[iv (lt.n:Int),.bool (gm M 5 0),.bool (gm M 5 1),.bool (gm M 5 2),.bool (gm M 5 3),.bool (gm M 5 4),S3.v ly,iv (Cn M 5 0),iv (Cn M 5 1),iv (Cn M 5 2),iv (Cn M 5 3),iv (Cn M 5 4),S3.v tv]:=by rw[S];rfl
  exact tX λF C=>qE1 2 35 1 (b 0) #[iv (lt.n:Int),.bool (gm M 5 0),.bool (gm M 5 1),.bool (gm M 5 2),.bool (gm M 5 3),.bool (gm M 5 4),S3.v ly,iv (Cn M 5 0),iv (Cn M 5 1),iv (Cn M 5 2),iv (Cn M 5 3),iv (Cn M 5 4),S3.v tv] λ_=>⟨ly,tv,ys,by rw[hA],⟨F.2.1.rv,λj G=>(F.2.2.1 j G).rd.rc,F.1.rd⟩,⟨iQ F.2.1 C,hw,f⟩,CgQ.ab C⟩
theorem YX(h:1<=k/\k<=9):Calls prog 30 #[iv k] w λe w'=>e=.returned (.bool true)/\Bw w w':=by
 refine tIn [] func30 trivial (tR 7 [] λa _ _=>tV 1 (.bool true) (λF C=>(rGe (t:=3) (m:=k) (n:=1) (x:=(.tmp 3)) (y:=(.const (iv 1))) (N' h.1))) (tR 6 [] λb _ _=>tE (.bool (decide (k<10))) λ_ B=>⟨by rw[N' (show k<10 by omega)],B⟩))
theorem YQ:Calls prog 23 #[iv k] w λe w'=>e=.returned (.bool (k==1))/\Bw w w':=by
 refine tIn [] func23 trivial (tR 10 [] λa _ _=>tE (.bool (k==1)) λ_ B=>⟨rfl,B⟩)
theorem Qp{b:Nat}:Calls prog 20 #[pt b 0] w λe w'=>e=.returned (.agg #[pt b 1,pt b 2,pt b 3])/\Bw w w':=by
 refine tIn [] func20 trivial (tR 18 [1,0,10,0,2,4,6,8,10,12,14,16,18,21,0,0] λa _ _=>tX λF C=>qE1 2 78 0 (a 0) #[pt b 1,pt b 2,pt b 3] λ_=>⟨rfl,CgQ.ab C⟩)
theorem YZ(h:j<3):j=0\/j=1\/j=2:=by omega
theorem I4(h:1<=k/\k<=9):(Instr.indexAt 76 (pt 0 0) (iv k)).run prog W=.ok (pt 0 (4*k.toNat)) W:=by
 have:=EQ k.toNat (by omega) W
 rwa [nT (by omega)]at this
theorem LWTab.at(h:LWTab w){k:Int}(c:1<=k/\k<=9){j:Nat}(a:j<3){b:Bool}(e:Cc j k=b):w.cell? ⟨0,4*k.toNat+1+j,none⟩=some (.bool b):=by
 have:=h.has k.toNat j (by omega) a
 rwa [nT (by omega),e]at this
theorem iz{x:Lac}(h:LacOk x)(hy:y.n=x.d.length)(i:LWTab w)(o:LBTab w):Calls prog 39 #[.agg #[iv x.k,iv x.n,iv x.a,iv x.p,S3.v y]] w λe w'=>e=.returned (.bool true)/\Bw w w':=by
 have f:=h.k;refine tIn [] func39 trivial (tR 8 [0,0] λc _ _=>tC1 0 (λF C=>Qp (b:=(c 0))) λ_=>tR 3 [] λa0 _ _=>GU 33 [(1,pt (c 0) 0),(5,.agg #[pt (c 0) 1,pt (c 0) 2,pt (c 0) 3]),(6,iv 0)] [true] [⟨(c 0),.cells #[iv x.k,iv x.n,iv x.a,iv x.p,S3.v y] 43,.z,false⟩] [] (λZ Y X l=>∃ (j:Nat),Z=3-j/\Y=[(1,pt (c 0) 0),(5,.agg #[pt (c 0) 1,pt (c 0) 2,pt (c 0) 3]),(6,iv (j:Int))]/\X=[⟨(c 0),.cells #[iv x.k,iv x.n,iv x.a,iv x.p,S3.v y] 43,.z,false⟩]/\l=[]/\j<=3) (3) ⟨0,rfl,rfl,rfl,rfl,by omega⟩ (λF=>trivial) ?_);rintro k _ _ _ ⟨j,rfl,rfl,rfl,rfl,hj⟩ _ _ _ J g;refine tR 5 [] λa1 _ _=>?_;by_cases h0:j<3
 .refine tI ((decide ((j:Int)<3))) true (N' (by omega)) ?_;rcases YZ (show j<3 by omega)with rfl|rfl|rfl
  .by_cases h1:Aw x.k=true
   .have hv:=h.n h1;refine tR 15 [22,0,2,0,4] λa2 _ _=>tT 3 (pt (0) (4*x.k.toNat)) (λ_=>(I4 f)) (tR 2 [8,10] λa3 _ _=>tV 6 (.bool true) (λF C=>(BW underlying4 rfl ((i.ab (CgQ.ab C)).at f (j:=0) (by decide) (show Aw x.k=true from h1)))) (tR 4 [14,16,18,20,0] λa4 _ _=>tT 11 (.bool false) (λ_=>(rLt (t:=3) (m:=x.n) (n:=0) (x:=(.tmp 20)) (y:=(.const (iv 0))) (G' (by omega)))) (tR 6 [24,26,28,30,0,32,34] λa5 _ _=>tV 18 (iv 4) (λF C=>(BW underlying3 rfl ((o.ab (CgQ.ab C)).sE 0 (by decide)))) (tR 4 [38,40,42] λa6 _ _=>tI ((decide (4<x.n))) false (G' (by omega)) (tR 6 [] λq _ _=>tB g (3-1) (by omega) [true] ⟨1,rfl,rfl,rfl,rfl,by omega⟩ (λF=>trivial))))))
   .refine tR 15 [22,0,2,0,4] λr _ _=>tT 3 (pt (0) (4*x.k.toNat)) (λ_=>(I4 f)) (tR 2 [8,10] λs _ _=>tV 6 (.bool false) (λF C=>(BW underlying4 rfl ((i.ab (CgQ.ab C)).at f (j:=0) (by decide) (show Aw x.k=false from(by simpa using h1))))) (tR 23 [14,16,18,20,22,24,26,28,30,32,34,36,38,40,42] λu _ _=>tB g (3-1) (by omega) [true] ⟨1,rfl,rfl,rfl,rfl,by omega⟩ (λF=>trivial)))
  .by_cases h1:AA x.k=true
   .have hv:=h.a h1;refine tR 15 [22,0,2,0,4] λA _ _=>tT 3 (pt (0) (4*x.k.toNat)) (λ_=>(I4 f)) (tR 2 [8,10] λD _ _=>tV 6 (.bool true) (λF C=>(BW underlying4 rfl ((i.ab (CgQ.ab C)).at f (j:=1) (by decide) (show AA x.k=true from h1)))) (tR 4 [14,16,18,20,0] λE _ _=>tT 11 (.bool false) (λ_=>(rLt (t:=3) (m:=x.a) (n:=0) (x:=(.tmp 20)) (y:=(.const (iv 0))) (G' (by omega)))) (tR 6 [24,26,28,30,0,32,34] λG _ _=>tV 18 (iv 1048576) (λF C=>(BW underlying3 rfl ((o.ab (CgQ.ab C)).sE 1 (by decide)))) (tR 4 [38,40,42] λH _ _=>tI ((decide (1048576<x.a))) false (G' (by omega)) (tR 6 [] λI _ _=>tB g (3-2) (by omega) [true] ⟨2,rfl,rfl,rfl,rfl,by omega⟩ (λF=>trivial))))))
   .refine tR 15 [22,0,2,0,4] λK _ _=>tT 3 (pt (0) (4*x.k.toNat)) (λ_=>(I4 f)) (tR 2 [8,10] λL _ _=>tV 6 (.bool false) (λF C=>(BW underlying4 rfl ((i.ab (CgQ.ab C)).at f (j:=1) (by decide) (show AA x.k=false from(by simpa using h1))))) (tR 23 [14,16,18,20,22,24,26,28,30,32,34,36,38,40,42] λM _ _=>tB g (3-2) (by omega) [true] ⟨2,rfl,rfl,rfl,rfl,by omega⟩ (λF=>trivial)))
  .by_cases h1:AC x.k=true
   .have hv:=h.p h1;refine tR 15 [22,0,2,0,4] λN _ _=>tT 3 (pt (0) (4*x.k.toNat)) (λ_=>(I4 f)) (tR 2 [8,10] λO _ _=>tV 6 (.bool true) (λF C=>(BW underlying4 rfl ((i.ab (CgQ.ab C)).at f (j:=2) (by decide) (show AC x.k=true from h1)))) (tR 4 [14,16,18,20,0] λP _ _=>tT 11 (.bool false) (λ_=>(rLt (t:=3) (m:=x.p) (n:=0) (x:=(.tmp 20)) (y:=(.const (iv 0))) (G' (by omega)))) (tR 6 [24,26,28,30,0,32,34] λQ _ _=>tV 18 (iv 100000) (λF C=>(BW underlying3 rfl ((o.ab (CgQ.ab C)).sE 2 (by decide)))) (tR 4 [38,40,42] λR _ _=>tI ((decide (100000<x.p))) false (G' (by omega)) (tR 6 [] λS _ _=>tB g (3-3) (by omega) [true] ⟨3,rfl,rfl,rfl,rfl,by omega⟩ (λF=>trivial))))))
   .refine tR 15 [22,0,2,0,4] λT _ _=>tT 3 (pt (0) (4*x.k.toNat)) (λ_=>(I4 f)) (tR 2 [8,10] λU _ _=>tV 6 (.bool false) (λF C=>(BW underlying4 rfl ((i.ab (CgQ.ab C)).at f (j:=2) (by decide) (show AC x.k=false from(by simpa using h1))))) (tR 23 [14,16,18,20,22,24,26,28,30,32,34,36,38,40,42] λV _ _=>tB g (3-3) (by omega) [true] ⟨3,rfl,rfl,rfl,rfl,by omega⟩ (λF=>trivial)))
 .refine tI ((decide ((j:Int)<3))) false (G' (by omega)) (tR 5 [] λW _ _=>tE (.bool true) λ_ B=>⟨rfl,B⟩)
theorem cT{x:Lac}(h:LacOk x)(hy:y.n=x.d.length)(o:LWTab w)(tb:LBTab w):Calls prog 40 #[.agg #[iv x.k,iv x.n,iv x.a,iv x.p,S3.v y]] w λe w'=>e=.returned (.bool true)/\Bw w w':=by
 have g:=h.k;refine tIn [] func40 trivial (tR 8 [0,0] λc _ _=>tC1 0 (λF C=>Qp (b:=(c 0))) λ_=>tR 3 [] λa1 _ _=>GU 34 [(1,pt (c 0) 0),(5,.agg #[pt (c 0) 1,pt (c 0) 2,pt (c 0) 3]),(6,iv 0)] [true] [⟨(c 0),.cells #[iv x.k,iv x.n,iv x.a,iv x.p,S3.v y] 43,.z,false⟩] [] (λkk Y X i=>∃ (j:Nat),kk=3-j/\Y=[(1,pt (c 0) 0),(5,.agg #[pt (c 0) 1,pt (c 0) 2,pt (c 0) 3]),(6,iv (j:Int))]/\X=[⟨(c 0),.cells #[iv x.k,iv x.n,iv x.a,iv x.p,S3.v y] 43,.z,false⟩]/\i=[]/\j<=3) (3) ⟨0,rfl,rfl,rfl,rfl,by omega⟩ (λF=>trivial) ?_);rintro k _ _ _ ⟨j,rfl,rfl,rfl,rfl,hj⟩ _ _ _ J f;refine tR 5 [] λa2 _ _=>?_;by_cases h0:j<3
 .refine tI ((decide ((j:Int)<3))) true (N' (by omega)) ?_;rcases YZ (show j<3 by omega)with rfl|rfl|rfl
  .by_cases h1:Aw x.k=true
   .by_cases h2:x.n=0
    .refine tR 15 [0] λa3 _ _=>tV 3 (.bool false) (λF C=>(EP (t:=3) (m:=x.n) (n:=0) (x:=(.tmp 12)) (y:=(.const (iv 0))) (by simpa using h2))) (tR 18 [] λa4 _ _=>tB f (3-1) (by omega) [true] ⟨1,rfl,rfl,rfl,rfl,by omega⟩ (λF=>trivial))
    .refine tR 15 [0] λa5 _ _=>tV 3 (.bool true) (λF C=>(EP (t:=3) (m:=x.n) (n:=0) (x:=(.tmp 12)) (y:=(.const (iv 0))) (by simpa using h2))) (tR 4 [0] λa6 _ _=>tV 8 (pt (0) (4*x.k.toNat)) (λF C=>(I4 g)) (tR 2 [] λa7 _ _=>tV 11 (.bool true) (λF C=>(BW underlying4 rfl ((o.ab (CgQ.ab C)).at g (j:=0) (by decide) (show Aw x.k=true from h1)))) (tR 10 [] λq _ _=>tB f (3-1) (by omega) [true] ⟨1,rfl,rfl,rfl,rfl,by omega⟩ (λF=>trivial))))
   .have h2:x.n=0:=h.n0 (by simpa using h1);refine tR 15 [0] λr _ _=>tV 3 (.bool false) (λF C=>(EP (t:=3) (m:=x.n) (n:=0) (x:=(.tmp 12)) (y:=(.const (iv 0))) (by simpa using h2))) (tR 18 [] λs _ _=>tB f (3-1) (by omega) [true] ⟨1,rfl,rfl,rfl,rfl,by omega⟩ (λF=>trivial))
  .by_cases h1:AA x.k=true
   .by_cases h2:x.a=0
    .refine tR 15 [0] λu _ _=>tV 3 (.bool false) (λF C=>(EP (t:=3) (m:=x.a) (n:=0) (x:=(.tmp 12)) (y:=(.const (iv 0))) (by simpa using h2))) (tR 18 [] λA _ _=>tB f (3-2) (by omega) [true] ⟨2,rfl,rfl,rfl,rfl,by omega⟩ (λF=>trivial))
    .refine tR 15 [0] λD _ _=>tV 3 (.bool true) (λF C=>(EP (t:=3) (m:=x.a) (n:=0) (x:=(.tmp 12)) (y:=(.const (iv 0))) (by simpa using h2))) (tR 4 [0] λE _ _=>tV 8 (pt (0) (4*x.k.toNat)) (λF C=>(I4 g)) (tR 2 [] λG _ _=>tV 11 (.bool true) (λF C=>(BW underlying4 rfl ((o.ab (CgQ.ab C)).at g (j:=1) (by decide) (show AA x.k=true from h1)))) (tR 10 [] λH _ _=>tB f (3-2) (by omega) [true] ⟨2,rfl,rfl,rfl,rfl,by omega⟩ (λF=>trivial))))
   .have h2:x.a=0:=h.a0 (by simpa using h1);refine tR 15 [0] λI _ _=>tV 3 (.bool false) (λF C=>(EP (t:=3) (m:=x.a) (n:=0) (x:=(.tmp 12)) (y:=(.const (iv 0))) (by simpa using h2))) (tR 18 [] λK _ _=>tB f (3-2) (by omega) [true] ⟨2,rfl,rfl,rfl,rfl,by omega⟩ (λF=>trivial))
  .by_cases h1:AC x.k=true
   .by_cases h2:x.p=0
    .refine tR 15 [0] λL _ _=>tV 3 (.bool false) (λF C=>(EP (t:=3) (m:=x.p) (n:=0) (x:=(.tmp 12)) (y:=(.const (iv 0))) (by simpa using h2))) (tR 18 [] λM _ _=>tB f (3-3) (by omega) [true] ⟨3,rfl,rfl,rfl,rfl,by omega⟩ (λF=>trivial))
    .refine tR 15 [0] λN _ _=>tV 3 (.bool true) (λF C=>(EP (t:=3) (m:=x.p) (n:=0) (x:=(.tmp 12)) (y:=(.const (iv 0))) (by simpa using h2))) (tR 4 [0] λO _ _=>tV 8 (pt (0) (4*x.k.toNat)) (λF C=>(I4 g)) (tR 2 [] λP _ _=>tV 11 (.bool true) (λF C=>(BW underlying4 rfl ((o.ab (CgQ.ab C)).at g (j:=2) (by decide) (show AC x.k=true from h1)))) (tR 10 [] λQ _ _=>tB f (3-3) (by omega) [true] ⟨3,rfl,rfl,rfl,rfl,by omega⟩ (λF=>trivial))))
   .have h2:x.p=0:=h.p0 (by simpa using h1);refine tR 15 [0] λR _ _=>tV 3 (.bool false) (λF C=>(EP (t:=3) (m:=x.p) (n:=0) (x:=(.tmp 12)) (y:=(.const (iv 0))) (by simpa using h2))) (tR 18 [] λS _ _=>tB f (3-3) (by omega) [true] ⟨3,rfl,rfl,rfl,rfl,by omega⟩ (λF=>trivial))
 .refine tI ((decide ((j:Int)<3))) false (G' (by omega)) (tR 6 [0] λT _ _=>?_);by_cases Z:y.n=0
  .refine tV 3 (.bool true) (λF C=>(EO (t:=3) (m:=(y.n:Int)) (n:=0) (x:=(.tmp 27)) (y:=(.const (iv 0))) (by simp;omega))) (tR 7 [] λU _ _=>tE (.bool true) λ_ B=>⟨rfl,B⟩)
  .refine tV 3 (.bool false) (λF C=>(EO (t:=3) (m:=(y.n:Int)) (n:=0) (x:=(.tmp 27)) (y:=(.const (iv 0))) (by simp;omega))) (tR 3 [0] λV _ _=>tC1 7 (λF C=>YQ (k:=x.k)) λ_=>tR 3 [] λW _ _=>?_);have l:x.k=1:=og λe=>Z (by rw[hy,h.d0 e];rfl);exact tE (.bool (x.k==1)) λ_ B=>⟨by rw[l];rfl,B⟩
theorem Ll{x:Lac}(h:LacOk x)(b:y.n=x.d.length)(f:LWTab w)(c:LBTab w):Calls prog 18 #[.agg #[iv x.k,iv x.n,iv x.a,iv x.p,S3.v y]] w λe w'=>e=.returned (iv 0)/\Bw w w':=by
 have o:=h.d;refine tIn [] func18 trivial (tR 10 [0,0,0] λg _ _=>tC1 2 (λF C=>YX h.k) λ_=>tR 8 [0] λi _ _=>tC1 1 (λF C=>iz h b (f.ab (CgQ.ab C)) (c.ab (CgQ.ab C))) λ_=>tR 12 [0] λj _ _=>tI ((decide (2000<(y.n:Int)))) false (G' (by omega)) (tR 5 [0] λl _ _=>tC1 1 (λF C=>cT h b (f.ab (CgQ.ab C)) (c.ab (CgQ.ab C))) λ_=>tR 8 [] λm _ _=>tE (iv 0) λ_ B=>⟨rfl,B⟩))
end
end Go.Proofs.YtdjfdfpkkenjbabGreatDoor
