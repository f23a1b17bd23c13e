/- Part 6 of the walk. -/
import Derived.Laws.OwnMore
import Derived.Maps.AppendAt
import Derived.StillTailTactics
import Derived.Test.YtdjfdfpkkenjbacGreatDoorZ5
import Derived.Test.YtdjfdfpkkenjbacGreatDoorZ4
set_option maxRecDepth 100000
set_option maxHeartbeats 4000000
open Go.Proofs.Tryz
set_option linter.unusedVariables false
namespace Go.Proofs.YtdjfdfpkkenjbacGreatDoor
section
open Go.RowKit
section
theorem Xz(b d:Value)(key a:List Int)(x:Int)(c:Nat)(j:x=(c:Int))(w:World)(g:Sl w b key)(h:Sl w d a)(lk:key.length=32)(k:a.length=12)(f:c<=1073741824)(i:Dq w) :
  Calls prog 106 #[b,.int .i64 x,d] w λe w'=>∃ v',e=.returned (.tuple #[v',.int .i64 0])/\Got w w' v' (CO (Cb key (BitVec.ofNat 32 c) a)):=by
 subst j;exact X0 b d key a c w g h lk k f i
theorem P8(u v D E:Value)(key b a s:List Int)(w:World)(y:Sl w u key)(z:Sl w v b)(x:Sl w D a)(A:Sl w E s)(lk:key.length=32)(B:b.length=12)(M:a.length<=256)(N:s.length<=2000)(L:Dq w) :
  Calls prog 67 #[u,v,D,E] w λe w'=>∃ v',e=.returned (.tuple #[v',.int .i64 0])/\Sl w' v' (Ej key b a s)/\Bw w w':=by
 have o:Hid (Ej key b a s=WO ((CO (Cb key (BitVec.ofNat 32 0) b)).take 32) (Gx a s)):=rfl;have g:(Gx a s).length<=4000:=by rw[I8];have:=Ia a.length;have:=Ia s.length;omega
 go_enter func67,ntmps67
 go_wp2_with fail
 refine(Xz u v key b 0 0 rfl w y z lk B (by omega) L).mono ?_;rintro e T ⟨S,rfl,p⟩;have j:=p.sl;have k:=p.sc;clear p;have d:=EX (Cb key (BitVec.ofNat 32 0) b);generalize CO (Cb key (BitVec.ofNat 32 0) b)=bs at o j d;obtain⟨G,I,rfl⟩:=j.shape;rw[d]at j ⊢
 obtain⟨F,H,c,C⟩:=j.ov 32 (by omega);have J:∀ W,(Instr.slice 27 (.slice G 64 I) none (some (.int .i64 32)) none).run prog W=.ok (.slice F 32 H) W:=c;have lt:(bs.take 32).length=32:=by rw[j'];omega
 generalize bs.take 32=K at o C lt;have q:=x.af k;have t:=A.af k;clear c j d;have h:a.length<=10000:=by omega
 have i:s.length<=10000:=by omega
 have l:Hid (a.length<=10000):=h;have n:Hid (s.length<=10000):=i;have m:Hid ((Gx a s).length<=4000):=g;clear M N h i g y z x A lk B;go_wp2_with fail
 go_region_with (first
  | (go_at_call 108;refine(YF _ _ a s _ (q.af ((Below.refl _ _).drew)) (t.af ((Below.refl _ _).drew)) l.out n.out).mono ?_;rintro e Q ⟨R,rfl,O,f⟩)
  | (go_at_call 107;refine(ja _ _ K _ _ (C.af ((Below.refl _ _).drew.trans f)) O lt m.out).mono ?_;rintro e U ⟨P,rfl,s3,r⟩))
 all_goals
  go_wp2
  go_ret2
  refine⟨P,rfl,?_,?_⟩
  .rw[o.out];exact s3
  .have b2:Bw w Q:=k.trans (((Below.refl _ _).drew.trans f).mono k.size);exact b2.trans (r.mono b2.size)
theorem QC(c f b:Value)(key a d:List Int)(w:World)(h:Sl w c key)(i:Sl w f a)(g:Sl w b d)(lk:key.length=32)(l:a.length=12)(k:d.length<=2000)(j:Dq w) :
  Calls prog 66 #[c,.int .i64 1,f,b] w λe w'=>∃ v',e=.returned (.tuple #[v',.int .i64 0])/\w'.ownsRow w.heap.size 5 1 v' (D8 key a d).length ((D8 key a d).map (Value.int .u8))/\Bw w w' :=
 dq c f b key a d 1 w h i g lk l (by omega) k j
def NwV(B:Nat)(v:Value):Prop:=∀ a n c,v=.slice (some a) n c->B<=a.block
variable{a key la lb nonce p:List Int}{e n:Nat}{v:Value}{w:World}{xs:List Value}
theorem NwV.own{B k:Nat}(h:w.ownsRow B e k v n xs):NwV B v:=λa m c e=>(h.lt a.block (by rw[e];rfl)).1
theorem Tf{b:World}{a:Nat}(h:w.ownsRow a e 1 v n xs)(c:Bw w b):b.ownsRow a e 1 v n xs :=
 Fp h λk d=>c.block k (h.lt k d).2
theorem Jt(h:FE key nonce a=true):key.length=32/\nonce.length=12/\a.length<=256:=by
 unfold FE at h;simp at h;omega
theorem ZQ(o q v K:Value)(key b a p:List Int)(w:World)(i:Sl w o key)(s:Sl w q b)(A:Sl w v a)(t:Sl w K p)(E:FE key b a=true)(U:p.length<=2000)(D:Dq w) :
  Calls prog 41 #[o,q,v,K] w λe w'=>∃ v',e=.returned (.tuple #[v',.int .i64 0])/\Sl w' v' (D7 key b a p)/\NwV w.heap.size v'/\Bw w w':=by
 obtain⟨lk,F,S⟩:=Jt E;have j:=D.pos;have y:Hid (D7 key b a p=D8 key b p++Ej key b a (D8 key b p)):=rfl;have n:=CI key b p;have g:∀ x∈D8 key b p,0<=x/\x<256:=Jy _ t.byte;have Q:¬ (2000:Int)<(p.length:Int):=by omega
 obtain⟨ap,W,rfl⟩:=t.shape;go_enter func41,ntmps41
 go_wp2_with fail
 refine(GX o q v key b a w i s A).mono ?_;rintro e r ⟨rfl,rfl⟩;rw[E];go_wp2_with fail
 refine(QC o q _ key b p r i s t lk F U D).mono ?_;rintro e M ⟨L,rfl,u,d⟩;generalize D8 key b p=X at y n g u;have H:Sl M L X:=Sl.ni u (by omega) g;go_wp2_with fail
 refine(P8 o q v L key b a X M (i.af d) (s.af d) (A.af d) H lk F S (by omega) (D.af j d)).mono ?_;rintro e V ⟨Y,rfl,I,z⟩;have G:=Tf u z;have C:=G.lt;have f:Bw r V:=d.trans (z.mono d.size);have m:=IU key b a X;have l:=Mo key b a X;generalize Ej key b a X=T at y I m l;have P:X.length<=2000:=by omega
 clear n u H d z i s A t;go_wp2_with (at_builtin;refine Aa _ rfl _ _ 27 rfl r.heap.size 5 underlying27 Av _ _ rfl rfl X T G I (by omega) f.size ?_)
 intro J N c B;replace c:N.ownsRow r.heap.size 5 1 J (X++T).length ((X++T).map (Value.int .u8)):=by simpa[m]using c
 have O:Bw r N:=f.grown B f.size (λk i=>(C k i).1);go_wp2
 go_ret2
 refine⟨J,rfl,?_,.own c,O⟩;rw[y.out];refine Sl.ni c (by rw[E'];omega) ?_;intro x R;rcases Q'.1 R with h|h
 .exact g x h
 .exact l x h
def dif(la lb:List Int):Nat->Int
 | 0=>0
 | k+1=>bits .or .u8 (dif la lb k) (bits .xor .u8 (la.getD k 0) (lb.getD k 0))
theorem lx{a b:Nat}:a ||| b=0↔a=0/\b=0:=by
 constructor
 .intro h;have c:∀ i,(a ||| b).testBit i=false:=by intro i;rw[h];simp
  constructor
  .apply pJ;intro i;have:=c i;rw[Nat.testBit_or]at this;simp at this;simp[this.1]
  .apply pJ;intro i;have:=c i;rw[Nat.testBit_or]at this;simp at this;simp[this.2]
 .rintro⟨rfl,rfl⟩;rfl
theorem kX{a b:Nat}:a ^^^ b=0↔a=b:=by
 constructor
 .intro h;have c:∀ i,(a ^^^ b).testBit i=false:=by intro i;rw[h];simp
  apply pJ;intro i;have:=c i;rw[Nat.testBit_xor]at this;simpa using this
 .rintro rfl;simp
theorem XQ(q:∀ x∈la,0<=x/\x<256)(r:∀ x∈lb,0<=x/\x<256)(k:Nat) :
  0<=dif la lb k/\dif la lb k<256/\(dif la lb k=0↔∀ i,i<k->la.getD i 0=lb.getD i 0):=by
 induction k with
 | zero=>simp[dif]
 | succ k ih =>
  obtain⟨l,m,o⟩:=ih;have d:=Al q k;have e:=Al r k;have f:=u8_xor _ _ d.1 d.2 e.1 e.2;have b:(la.getD k 0).toNat ^^^ (lb.getD k 0).toNat<256:=pa (n:=8) (by omega) (by omega);have g:=u8_or (dif la lb k) (((la.getD k 0).toNat ^^^ (lb.getD k 0).toNat:Nat):Int) l m (by omega) (by omega);have a:dif la lb (k+1)=(((dif la lb k).toNat ||| ((la.getD k 0).toNat ^^^ (lb.getD k 0).toNat):Nat):Int):=by
   show bits .or .u8 (dif la lb k) (bits .xor .u8 (la.getD k 0) (lb.getD k 0))=_;rw[f,g];simp
  have c:(dif la lb k).toNat ||| ((la.getD k 0).toNat ^^^ (lb.getD k 0).toNat)<256:=Nat.or_lt_two_pow (n:=8) (by omega) b;refine⟨by rw[a];omega,by rw[a];omega,?_⟩;have j:dif la lb (k+1)=0↔dif la lb k=0/\la.getD k 0=lb.getD k 0:=by
   rw[a];have:=@lx (dif la lb k).toNat ((la.getD k 0).toNat ^^^ (lb.getD k 0).toNat);have p:=@kX (la.getD k 0).toNat (lb.getD k 0).toNat;rw[p]at this
   constructor
   .intro h;have:=this.1 (by omega);omega
   .intro h;have:=this.2 (by omega);omega
  rw[j,o];constructor
  .intro h i s;rcases mZ i k with h'|h'
   .exact h.1 i h'
   .obtain rfl:i=k:=by omega
    exact h.2
  .intro h;exact⟨λi s=>h i (by omega),h k (by omega)⟩
theorem co(c:∀ x∈la,0<=x/\x<256)(d:∀ x∈lb,0<=x/\x<256)(e:la.length=lb.length):(dif la lb lb.length==0)=decide (la=lb):=by
 rw[Bool.eq_iff_iff,decide_eq_true_iff,beq_iff_eq,(XQ c d _).2.2];constructor
 .intro h;apply oG e;intro i b a;have:=h i a
  rwa [AO b,AO a]at this
 .rintro rfl _ _;rfl
theorem IR(r s:Value)(f c:List Int)(w:World)(v:Sl w r f)(x:Sl w s c) :
  Calls prog 182 #[r,s] w λe w'=>e=.returned (.bool (decide (f=c)))/\∃ n,w'=w.drewN n:=by
 obtain⟨⟨a,t,rfl,C,E,u⟩,z,g⟩:=v;obtain⟨⟨b,q,rfl,y,B,m⟩,A,h⟩:=x;by_cases l:f.length=c.length
 .rcases u with rfl|⟨ba,oa,rfl,_,hca⟩
  .obtain rfl:c=[]:=Y' (by simpa using l.symm);go_enter func182,ntmps182
   go_wp2
   refine wp_loop_rounds 1 ?_;rw[rounds_succ];go_wp2
   go_ret;exact⟨rfl,0,rfl⟩
  .rcases m with rfl|⟨bb,ob,rfl,_,hcb⟩
   .obtain rfl:f=[]:=Y' (by simpa using l);go_enter func182,ntmps182
    go_wp2
    refine wp_loop_rounds 1 ?_;rw[rounds_succ];go_wp2
    go_ret;exact⟨rfl,0,rfl⟩
   .have HD:Hid ((dif f c c.length==0)=decide (f=c)):=co g h l;go_enter func182,ntmps182
    go_wp2
    go_loopw [5,14] (λd i wr=>∃ k n:Nat,k<=c.length/\i=.int .i64 k/\d=.int .u8 (dif f c k)/\wr=w.drewN n) (λ_ i _=>c.length-(intOf i).toNat)
    case atStart=>exact⟨0,0,mL _,rfl,rfl,rfl⟩
    case round =>
     obtain⟨k,n,D,rfl,rfl,rfl⟩:=hrel;by_cases j:k<c.length
     .have hx:=hca k (by omega);have F:=hcb k j;clear hca hcb g h;have p:k<f.length:=by omega
      go_wp2
      go_quiet (fail)
      go_wp2
      go_roundw
      case rel=>exact⟨k+1,_,by omega,by go_num,by simp only[dif,AO p,AO j],rfl⟩
      case measure=>simp[intOf];omega
     .obtain rfl:k=c.length:=by omega
      clear hca hcb;go_wp2
      go_ret;exact⟨Aw HD.out,n,rfl⟩
 .have hne:((f.length:Int)==(c.length:Int))=false:=by simp;omega
  have o:decide (f=c)=false:=G' (λe=>l (by rw[e]));go_enter func182,ntmps182
  go_wp2
  go_ret;exact⟨Aw o.symm,0,rfl⟩
def Eg(key nonce a d:List Int):Int :=
 if FE key nonce a=true/\d.length<=2016 then(if d.length<16 then 13 else if Ej key nonce a (d.take (d.length-16))=d.drop (d.length-16)then 0 else 6)else 1
def LS(key nonce a d:List Int):List Int:=if Eg key nonce a d=0 then D8 key nonce (d.take (d.length-16))else[]
theorem dD(g i f o:Value)(key b a d:List Int)(w:World)(m:Sl w g key)(n:Sl w i b)(k:Sl w f a)(l:Sl w o d)(j:FE key b a=false\/2016<d.length) :
  Calls prog 204 #[g,i,f,o] w λe w'=>e=.returned (.tuple #[.slice none 0 0,.int .i64 1])/\w'=w:=by
 have r:=l.len;obtain⟨ap,q,rfl⟩:=l.shape;by_cases c:FE key b a=true
 .have hpl:(2016:Int)<(d.length:Int):=by
   rcases j with h|h
   .rw[c]at h;cases h
   .omega
  go_enter func204,ntmps204
  go_wp2_with fail
  refine(GX g i f key b a w m n k).mono ?_;rintro e p ⟨rfl,rfl⟩;rw[c];go_wp2
  go_ret2
  exact⟨rfl,rfl⟩
 .rw[Bool.not_eq_true]at c
  go_enter func204,ntmps204
  go_wp2_with fail
  refine(GX g i f key b a w m n k).mono ?_;rintro e p ⟨rfl,rfl⟩;rw[c];go_wp2
  go_ret2
  exact⟨rfl,rfl⟩
theorem Tb(f g c h:Value)(key b a d:List Int)(w:World)(l:Sl w f key)(m:Sl w g b)(i:Sl w c a)(j:Sl w h d)(k:FE key b a=true)(p:d.length<16) :
  Calls prog 204 #[f,g,c,h] w λe w'=>e=.returned (.tuple #[.slice none 0 0,.int .i64 13])/\w'=w:=by
 obtain⟨ap,o,rfl⟩:=j.shape;have n:(d.length:Int)<16:=by omega
 go_enter func204,ntmps204
 go_wp2_with fail
 refine(GX f g c key b a w l m i).mono ?_;rintro e q ⟨rfl,rfl⟩;rw[k];go_wp2
 go_ret2
 exact⟨rfl,rfl⟩
theorem Zn(r s q H:Value)(key b a d:List Int)(w:World)(l:Sl w r key)(n:Sl w s b)(k:Sl w q a)(f:Sl w H d)(E:FE key b a=true)(m:Nat)(F:d.length=m+16)(W:m<=2000)(o:Dq w)(G:Ej key b a (d.take m)≠d.drop m) :
  Calls prog 204 #[r,s,q,H] w λe w'=>e=.returned (.tuple #[.slice none 0 0,.int .i64 6])/\Bw w w':=by
 obtain⟨lk,N,M⟩:=Jt E;have h:=o.pos;have i:=f.byte;obtain⟨ad,V,rfl⟩:=f.shape;rw[F]at f ⊢
 obtain⟨R,T,A,p⟩:=f.ov m (by omega);obtain⟨S,U,g,j⟩:=f.from m (by omega);rw[Nat.add_sub_cancel_left]at g j
 have B:(d.take m).length=m:=by rw[j'];omega
 have Q:∀ x∈d.take m,0<=x/\x<256:=λx K=>i x (mx K);have y:Hid (Ej key b a (d.take m)≠d.drop m):=G;clear G;generalize d.take m=D at p B Q y ⊢;generalize d.drop m=L at j y;have v:Hid (D.length=m):=B;clear f F i B;go_enter func204,ntmps204
 go_wp2_with fail
 refine(GX r s q key b a w l n k).mono ?_;rintro e t ⟨rfl,rfl⟩;rw[E];go_wp2_with fail
 go_quiet (fail)
 have c:Bw t (t.drewN nq):=Aq (Below.refl _ _) nq;generalize t.drewN nq=w1 at c ⊢;replace l:=l.af c;replace n:=n.af c;replace k:=k.af c;replace p:=p.af c;replace j:=j.af c;replace o:=o.af h c;clear A g;go_wp2_with fail
 refine(P8 r s q _ key b a D w1 l n k p lk N M (by have:=v.out;omega) o).mono ?_;rintro e u ⟨P,rfl,O,z⟩;go_wp2_with fail
 refine(IR P _ (Ej key b a D) L u O (j.af z)).mono ?_;rintro e X ⟨rfl,C,rfl⟩;have I:Bw u (u.drewN C):=Aq (Below.refl _ _) C;have J:Bw t (u.drewN C):=c.trans ((z.trans (I.mono z.size)).mono c.size);rw[G' y.out];go_wp2
 go_ret2
 exact⟨rfl,J⟩
theorem dE(B C F S:Value)(key b a d:List Int)(w:World)(g:Sl w B key)(h:Sl w C b)(u:Sl w F a)(p:Sl w S d)(N:FE key b a=true)(m:Nat)(O:d.length=m+16)(hl:m<=2000)(j:Dq w)(P:Ej key b a (d.take m)=d.drop m) :
  Calls prog 204 #[B,C,F,S] w λe w'=>∃ v',e=.returned (.tuple #[v',.int .i64 0])/\Sl w' v' (D8 key b (d.take m))/\NwV w.heap.size v'/\Bw w w':=by
 obtain⟨lk,Q,la⟩:=Jt N;have i:=j.pos;have z:=p.byte;obtain⟨ad,cd,rfl⟩:=p.shape;rw[O]at p ⊢
 obtain⟨a1,c1,I,k⟩:=p.ov m (by omega);obtain⟨a2,c2,v,q⟩:=p.from m (by omega);rw[Nat.add_sub_cancel_left]at v q
 have J:(d.take m).length=m:=by rw[j'];omega
 have V:∀ x∈d.take m,0<=x/\x<256:=λx Y=>z x (mx Y);have G:Hid (Ej key b a (d.take m)=d.drop m):=P;clear P;generalize d.take m=D at k J V G ⊢;generalize d.drop m=L at q G;have l:Hid (D.length=m):=J;clear p O z J;go_enter func204,ntmps204
 go_wp2_with fail
 refine(GX B C F key b a w g h u).mono ?_;rintro e r ⟨rfl,rfl⟩;rw[N];go_wp2_with fail
 go_quiet (fail)
 have f:Bw r (r.drewN nq):=Aq (Below.refl _ _) nq;generalize r.drewN nq=w1 at f ⊢;replace g:=g.af f;replace h:=h.af f;replace u:=u.af f;replace k:=k.af f;replace q:=q.af f;replace j:=j.af i f;clear I v;go_wp2_with fail
 refine(P8 B C F _ key b a D w1 g h u k lk Q la (by have:=l.out;omega) j).mono ?_;rintro e s ⟨vt,rfl,R,o⟩;go_wp2_with fail
 refine(IR vt _ (Ej key b a D) L s R (q.af o)).mono ?_;rintro e T ⟨rfl,A,rfl⟩;have H:Bw s (s.drewN A):=Aq (Below.refl _ _) A;have E:Bw r (s.drewN A):=f.trans ((o.trans (H.mono o.size)).mono f.size);rw[P' G.out];have t:Bw w1 (s.drewN A):=o.trans (H.mono o.size);replace g:=g.af t;replace h:=h.af t;replace k:=k.af t;replace j:=j.af (Z' i f.size) t;have Z:=CI key b D;have y:∀ x∈D8 key b D,0<=x/\x<256:=Jy _ V;clear q R u H o;generalize s.drewN A=T at g h k j E t ⊢;go_wp2_with fail
 refine(QC B C _ key b D T g h k lk Q (by have:=l.out;omega) j).mono ?_;rintro e U ⟨M,rfl,K,W⟩;have s4:Sl U M (D8 key b D):=Sl.ni K (by have:=l.out;omega) y;have X:Bw r U:=E.trans (W.mono E.size);have n4:NwV r.heap.size M:=λa n c e=>mg E.size (NwV.own K a n c e);clear K y;go_wp2
 go_ret2
 exact⟨M,rfl,s4,n4,X⟩
theorem Wj(i j f g:Value)(key c a d:List Int)(w:World)(m:Sl w i key)(n:Sl w j c)(k:Sl w f a)(l:Sl w g d)(o:Dq w) :
  Calls prog 204 #[i,j,f,g] w λe w'=>∃ v',e=.returned (.tuple #[v',.int .i64 (Eg key c a d)])/\Sl w' v' (LS key c a d)/\NwV w.heap.size v'/\Bw w w':=by
 unfold LS;by_cases h:FE key c a=true/\d.length<=2016
 .by_cases h16:d.length<16
  .have hE:Eg key c a d=13:=by unfold Eg;rw[if_pos h,if_pos h16]
   rw[hE,if_neg (by omega)];refine(Tb i j f g key c a d w m n k l h.1 h16).mono ?_;rintro e p ⟨rfl,rfl⟩;exact⟨_,rfl,Sl.nil _ _,λ_ _ _ e=>(by cases e),Below.refl _ _⟩
  .by_cases hq:Ej key c a (d.take (d.length-16))=d.drop (d.length-16)
   .have hE:Eg key c a d=0:=by unfold Eg;rw[if_pos h,if_neg h16,if_pos hq]
    rw[hE,if_pos rfl];exact dE i j f g key c a d w m n k l h.1 (d.length-16) (by omega) (by omega) o hq
   .have hE:Eg key c a d=6:=by unfold Eg;rw[if_pos h,if_neg h16,if_neg hq]
    rw[hE,if_neg (by omega)];refine(Zn i j f g key c a d w m n k l h.1 (d.length-16) (by omega) (by omega) o hq).mono ?_;rintro e p ⟨rfl,b⟩;exact⟨_,rfl,Sl.nil _ _,λ_ _ _ e=>(by cases e),b⟩
 .have hE:Eg key c a d=1:=by unfold Eg;rw[if_neg h]
  rw[hE,if_neg (by omega)];refine(dD i j f g key c a d w m n k l ?_).mono ?_
  .by_cases hf:FE key c a=true
   .exact .inr (by have:¬ d.length<=2016:=λq=>h ⟨hf,q⟩;omega)
   .exact .inl (by simpa using hf)
  .rintro e p ⟨rfl,rfl⟩;exact⟨_,rfl,Sl.nil _ _,λ_ _ _ e=>(by cases e),Below.refl _ _⟩
theorem Mj(key b a p:List Int):(D7 key b a p).take p.length=D8 key b p:=by
 rw[D7,mA (by rw[CI];omega),mr (by rw[CI];omega)]
theorem T6(key b a p:List Int):(D7 key b a p).drop p.length=Ej key b a (D8 key b p):=by
 have h:=CI key b p;rw[D7,<- h,List.drop_left]
theorem TB(key a:List Int){p:List Int}(b:∀ x∈p,0<=x/\x<256):D8 key a (D8 key a p)=p:=VX _ b
theorem TA(key a:List Int){p:List Int}(b:∀ x∈p,0<=x/\x<256):∀ x∈D8 key a p,0<=x/\x<256:=Jy _ b
theorem T5(key b a:List Int){p:List Int}(c:∀ x∈p,0<=x/\x<256):∀ x∈D7 key b a p,0<=x/\x<256:=by
 intro x d;rcases Q'.1 d with h|h
 .exact TA key b c x h
 .exact Mo _ _ _ _ x h
theorem Uq(lk:key.length=32)(c:nonce.length=12)(b:a.length<=256):FE key nonce a=true:=by
 unfold FE;simp;omega
theorem Kc(b:FE key nonce a=true)(c:p.length<=2000):Eg key nonce a (D7 key nonce a p)=0:=by
 have h:=FR key nonce a p;unfold Eg;rw[if_pos ⟨b,by omega⟩,if_neg (by omega),if_pos];rw[h,Nat.add_sub_cancel,Mj,T6]
theorem Ta(b:FE key nonce a=true)(d:p.length<=2000)(c:∀ x∈p,0<=x/\x<256):LS key nonce a (D7 key nonce a p)=p:=by
 have h:=FR key nonce a p;unfold LS;rw[if_pos (Kc b d),h,Nat.add_sub_cancel,Mj,TB key nonce c]
end
end
section
def Gd(key:List Int)(n:Int)(p:List Int):List Int:=Ad n++D7 key (Ce (Ad n)) (Ad n) p
theorem Dn(key:List Int)(n:Int)(p:List Int):(Gd key n p).length=p.length+20:=by
 rw[Gd,E',BF,FR];omega
theorem J8(key:List Int)(n:Int)(p:List Int):(Gd key n p).take 4=Ad n:=rfl
theorem Ow(key:List Int)(n:Int)(p:List Int):(Gd key n p).drop 4=D7 key (Ce (Ad n)) (Ad n) p:=rfl
theorem Ww(key:List Int)(n:Int){p:List Int}(a:∀ x∈p,0<=x/\x<256):∀ x∈Gd key n p,0<=x/\x<256:=by
 intro x b;rcases Q'.1 b with h|h
 .exact AT n x h
 .exact T5 _ _ _ a x h
def GE(key:List Int)(s t:Int)(l:List Bool)(r:List Int):Int :=
 if ¬ OkC key s t l then 5 else if 2020<r.length then 1 else if r.length<20 then 13 else if 1073741824<=IF (r.take 4)then 2 else if Zg t l (IF (r.take 4))=true then 7
 else Eg key (Ce (r.take 4)) (r.take 4) (r.drop 4)
def IX(key:List Int)(r:List Int):List Int:=LS key (Ce (r.take 4)) (r.take 4) (r.drop 4)
end
section
open Go.RowKit
section
structure Bt(w:World)(g:Nat)(c r u:Int):Prop where
 lt:g<w.heap.size
 row:w.heap[g]?=some (.cells (tkA c r u) 32)
theorem Bt.made(w:World)(c r u:Int):Bt (w.alloc (.cells (tkA c r u) 32)) w.heap.size c r u:=⟨by simp,heap_alloc_new _ _⟩
variable{base e g n:Nat}{c k r s u v:Int}{key:List Int}{ty:TypeId}{w w':World}{xs:List Value}
theorem Bt.af(h:Bt w g c r u)(a:Bw w w'):Bt w' g c r u :=
 ⟨Z' h.lt a.size,(a.block g h.lt).trans h.row⟩
theorem Jd(c r u:Int):(prog.info? 32).map (·.size)=some (tkA c r u).size:=by show _=some 3;kernel_rfl
theorem JM{a:Nat × Nat}(h:w.heap[g]?=some (.cells (tkA c r u) ty a)) :
  w.cell? ⟨g,0,none⟩=some (.int .i64 c)/\w.cell? ⟨g,1,none⟩=some (.int .i64 r)/\w.cell? ⟨g,2,none⟩=some (.int .i64 u) :=
 ⟨cell_of_row _ _ 0 _ _ _ h,cell_of_row _ _ 1 _ _ _ h,cell_of_row _ _ 2 _ _ _ h⟩
theorem Jx(c r u:Int)(w:World) :
  Calls prog 18 #[.agg (tkA c r u)] w λe w'=>e=.returned (.bool (decide (Dt c r u)))/\Bw w w':=by
 have b:Bw w (w.alloc (.cells (tkA c r u) 32)):=(Below.refl _ _).alloc (A' _) _;have i:=Bt.made w c r u;generalize k:w.alloc (.cells (tkA c r u) 32)=W at b i;obtain⟨l,m,n⟩:=JM i.row;clear i;go_enter func18,ntmps18
 go_wp2_with fail
 clear k;refine(Fw c 7 _).mono ?_;rintro e j ⟨rfl,rfl⟩;by_cases d:0<=c/\c<=7
 .rw[P' d];go_wp2_with fail
  refine(Fw r 7 _).mono ?_;rintro e j ⟨rfl,rfl⟩;by_cases f:0<=r/\r<=7
  .rw[P' f];go_wp2_with fail
   refine(Fw u 1048576 _).mono ?_;rintro e j ⟨rfl,rfl⟩;by_cases h:0<=u/\u<=1048576
   .rw[P' h];have a:Hid (true=decide (Dt c r u)):=(P' ⟨d,f,h⟩).symm;go_wp2
    go_ret;exact⟨Aw a.out,b⟩
   .rw[G' h];have a:Hid (false=decide (Dt c r u)):=(G' (λg=>h g.2.2)).symm;go_wp2
    go_ret;exact⟨Aw a.out,b⟩
  .rw[G' f];have a:Hid (false=decide (Dt c r u)):=(G' (λg=>f g.2.1)).symm;go_wp2
   go_ret;exact⟨Aw a.out,b⟩
 .rw[G' d];have a:Hid (false=decide (Dt c r u)):=(G' (λg=>d g.1)).symm;go_wp2
  go_ret;exact⟨Aw a.out,b⟩
theorem C6{B:Nat}{a:World}(h:Below B a w){g:Nat}(c:B<=g)(b:Array Value):Below B a (w.setRow g b) :=
 h.trans ⟨rfl,rfl,rfl,by simp,λk d=>setRow_other w g k b (by omega)⟩
def ptA(g:Nat):Array Value:=#[.pointer (some ⟨g,0,none⟩),.pointer (some ⟨g,1,none⟩),.pointer (some ⟨g,2,none⟩),.pointer (some ⟨g,3,none⟩),.pointer (some ⟨g,4,none⟩)]
theorem dU(g:Nat):(ptA g).all (·.oneCell')=true:=by simp[ptA,Value.oneCell']
def SS:Array Value:=#[.pointer none,.pointer none,.pointer none,.pointer none,.pointer none]
theorem i9(g:Nat):(prog.info? 69).map (·.size)=some (ptA g).size:=by show _=some 5;kernel_rfl
theorem QX(g:Nat)(j:Nat)(a:j<5):∀ W,(Instr.index 69 (.agg (ptA g)) (.int .i64 (j:Int))).run prog W=.ok (.pointer (some ⟨g,j,none⟩)) W:=by
 intro W;rcases(by omega:j=0\/j=1\/j=2\/j=3\/j=4)with rfl|rfl|rfl|rfl|rfl
 all_goals kernel_rfl
theorem Hs(g:Nat)(w:World) :
  Calls prog 23 #[.pointer (some ⟨g,0,none⟩)] w λe w'=>e=.returned (.agg (ptA g))/\Bw w w':=by
 have d:Bw w (w.alloc (.cells SS 69)):=(Below.refl _ _).alloc (A' _) _;have i:=heap_alloc_new w (.cells SS 69);have c:=i9 g;go_enter func23,ntmps23
 go_wp2_with fail
 refine Au 16 (by kernel_rfl) (by kernel_rfl) ?_;simp only[np,nB,nE,n7]
 repeat (go_big_quiet_step (fail))
 refine wpQuiet_nil ?_;have a:(w.alloc (.cells SS 69)).drew.heap[w.heap.size]?=some (.cells SS 69):=i;have b:Bw w (w.alloc (.cells SS 69)).drew:=d.drew;have f:SS=#[.pointer none,.pointer none,.pointer none,.pointer none,.pointer none]:=rfl;rw[<- f];generalize (w.alloc (.cells SS 69)).drew=W at a b;go_wp2_with (refine wpList_store_row rfl 69 (.tmp 2) (.tmp 18) rfl w.heap.size (ptA g) rfl rfl 69 _ a c rfl (dU g) ?_)
 have h:=setRow_heap W w.heap.size _ (ptA g) 69 _ a;exact bodyPost_ret (v:=.agg (ptA g)) (results_cell_row rfl _ _ w.heap.size 69 _ (0,0) _ rfl h underlying69 rfl c) rfl ⟨rfl,C6 b (A' _) _⟩
theorem Sl.rN(w:World)(b a:Int)(e:TypeId){g:Nat}(f:g=w.heap.size)(c:0<=b/\b<256)(d:a=b):Sl (w.alloc (.cells #[.int .u8 a] e)) (.slice (some ⟨g,0,none⟩) 1 1) [b]:=by
 subst d;exact Sl.one w a e f c
theorem dW(l:List Int)(n:Int)(j:Nat)(a:l.length<=100000):(l++(Ad n).take j).length+1<=140737488355328:=by
 have:((Ad n).take j).length<=4:=by rw[j'];exact Nat.min_le_right _ _
 rw[E'];omega
theorem Ht(v:Value)(l:List Int)(n:Int)(B:Nat)(w:World)(x:w.ownsRow B 5 1 v l.length (l.map (Value.int .u8)))(z:B<=w.heap.size)(t:l.length<=100000)(D:0<=n)(E:n<2147483648) :
  Calls prog 24 #[v,.int .i64 n] w λe w'=>∃ v',e=.returned v'/\w'.ownsRow B 5 1 v' (l++Ad n).length ((l++Ad n).map (Value.int .u8))/\Below B w w':=by
 have s:Hid (w.ownsRow B 5 1 v (l++(Ad n).take 0).length ((l++(Ad n).take 0).map (Value.int .u8))):=by unfold Hid;simpa using x
 clear x;go_enter func24,ntmps24
 go_wp2_with fail
 go_loopw [0,5] (λv iv wr=>∃ j:Nat,j<=4/\iv=.int .i64 (3-(j:Int))/\wr.ownsRow B 5 1 v (l++(Ad n).take j).length ((l++(Ad n).take j).map (Value.int .u8))/\Below B w wr) (λ_ iv _=>(intOf iv+1).toNat)
 case atStart=>exact⟨0,by omega,rfl,s.out,Below.refl _ _⟩
 case round =>
  obtain⟨j,C,rfl,a,b⟩:=hrel;clear s;have g:=a.lt;have u:B<=wr.heap.size:=mg z b.size;have p:=dW l n;by_cases A:j<4
  .rcases(by omega:j=0\/j=1\/j=2\/j=3)with rfl|rfl|rfl|rfl
   .rw[show(3:Int)-((0:Nat):Int)=3 from rfl];have m:Hid (l++(Ad n).take 1=l++(Ad n).take 0++[n/16777216%256]):=by unfold Hid;rw[mm];rfl
    have c:=p 0 t;clear p;generalize l++(Ad n).take 0=L at a m c;go_wp2_with (at_builtin;refine Aa _ rfl _ _ 27 rfl B 5 underlying27 Av _ _ rfl rfl L [n/16777216%256] (a.alloc _) (Sl.rN _ (n/16777216%256) _ _ rfl (by omega) (by omega)) c (by simp;omega) ?_)
    intro r o f d;have i:Below B w o:=(b.alloc u _).grown d (by simp;omega) (λk q=>(g k q).1);have h:Hid (o.ownsRow B 5 1 r (l++(Ad n).take 1).length ((l++(Ad n).take 1).map (Value.int .u8))):=by
     unfold Hid;rw[m.out];simpa using f
    clear f d a g b c m;go_wp2
    go_roundw
    case rel=>exact⟨1,by omega,rfl,h.out,i⟩
    case measure=>simp[intOf]
   .rw[show(3:Int)-((1:Nat):Int)=2 from rfl];have m:Hid (l++(Ad n).take 2=l++(Ad n).take 1++[n/65536%256]):=by unfold Hid;rw[mm];rfl
    have c:=p 1 t;clear p;generalize l++(Ad n).take 1=L at a m c;go_wp2_with (at_builtin;refine Aa _ rfl _ _ 27 rfl B 5 underlying27 Av _ _ rfl rfl L [n/65536%256] (a.alloc _) (Sl.rN _ (n/65536%256) _ _ rfl (by omega) (by omega)) c (by simp;omega) ?_)
    intro r o f d;have i:Below B w o:=(b.alloc u _).grown d (by simp;omega) (λk q=>(g k q).1);have h:Hid (o.ownsRow B 5 1 r (l++(Ad n).take 2).length ((l++(Ad n).take 2).map (Value.int .u8))):=by
     unfold Hid;rw[m.out];simpa using f
    clear f d a g b c m;go_wp2
    go_roundw
    case rel=>exact⟨2,by omega,rfl,h.out,i⟩
    case measure=>simp[intOf]
   .rw[show(3:Int)-((2:Nat):Int)=1 from rfl];have m:Hid (l++(Ad n).take 3=l++(Ad n).take 2++[n/256%256]):=by unfold Hid;rw[mm];rfl
    have c:=p 2 t;clear p;generalize l++(Ad n).take 2=L at a m c;go_wp2_with (at_builtin;refine Aa _ rfl _ _ 27 rfl B 5 underlying27 Av _ _ rfl rfl L [n/256%256] (a.alloc _) (Sl.rN _ (n/256%256) _ _ rfl (by omega) (by omega)) c (by simp;omega) ?_)
    intro r o f d;have i:Below B w o:=(b.alloc u _).grown d (by simp;omega) (λk q=>(g k q).1);have h:Hid (o.ownsRow B 5 1 r (l++(Ad n).take 3).length ((l++(Ad n).take 3).map (Value.int .u8))):=by
     unfold Hid;rw[m.out];simpa using f
    clear f d a g b c m;go_wp2
    go_roundw
    case rel=>exact⟨3,by omega,rfl,h.out,i⟩
    case measure=>simp[intOf]
   .rw[show(3:Int)-((3:Nat):Int)=0 from rfl];have m:Hid (l++(Ad n).take 4=l++(Ad n).take 3++[n%256]):=by unfold Hid;rw[mm];rfl
    have c:=p 3 t;clear p;generalize l++(Ad n).take 3=L at a m c;go_wp2_with (at_builtin;refine Aa _ rfl _ _ 27 rfl B 5 underlying27 Av _ _ rfl rfl L [n%256] (a.alloc _) (Sl.rN _ (n%256) _ _ rfl (by omega) (by omega)) c (by simp;omega) ?_)
    intro r o f d;have i:Below B w o:=(b.alloc u _).grown d (by simp;omega) (λk q=>(g k q).1);have h:Hid (o.ownsRow B 5 1 r (l++(Ad n).take 4).length ((l++(Ad n).take 4).map (Value.int .u8))):=by
     unfold Hid;rw[m.out];simpa using f
    clear f d a g b c m;go_wp2
    go_roundw
    case rel=>exact⟨4,by omega,rfl,h.out,i⟩
    case measure=>simp[intOf]
  .obtain rfl:j=4:=by omega
   rw[show(3:Int)-((4:Nat):Int)=-1 from rfl];have y:Hid _:=a;clear a g p;go_wp2
   go_ret;exact⟨_,rfl,y.out,b⟩
theorem Sl.rC{a:Option Addr}{c:Nat}{l:List Int}(h:Sl w (.slice a n c) l)(k:Nat)(f:k<l.length):∃ bd od,a=some ⟨bd,od,none⟩/\bd<w.heap.size/\w.cell? ⟨bd,od+k,none⟩=some (.int .u8 (l.getD k 0)):=by
 obtain⟨⟨m,d,e,o,p,g⟩,j,i⟩:=h;simp only[Value.slice.injEq]at e;obtain⟨rfl,rfl,rfl⟩:=e;rcases g with rfl|⟨b,off,rfl,hb,hcell⟩
 .simp at f
 .exact⟨b,off,rfl,hb,hcell k f⟩
def Js(l:List Int)(j:Nat):List Int:=(l.take j).flatMap Ad
theorem V5(l:List Int)(j:Nat)(h:j<l.length):Js l (j+1)=Js l j++Ad (l.getD j 0):=by
 unfold Js;rw[mz h,List.flatMap_append,AO h];simp
theorem Ql(l:List Int)(j:Nat):(Js l j).length<=4*j:=by
 unfold Js;induction l generalizing j with
 | nil=>simp
 | cons x l ih =>
  cases j with
  | zero=>simp
  | succ j =>
   have:=ih j;rw[np,om,E',BF];omega
theorem V4(k c s n v:Int):Js [k,c,s,n,v] 5=D3 k c s n v:=rfl
def V6(k c s n v:Int):List Int:=if Bh k c s n v=0 then D3 k c s n v else[]
theorem Un{n:Int}(h:Bh k c s n v=0):V6 k c s n v=D3 k c s n v:=if_pos h
theorem cC{n:Int}(h:¬ Bh k c s n v=0):V6 k c s n v=[]:=if_neg h
def OH:Array Value:=(List.replicate 20 (Value.int .u8 0)).toArray
theorem ig(w:World):(Instr.makeSlice 27 (.int .i64 0) (.int .i64 20)).run prog w=.ok (.slice (some ⟨w.heap.size,0,none⟩) 0 20) (w.alloc (.cells OH 5)):=by
 obtain⟨i,c,d,a,b⟩:=info_parts Av;rw[run_makeSlice (P:=prog) w 27 5 i (.int .u8 0) underlying27 c d .i64 .i64 0 20 (by omega) (by omega) (by rw[a];decide) (by rw[b];decide) (by omega),a];have e:madeCells (Value.int .u8 0).cells ((20:Int).toNat*1)=OH:=by kernel_rfl
 rw[e];rfl
theorem Bc.num{n:Int}(h:Bc w g k c s n v)(j:Nat)(i:j<5):w.cell? ⟨g,j,none⟩=some (.int .i64 ([k,c,s,n,v].getD j 0)):=by
 obtain⟨a,b,d,e,f⟩:=Fh h.row;rcases(by omega:j=0\/j=1\/j=2\/j=3\/j=4)with rfl|rfl|rfl|rfl|rfl
 .exact a
 .exact b
 .exact d
 .exact e
 .exact f
theorem Th{v:Value}(h:w.ownsRow base e 1 v n xs)(a:∀ k,v.ownBlock=some k->w'.heap[k]?=w.heap[k]?):w'.ownsRow base e 1 v n xs:=by
 refine⟨h.1,?_⟩;rcases h.2 with h2|⟨g,cap,cur,hv,hb,hg,hr⟩
 .exact .inl h2
 .exact .inr ⟨g,cap,cur,hv,hb,(a g (by rw[hv];rfl)).trans hg,hr⟩
theorem Kd{v:Value}(h:w.ownsRow base e 1 v n xs)(a:Bw w w'):w'.ownsRow base e 1 v n xs :=
 Th h λk b=>a.block k (h.lt k b).2
theorem So(k c s n v:Int)(w:World)(S:NTab w) :
  Calls prog 12 #[.agg (cmA k c s n v)] w λe w'=>∃ v',e=.returned (.tuple #[v',.int .i64 (Bh k c s n v)])/\w'.ownsRow w.heap.size 5 1 v' (V6 k c s n v).length ((V6 k c s n v).map (Value.int .u8))/\Bw w w':=by
 have q:Bw w (w.alloc (.cells (cmA k c s n v) 24)):=(Below.refl _ _).alloc (A' _) _;have i:=Bc.made w k c s n v;have J:=S.af q;have hi:=GU k c s n v;generalize hW:w.alloc (.cells (cmA k c s n v) 24)=W at q i J;clear S;go_enter func12,ntmps12
 go_wp2_with (refine wpList_load_row rfl 24 _ rfl w.heap.size rfl 24 _ (0,0) _ i.row underlying24 rfl hi ?_)
 clear hW;refine(E8 k c s n v W J).mono ?_;rintro e a ⟨rfl,F⟩;have H:Bw w a:=q.trans (F.mono q.size);replace i:=i.af F;clear F q J;by_cases p:Bh k c s n v=0
 .have HE:Hid (V6 k c s n v=Js [k,c,s,n,v] 5):=(Un p).trans (V4 k c s n v).symm;have A:=Dg p;have P:Hid (∀ j,j<5->0<=[k,c,s,n,v].getD j 0/\[k,c,s,n,v].getD j 0<2147483648):=by
   unfold Hid;obtain⟨hk,hc⟩:=A;unfold InC at hc;intro j M;rcases(by omega:j=0\/j=1\/j=2\/j=3\/j=4)with rfl|rfl|rfl|rfl|rfl
   .show 0<=k/\k<2147483648;omega
   .show 0<=c/\c<2147483648;omega
   .show 0<=s/\s<2147483648;omega
   .show 0<=n/\n<2147483648;omega
   .show 0<=v/\v<2147483648;omega
  have O:Hid ([k,c,s,n,v].length=5):=rfl;have Y:Hid (Bh k c s n v=0):=p;rw[p];clear A p;have u:=ig a;have z:Below a.heap.size a (a.alloc (.cells OH 5)):=(Below.refl _ _).alloc (A' _) _;have x:(a.alloc (.cells OH 5)).ownsRow a.heap.size 5 1 (.slice (some ⟨a.heap.size,0,none⟩) 0 20) ([]:List Int).length (([]:List Int).map (Value.int .u8)) :=
   ⟨rfl,.inr ⟨a.heap.size,20,OH,rfl,A' _,heap_alloc_new _ _,by decide,by simp[maxLen],rfl,rfl⟩⟩
  have h:Hid _:=x;clear x;generalize a.alloc (.cells OH 5)=W2 at u z h;go_wp2_with fail
  refine(Hs w.heap.size W2).mono ?_;rintro e U ⟨rfl,G⟩;have f:Hid (U.ownsRow a.heap.size 5 1 (.slice (some ⟨a.heap.size,0,none⟩) 0 20) ([]:List Int).length (([]:List Int).map (Value.int .u8))):=Kd h.out G;have I:Below a.heap.size a U:=z.trans (G.mono z.size);have z3:=I.size;clear h z G u;have N:=i.lt;have R:∀ wr,Below a.heap.size a wr->∀ j,j<5->wr.cell? ⟨w.heap.size,j,none⟩=some (.int .i64 ([k,c,s,n,v].getD j 0)):=λwr hb j M=>(i.af hb).num j M;have D:Hid _:=R;clear i R;generalize [k,c,s,n,v]=L at HE P D O;have r:a.heap.size<=a.heap.size:=A' _;have o:w.heap.size<=a.heap.size:=H.size;generalize hB:a.heap.size=B at I z3 f D N o;replace r:B<=a.heap.size:=by omega
  clear hB;have l:=QX w.heap.size;go_wp2_with fail
  go_loopw [5,15] (λv iv wr=>∃ j:Nat,j<=5/\iv=.int .i64 (j:Int)/\wr.ownsRow B 5 1 v (Js L j).length ((Js L j).map (Value.int .u8))/\Below B a wr) (λ_ iv _=>(5-intOf iv).toNat)
  case atStart=>exact⟨0,by omega,rfl,f.out,I⟩
  case round =>
   obtain⟨j,M,rfl,d,b⟩:=hrel;by_cases m:j<5
   .have hji:(j:Int)<5:=by omega
    have K:=l j m;have t:=D.out _ b j m;have g:=P.out j m;have C:Hid (Js L (j+1)=Js L j++Ad (L.getD j 0)):=V5 L j (by rw[O.out];omega);have V:=Ql L j;have y:Hid _:=d;have A:B<=wr.heap.size:=mg r b.size;clear d l f;generalize L.getD j 0=X at t g C;go_wp2_with fail
    refine(Ht _ _ X B wr y.out A (by omega) g.1 g.2).mono ?_;rintro e w5 ⟨v5,rfl,T,Q⟩;have E:Hid (w5.ownsRow B 5 1 v5 (Js L (j+1)).length ((Js L (j+1)).map (Value.int .u8))):=by unfold Hid;rw[C.out];exact T
    have Z:=b.trans Q;clear T Q y C V t K g;go_wp2
    go_roundw
    case rel=>exact⟨j+1,by omega,by go_num,E.out,Z⟩
    case measure=>simp[intOf];omega
   .obtain rfl:j=5:=by omega
    rw[show((5:Nat):Int)=5 from rfl];have y:Hid _:=d;clear d l f;go_wp2
    go_ret2
    rw[HE.out,Y.out];exact⟨_,rfl,Cf y.out o,H.trans (b.mono o)⟩
 .have HE:Hid (V6 k c s n v=[]):=cC p;go_wp2
  go_ret2
  rw[HE.out];exact⟨_,rfl,World.ownsRow_nil _ _ _ _,H⟩
theorem Ka{P:Program}{f:Func}{p u:Tmp}{c:TypeId}(h:f.results=#[.cell p c,.tmp u])(a:Array Value)(w:World)(g:Nat)(t:TypeId)(b:Array Value)(i:Nat × Nat)(d:TypeDesc)(m:a.getD p undef=.pointer (some ⟨g,0,none⟩))(k:w.heap[g]?=some (.cells b t i))(n:P.underlying c=some d)(j:(match d with|.struct _|.array _ _=>true|_=>false)=true)(l:(P.info? c).map (·.size)=some b.size) :
  (results f a).run P w=.ok (.tuple #[.agg b,a.getD u undef]) w:=by
 have e:a[p]?.getD undef=.pointer (some ⟨g,0,none⟩):=by simpa using m
 simp[results,h,e,asAddr,run_loadVar_row w g t c b i d k n j l]
theorem Uf(k c s n v:Int):(cmA k c s n v).all (·.oneCell')=true:=by simp[cmA,Value.oneCell']
def EI(key:List Int)(c r u:Int):List Int:=Im c r u++(E7 key (Im c r u)).take 16
theorem Nv(key b:List Int):((E7 key b).take 16).length=16:=by rw[j',DY];rfl
theorem BH(key:List Int)(c r u:Int):(EI key c r u).length=22:=by unfold EI;rw[E',Nv,Ca]
theorem R1(key b:List Int):∀ x∈(E7 key b).take 16,0<=x/\x<256:=λx a=>Oi key b x (mx a)
theorem OA(key:List Int){c r u:Int}(h:Dt c r u):∀ x∈EI key c r u,0<=x/\x<256:=by
 intro x hx;rcases Q'.1 hx with hx|hx
 .exact O9 h x hx
 .exact R1 _ _ x hx
def Nf(key:List Int)(c r u:Int):Int:=if key.length≠32 then 1 else Nx c r u
def Qz(key:List Int)(c r u:Int):List Int:=if Nf key c r u=0 then EI key c r u else[]
theorem VE(h:¬ key.length=32):Nf key c r u=1:=if_pos h
theorem Qy(h:key.length=32):Nf key c r u=Nx c r u:=if_neg (λg=>g h)
theorem cS(h:Nf key c r u=0):Qz key c r u=EI key c r u:=if_pos h
theorem Uw(h:¬ Nf key c r u=0):Qz key c r u=[]:=if_neg h
theorem S8(c r u:Int)(w:World)(h:Dt c r u) :
  Calls prog 19 #[.agg (tkA c r u)] w λe w'=>∃ v',e=.returned v'/\w'.ownsRow w.heap.size 5 1 v' (Im c r u).length ((Im c r u).map (Value.int .u8))/\Bw w w':=by
 have d:Bw w (w.alloc (.cells (tkA c r u) 32)):=(Below.refl _ _).alloc (A' _) _;have f:=Bt.made w c r u;generalize o:w.alloc (.cells (tkA c r u) 32)=W at d f;obtain⟨B,C,m⟩:=JM f.row;have lt:=f.lt;clear f;obtain⟨⟨q,s⟩,⟨t,v⟩,i,x⟩:=h;have E:c%256=c:=by omega
 have F:r%256=r:=by omega
 have A:Hid (Im c r u=[c,r]++Ad u):=rfl;have b:Bw W (W.alloc (.cells #[.int .u8 c,.int .u8 r] 5)):=(Below.refl _ _).alloc (A' _) _;have k:(W.alloc (.cells #[.int .u8 c,.int .u8 r] 5)).ownsRow W.heap.size 5 1 (.slice (some ⟨W.heap.size,0,none⟩) 2 2) ([c,r]:List Int).length (([c,r]:List Int).map (Value.int .u8)) :=
  ⟨rfl,.inr ⟨W.heap.size,2,#[.int .u8 c,.int .u8 r],rfl,A' _,heap_alloc_new _ _,by simp,by simp[maxLen],rfl,rfl⟩⟩
 have j:Hid ((W.alloc (.cells #[.int .u8 c,.int .u8 r] 5)).ownsRow W.heap.size 5 1 (.slice (some ⟨W.heap.size,0,none⟩) 2 2) ([c,r]:List Int).length (([c,r]:List Int).map (Value.int .u8))):=k;clear k;generalize g:W.alloc (.cells #[.int .u8 c,.int .u8 r] 5)=W1 at b j;have D:W1.cell? ⟨w.heap.size,2,none⟩=some (.int .i64 u):=(b.cell (p:=⟨w.heap.size,2,none⟩) lt).trans m;have n:=d.trans (b.mono d.size);have y:=b.size;go_enter func19,ntmps19
 go_wp2_with fail
 clear o g;refine(Ht _ [c,r] u W.heap.size W1 j.out y (by simp) i (by omega)).mono ?_;rintro e H ⟨G,rfl,z,l⟩;have a:=d.size;go_wp2
 go_ret;exact⟨_,rfl,Cf z a,n.trans (l.mono a)⟩
theorem Ry(d c:Value)(key b:List Int)(w:World)(n:Sl w d key)(m:Sl w c b)(lk:key.length<=256)(p:b.length<=2000)(o:AK w) :
  Calls prog 20 #[d,c] w λe w'=>∃ v',e=.returned (.tuple #[v',.int .i64 0])/\Sl w' v' ((E7 key b).take 16)/\Bw w w':=by
 go_enter func20,ntmps20
 go_wp2_with fail
 refine(fU d c key b w n m lk p o).mono ?_;rintro e t ⟨s,rfl,l⟩;obtain⟨f,i,g,k,rfl,_,_⟩:=l;obtain⟨h,j,a,q⟩:=f.ov 16 (by rw[DY];omega);rw[DY]at a ⊢
 have r:∀ W,(Instr.slice 27 (.slice (some ⟨g,0,none⟩) 32 k) none (some (.int .i64 16)) none).run prog W=.ok (.slice h 16 j) W:=a;clear a f;go_wp2
 go_ret2
 exact⟨_,rfl,q,i⟩
theorem VF(E:Value)(key:List Int)(c r u:Int)(w:World)(f:Sl w E key)(N:AK w) :
  Calls prog 10 #[E,.agg (tkA c r u)] w λe w'=>∃ v',e=.returned (.tuple #[v',.int .i64 (Nf key c r u)])/\w'.ownsRow w.heap.size 5 1 v' (Qz key c r u).length ((Qz key c r u).map (Value.int .u8))/\Bw w w':=by
 have i:Bw w (w.alloc (.cells (tkA c r u) 32)):=(Below.refl _ _).alloc (A' _) _;have j:=Bt.made w c r u;have A:=Jd c r u;have m:=f.len;obtain⟨S,T,rfl⟩:=f.shape;generalize M:w.alloc (.cells (tkA c r u) 32)=W at i j;by_cases l:key.length=32
 .have HE:=Qy (key:=key) (c:=c) (r:=r) (u:=u) l;have J:Hid (key.length=32):=l;rw[l]at f ⊢
  clear l m;go_enter func10,ntmps10
  go_wp2_with (refine wpList_load_row rfl 32 _ rfl w.heap.size rfl 32 _ (0,0) _ j.row underlying32 rfl A ?_)
  clear M;refine(Jx c r u W).mono ?_;rintro e g ⟨rfl,p⟩;have b:=i.trans (p.mono i.size);replace j:=j.af p;clear p i;by_cases d:Dt c r u
  .have a:Hid (Nf key c r u=0):=HE.trans (Ja d);have h:Hid (Qz key c r u=EI key c r u):=cS a.out;rw[P' d];clear HE;go_wp2_with (refine wpList_load_row rfl 32 _ rfl w.heap.size rfl 32 _ (0,0) _ j.row underlying32 rfl A ?_)
   refine(S8 c r u g d).mono ?_;rintro e R ⟨P,rfl,x,q⟩;have s:=b.trans (q.mono b.size);have D:=Sl.ni x (by rw[Ca];omega) (O9 d);have H:=q.size;go_wp2_with fail
   refine(Ry _ P key (Im c r u) R (f.af s) D (by rw[J.out];omega) (by rw[Ca];omega) (N.af s)).mono ?_;rintro e F ⟨U,rfl,s3,n⟩;have y:=Kd x n;have t:Bw g F:=q.trans (n.mono H);have I:g.heap.size<=F.heap.size:=mg H n.size;have v:=y.lt;have O:=s3.len;have o:Hid (EI key c r u=Im c r u++(E7 key (Im c r u)).take 16):=rfl;have B:=Ca c r u;clear x n s D;generalize (E7 key (Im c r u)).take 16=Y at s3 o O;generalize Im c r u=X at y o B;go_wp2_with (at_builtin;refine Aa _ rfl _ _ 27 rfl g.heap.size 5 underlying27 Av _ _ rfl rfl X Y y s3 (by omega) I ?_)
   intro Q G C z;have L:Bw g G:=t.grown z I (λk f=>(v k f).1);have K:Hid (G.ownsRow g.heap.size 5 1 Q (EI key c r u).length ((EI key c r u).map (Value.int .u8))):=by unfold Hid;rw[o.out];simpa[B]using C
   clear C z;go_wp2
   go_ret2
   rw[h.out,a.out];exact⟨_,rfl,Cf K.out b.size,b.trans (L.mono b.size)⟩
  .have a:Hid (Nf key c r u=2):=HE.trans (UR d);have h:Hid (Qz key c r u=[]):=Uw (by rw[a.out];omega);rw[G' d];go_wp2
   go_ret2
   rw[h.out,a.out];exact⟨_,rfl,World.ownsRow_nil _ _ _ _,b⟩
 .have h1':¬ (key.length:Int)=32:=by omega
  have a:Hid (Nf key c r u=1):=VE l;have h:Hid (Qz key c r u=[]):=Uw (by rw[a.out];omega);go_enter func10,ntmps10
  go_wp2
  go_ret2
  rw[h.out,a.out];exact⟨_,rfl,World.ownsRow_nil _ _ _ _,i⟩
end
end
section
section
def paE(n tc tr tu k c s m v:Int):Int:=if ¬ (0<=n/\n<1073741824)then 2 else if Nx tc tr tu≠0 then Nx tc tr tu else Bh k c s m v
def paP(tc tr tu k c s m v:Int):List Int:=EI Fk tc tr tu++D3 k c s m v
def paL(n tc tr tu k c s m v:Int):List Int:=if paE n tc tr tu k c s m v=0 then c::Gd (I6 c) n (paP tc tr tu k c s m v)else[]
variable{c k m n s tc tr tu v:Int}
theorem II(h:paE n tc tr tu k c s m v=0):(0<=n/\n<1073741824)/\Dt tc tr tu/\Bh k c s m v=0:=by
 unfold paE at h;split at h
 .cases h
 .rename_i g1
  split at h
  .rename_i g;exact absurd h g
  .rename_i g2
   refine⟨mh.1 g1,?_,h⟩;have a:=mh.1 g2;unfold Nx at a;split at a
   .assumption
   .cases a
theorem ix(a:0<=n/\n<1073741824)(b:Nx tc tr tu=0):paE n tc tr tu k c s m v=Bh k c s m v:=by
 unfold paE;rw[if_neg (λg=>g a),if_neg (λg=>g b)]
theorem Pp(h:paE n tc tr tu k c s m v=0):paL n tc tr tu k c s m v=c::Gd (I6 c) n (paP tc tr tu k c s m v):=if_pos h
theorem DG(a b d k c s m v:Int):(paP a b d k c s m v).length=42:=by unfold paP;rw[E',BH,DU]
theorem QQ(h:Dt tc tr tu):∀ x∈paP tc tr tu k c s m v,0<=x/\x<256:=by
 intro x hx;rcases Q'.1 hx with hx|hx
 .exact OA _ h x hx
 .exact Jq _ _ _ _ _ x hx
end
end
section
open Go.RowKit
section
variable{key l:List Int}
theorem Sl.rU{w:World}{a:Option Addr}{n c:Nat}(h:Sl w (.slice a n c) l)(b:Nat)(d:b+4<=l.length)(m k:Int)(g:m=(b:Int))(f:k=(b:Int)+4) :
  ∃ a' c',(∀ W,(Instr.slice 27 (.slice a n c) (some (.int .i64 m)) (some (.int .i64 k)) none).run prog W=.ok (.slice a' 4 c') W)/\Sl w (.slice a' 4 c') ((l.take (b+4)).drop b):=by
 subst g;subst f;have i:=h.rh b (b+4) (by omega) d;obtain⟨⟨a',j,e,s,t,r⟩,q,p⟩:=h;simp only[Value.slice.injEq]at e;obtain⟨rfl,rfl,rfl⟩:=e;have o:b+4-b=4:=by omega
 unfold sliced at i;rw[o]at i
 refine⟨_,_,λW=>?_,i⟩;rw[run_slice_lh (P:=prog) W 27 a _ c underlying27 .i64 .i64 _ _ (by omega) (by omega) (by omega)];have e:prog.elem 27=5:=by kernel_rfl
 rw[e,GC,show((b:Int)+4).toNat=b+4 by omega,mM];simp[Result.andThen,sliced]
theorem QO(x b:Int)(f:0<=x/\x<36028797018963968)(d:0<=b/\b<256):bits .or .i64 (x*256) b=x*256+b:=by
 obtain⟨x,rfl⟩:=mS f.1;obtain⟨y,rfl⟩:=mS d.1;have e:(x:Int)*256=((x*256:Nat):Int):=by omega
 have key:(BitVec.ofInt 64 ((x*256:Nat):Int) ||| BitVec.ofInt 64 (y:Int)).toNat=x*256+y:=by
  rw[ql,pl,pl];have a:((y:Int)%((2^64:Nat):Int)).toNat=y:=by omega
  have c:(((x*256:Nat):Int)%((2^64:Nat):Int)).toNat=2^8*x:=by omega
  rw[a,c,<- oM (by omega:y<2^8)];omega
 rw[e];show IntKind.i64.wrap ((BitVec.ofInt 64 ((x*256:Nat):Int) ||| BitVec.ofInt 64 (y:Int)).toNat:Nat)=_;rw[key,IntKind.wrap_i64];omega
def Dk(h:List Int):Nat->Int
 | 0=>0
 | k+1=>Dk h k*256+h.getD k 0
theorem JZ{h:List Int}(a:∀ x∈h,0<=x/\x<256)(k:Nat):0<=Dk h k/\Dk h k<256^k:=by
 induction k with
 | zero=>simp[Dk]
 | succ k ih =>
  have:=Al a k;rw[Dk,pF];omega
theorem LQ(l:List Int)(a:Nat)(h:a+4<=l.length):Dk ((l.take (a+4)).drop a) 4=Ac l a:=by
 show(((0*256+((l.take (a+4)).drop a).getD 0 0)*256+((l.take (a+4)).drop a).getD 1 0)*256+((l.take (a+4)).drop a).getD 2 0)*256+((l.take (a+4)).drop a).getD 3 0=_;rw[Dv,Dv,Dv,Dv,B9 _ _ _ (by omega),B9 _ _ _ (by omega),B9 _ _ _ (by omega),B9 _ _ _ (by omega)];unfold Ac;rw[oA];omega
theorem IH(v:Value)(l:List Int)(b:Nat)(w:World)(h:Sl w v l)(o:b+4<=l.length)(f:Int)(g:f=(b:Int)) :
  Calls prog 184 #[v,.int .i64 f] w λe w'=>e=.returned (.int .i64 (Ac l b))/\w'=w:=by
 have s:Hid (Dk ((l.take (b+4)).drop b) 4=Ac l b):=LQ l b o;have d:=h.len;have H:0<=f:=by omega
 have I:f<=140737488351232:=by omega
 obtain⟨a,c,rfl⟩:=h.shape;obtain⟨D,F,y,k⟩:=h.rU b o f (f+4) g (by omega);have m:Hid (∀ x∈(l.take (b+4)).drop b,0<=x/\x<256):=k.byte;have t:Hid (((l.take (b+4)).drop b).length=4):=by unfold Hid;rw[mo,j'];omega
 generalize (l.take (b+4)).drop b=L at s k m t;generalize l.length=N at y d ⊢;clear h o g d;go_enter func184,ntmps184
 go_wp2_with fail
 go_loopw [5,14] (λv iv wr=>∃ j:Nat,j<=4/\iv=.int .i64 (j:Int)/\v=.int .i64 (Dk L j)/\wr=w) (λ_ iv _=>(4-intOf iv).toNat)
 case atStart=>exact⟨0,by omega,rfl,rfl,rfl⟩
 case round =>
  obtain⟨j,G,rfl,rfl,rfl⟩:=hrel;by_cases C:j<4
  .have hii:(j:Int)<4:=by omega
   have p:=JZ m.out j;have r:Dk L j<16777216:=by
    have:(256:Int)^j<=256^3:=by
     rcases(by omega:j=0\/j=1\/j=2\/j=3)with rfl|rfl|rfl|rfl<;>decide
    omega
   have u:=Al m.out j;obtain⟨E,od,rfl,z,A⟩:=k.rC j (by have:=t.out;omega);have i:=QO (Dk L j) (L.getD j 0) ⟨p.1,by omega⟩ u;have n:Hid (Dk L j*256+L.getD j 0=Dk L (j+1)):=rfl;have q:=p.1;clear p k y;generalize Dk L j=X at q r i n;generalize L.getD j 0=B at u A i n;go_wp2
   go_roundw
   case rel=>exact⟨j+1,by omega,by go_num,by rw[<- n.out],trivial⟩
   case measure=>simp[intOf];omega
  .obtain rfl:j=4:=by omega
   rw[show((4:Nat):Int)=4 from rfl,s.out];go_wp2
   go_ret;exact⟨rfl,rfl⟩
def Sc(l:List Int)(j:Nat):List Int:=(List.range 5).map λi=>if i<j then Ac l (4*i)else 0
def rowOf(m:List Int):Array Value:=(m.map (Value.int .i64)).toArray
theorem XP(l:List Int)(j:Nat)(a:j<5):(rowOf (Sc l j)).setIfInBounds j (.int .i64 (Ac l (4*j)))=rowOf (Sc l (j+1)):=by
 rcases(by omega:j=0\/j=1\/j=2\/j=3\/j=4)with rfl|rfl|rfl|rfl|rfl
 all_goals rfl
theorem Lr(v:Value)(l:List Int)(w:World)(h:Sl w v l)(ht:NTab w) :
  Calls prog 152 #[v] w λe w'=>e=.returned (.tuple #[.agg (Iy l),.int .i64 (Ck l)])/\Bw w w':=by
 have G:=h.len;obtain⟨a,cp,rfl⟩:=h.shape;by_cases E:l.length=20
 .have i:Hid (Ck l=Bh (Ac l 0) (Ac l 4) (Ac l 8) (Ac l 12) (Ac l 16)):=if_neg (λg=>g E);have Z:=h;have HL:Hid (l.length=20):=E;rw[E]at Z ⊢
  clear h E G;have b0:Bw w (w.alloc (.cells (cmA 0 0 0 0 0) 24)):=(Below.refl _ _).alloc (A' _) _;have z0:(w.alloc (.cells (cmA 0 0 0 0 0) 24)).heap.size=w.heap.size+1:=by simp
  have B:=heap_alloc_new w (.cells (cmA 0 0 0 0 0) 24);have N:Below (w.heap.size+1) (w.alloc (.cells (cmA 0 0 0 0 0) 24)) ((w.alloc (.cells (cmA 0 0 0 0 0) 24)).alloc (.cells (cmA 0 0 0 0 0) 24)):=(Below.refl _ _).alloc (by omega) _;have C:=heap_alloc_new (w.alloc (.cells (cmA 0 0 0 0 0) 24)) (.cells (cmA 0 0 0 0 0) 24);rw[z0]at C
  replace B:=(N.block w.heap.size (by omega)).trans B;have J:=b0.trans (N.mono (nh _));have z1:((w.alloc (.cells (cmA 0 0 0 0 0) 24)).alloc (.cells (cmA 0 0 0 0 0) 24)).heap.size=w.heap.size+1+1:=by simp
  have Y:(w.alloc (.cells zV5 24)).alloc (.cells zV5 24)=(w.alloc (.cells (cmA 0 0 0 0 0) 24)).alloc (.cells (cmA 0 0 0 0 0) 24):=rfl;clear b0 N z0;generalize (w.alloc (.cells (cmA 0 0 0 0 0) 24)).alloc (.cells (cmA 0 0 0 0 0) 24)=W at B C J z1 Y;go_enter func152,ntmps152
  go_wp2_with fail
  clear Y;refine(Hs (w.heap.size+1) W).mono ?_;rintro e w2 ⟨rfl,H⟩;replace B:=(H.block w.heap.size (by omega)).trans B;replace C:=(H.block (w.heap.size+1) (by omega)).trans C;have d2:=J.trans (H.mono J.size);have o:Hid _:=B;have q:Hid (w2.heap[w.heap.size+1]?=some (.cells (rowOf (Sc l 0)) 24)):=C;clear B C H J z1;have y:=QX (w.heap.size+1);go_wp2_with fail
  go_loopw [13] (λiv wr=>∃ j:Nat,j<=5/\iv=.int .i64 (j:Int)/\wr.heap[w.heap.size]?=some (.cells (cmA 0 0 0 0 0) 24)/\wr.heap[w.heap.size+1]?=some (.cells (rowOf (Sc l j)) 24)/\Bw w wr) (λiv _=>(5-intOf iv).toNat)
  case atStart=>exact⟨0,by omega,rfl,o.out,q.out,d2⟩
  case round =>
   obtain⟨j,hj,rfl,r,m,d⟩:=hrel;clear o q;by_cases z:j<5
   .have hji:(j:Int)<5:=by omega
    have a1:=y j z;have u:∃ x,wr.cell? ⟨w.heap.size+1,j,none⟩=some (.int .i64 x):=⟨(Sc l j).getD j 0,(cell_of_row _ _ j _ _ _ m).trans (by simp[rowOf,Sc,z])⟩;obtain⟨x,hx⟩:=u;have a0:=frozen_of_row wr _ j _ _ m;have o:Hid _:=r;have q:Hid _:=m;have R:=XP l j z;clear y r m;go_wp2_with fail
    refine(IH (.slice a 20 cp) l (4*j) wr (Z.af d) (by rw[HL.out];omega) _ (by omega)).mono ?_;rintro e Q ⟨rfl,rfl⟩;have A:(Q.setCell ⟨w.heap.size+1,j,none⟩ (.int .i64 (Ac l (4*j)))).heap[w.heap.size]?=some (.cells (cmA 0 0 0 0 0) 24):=(heap_setCell_other _ _ _ _ (by simp)).trans o.out;have M:(Q.setCell ⟨w.heap.size+1,j,none⟩ (.int .i64 (Ac l (4*j)))).heap[w.heap.size+1]?=some (.cells (rowOf (Sc l (j+1))) 24):=by
     rw[heap_setCell_same _ _ _ _ _ _ q.out,R]
    have q2:Bw w (Q.setCell ⟨w.heap.size+1,j,none⟩ (.int .i64 (Ac l (4*j)))):=d.setCell (p:=⟨w.heap.size+1,j,none⟩) (nh _) _;have S:Hid _:=A;have T:Hid _:=M;clear R A M o q;generalize Ac l (4*j)=X at S T q2 ⊢;go_wp2
    go_roundw
    case rel=>exact⟨j+1,by omega,by go_num,S.out,T.out,q2⟩
    case measure=>simp[intOf];omega
   .obtain rfl:j=5:=by omega
    rw[show((5:Nat):Int)=5 from rfl];have b:wr.heap[w.heap.size+1]?=some (.cells (cmA (Ac l 0) (Ac l 4) (Ac l 8) (Ac l 12) (Ac l 16)) 24):=m;clear m y;have f:Hid (Ck l=0->Iy l=cmA (Ac l 0) (Ac l 4) (Ac l 8) (Ac l 12) (Ac l 16)):=λh=>if_pos h;have t:Hid (¬ Ck l=0->Iy l=cmA 0 0 0 0 0):=λh=>if_neg h;have V:=ht.af d;generalize Ac l 0=k at i f b;generalize Ac l 4=c at i f b;generalize Ac l 8=s at i f b;generalize Ac l 12=n at i f b;generalize Ac l 16=v at i f b;have L:=GU k c s n v;have F:=GU 0 0 0 0 0;have O:=(U'.1 b).1;go_wp2_with (refine wpList_load_row rfl 24 _ rfl (w.heap.size+1) rfl 24 _ (0,0) _ b underlying24 rfl L ?_)
    refine(E8 k c s n v wr V).mono ?_;rintro e w6 ⟨rfl,I⟩;have U:=d.trans (I.mono d.size);have A:=(I.block w.heap.size (by omega)).trans r;have M:=(I.block (w.heap.size+1) O).trans b;clear r b I V d;by_cases K:Bh k c s n v=0
    .have HZ:Hid (Ck l=0):=i.out.trans K;have D:Hid (Iy l=cmA k c s n v):=f.out HZ.out;rw[K];clear K i f t;go_wp2_with (first|(refine wpList_load_row rfl 24 _ rfl (w.heap.size+1) rfl 24 _ (0,0) _ M underlying24 rfl L ?_)|(refine wpList_store_row rfl 24 (.tmp 2) (.tmp 30) rfl w.heap.size (cmA k c s n v) rfl rfl 24 _ A L rfl (Uf k c s n v) ?_))
     have P:=setRow_heap w6 w.heap.size _ (cmA k c s n v) 24 _ A;refine bodyPost_ret (Ka rfl _ _ w.heap.size 24 _ (0,0) _ rfl P underlying24 rfl L) rfl ?_;rw[HZ.out,D.out];exact⟨rfl,C6 U (A' _) _⟩
    .have HZ:Hid (Ck l=Bh k c s n v):=i.out;have D:Hid (Iy l=cmA 0 0 0 0 0):=t.out (by rw[i.out];exact K);clear i f t;go_wp2_with (refine wpList_store_row rfl 24 (.tmp 2) (.tmp 28) rfl w.heap.size (cmA 0 0 0 0 0) rfl rfl 24 _ A F rfl (Uf 0 0 0 0 0) ?_)
     have P:=setRow_heap w6 w.heap.size _ (cmA 0 0 0 0 0) 24 _ A;refine bodyPost_ret (Ka rfl _ _ w.heap.size 24 _ (0,0) _ rfl P underlying24 rfl F) rfl ?_;rw[HZ.out,D.out];exact⟨rfl,C6 U (A' _) _⟩
 .have h1':¬ (l.length:Int)=20:=by omega
  have i:Hid (Ck l=1):=if_pos E;have D:Hid (Iy l=cmA 0 0 0 0 0):=if_neg (by rw[i.out];omega);have bb:Bw w (w.alloc (.cells (cmA 0 0 0 0 0) 24)):=(Below.refl _ _).alloc (A' _) _;have bc:=Bc.made w 0 0 0 0 0;go_enter func152,ntmps152
  go_wp2
  refine bodyPost_ret (Ka rfl _ _ w.heap.size 24 _ (0,0) _ rfl (heap_alloc_new _ _) underlying24 rfl (GU 0 0 0 0 0)) rfl ?_;rw[i.out,D.out];exact⟨rfl,bb⟩
theorem IZ(c r u:Int):(tkA c r u).all (·.oneCell')=true:=by simp[tkA,Value.oneCell']
theorem R4(v:Value)(l:List Int)(w:World)(h:Sl w v l)(x:6<=l.length) :
  Calls prog 183 #[v] w λe w'=>e=.returned (.agg (tkA (l.getD 0 0) (l.getD 1 0) (Ac l 2)))/\Bw w w':=by
 have d:=h.len;obtain⟨a,t,rfl⟩:=h.shape;have i:Bw w (w.alloc (.cells (tkA 0 0 0) 32)):=(Below.refl _ _).alloc (A' _) _;have j:=heap_alloc_new w (.cells (tkA 0 0 0) 32);have f:=h.af i;have o:w.alloc (.cells #[.int .i64 0,.int .i64 0,.int .i64 0] 32)=w.alloc (.cells (tkA 0 0 0) 32):=rfl;generalize w.alloc (.cells (tkA 0 0 0) 32)=W0 at i j f o;obtain⟨r,od,rfl,u,k⟩:=f.rC 0 (by omega);obtain⟨s,A,m,_,q⟩:=f.rC 1 (by omega);simp only[X',Addr.mk.injEq,and_true]at m;obtain⟨rfl,rfl⟩:=m;rw[oA]at k
 have C:=Al h.byte 0;have D:=Al h.byte 1;have y:(0:Int)<(l.length:Int):=by omega
 have z:(1:Int)<(l.length:Int):=by omega
 have n:Calls prog 184 #[.slice (some ⟨r,od,none⟩) l.length t,.int .i64 2] W0.drew λe w'=>e=.returned (.int .i64 (Ac l 2))/\w'=W0.drew :=
  IH _ l 2 _ (f.af (Below.refl _ _).drew) (by omega) 2 rfl
 have g:Hid _:=n;clear n;generalize l.getD 0 0=b0 at k C;generalize l.getD 1 0=b1 at q D;generalize Ac l 2=b2 at g;generalize l.length=N at d x y z g ⊢;clear h f;have p:=Jd b0 b1 b2;go_enter func183,ntmps183
 go_wp2_with fail
 refine Au 11 (by kernel_rfl) (by kernel_rfl) ?_;simp only[np,nB,nE,n7]
 repeat (go_big_quiet_step (fail))
 go_big_quiet_want
 go_big_quiet_op
 refine⟨_,g.out,?_⟩
 go_big_quiet_on
 repeat (go_big_quiet_step (fail))
 refine wpQuiet_nil ?_;clear o;have b:W0.drew.heap[w.heap.size]?=some (.cells (tkA 0 0 0) 32):=j;have c:Bw w W0.drew:=i.drew;clear j i k q g;generalize W0.drew=W at b c ⊢;go_wp2_with (refine wpList_store_row rfl 32 (.tmp 2) (.tmp 13) rfl w.heap.size (tkA b0 b1 b2) rfl rfl 32 _ b p rfl (IZ b0 b1 b2) ?_)
 have B:=setRow_heap W w.heap.size _ (tkA b0 b1 b2) 32 _ b;exact bodyPost_ret (v:=.agg (tkA b0 b1 b2)) (results_cell_row rfl _ _ w.heap.size 32 _ (0,0) _ rfl B underlying32 rfl p) rfl ⟨rfl,C6 c (A' _) _⟩
def Ep(key l:List Int):Int :=
 if key.length≠32\/l.length≠22 then 1
 else if(E7 key (l.take 6)).take 16≠l.drop 6 then 6
 else Nx (l.getD 0 0) (l.getD 1 0) (Ac l 2)
def LZ(key l:List Int):Array Value:=if Ep key l=0 then tkA (l.getD 0 0) (l.getD 1 0) (Ac l 2)else tkA 0 0 0
theorem Ot(h:key.length≠32\/l.length≠22):Ep key l=1:=if_pos h
theorem Zy(a:key.length=32)(b:l.length=22)(h:¬ (E7 key (l.take 6)).take 16=l.drop 6):Ep key l=6:=by
 unfold Ep;rw[if_neg (by omega),if_pos h]
theorem QW(a:key.length=32)(b:l.length=22)(h:(E7 key (l.take 6)).take 16=l.drop 6):Ep key l=Nx (l.getD 0 0) (l.getD 1 0) (Ac l 2):=by
 unfold Ep;rw[if_neg (by omega),if_neg (λg=>g h)]
theorem Pu(h:Ep key l=0):LZ key l=tkA (l.getD 0 0) (l.getD 1 0) (Ac l 2):=if_pos h
theorem IK(h:¬ Ep key l=0):LZ key l=tkA 0 0 0:=if_neg h
theorem ST(l:List Int):Ac (l.take 6) 2=Ac l 2:=by
 unfold Ac;rw[B9 _ _ _ (by omega),B9 _ _ _ (by omega),B9 _ _ _ (by omega),B9 _ _ _ (by omega)]
theorem Ws(vk vb:Value)(key l:List Int)(w:World)(z:Sl w vk key)(x:Sl w vb l)(ht:AK w) :
  Calls prog 151 #[vk,vb] w λe w'=>e=.returned (.tuple #[.agg (LZ key l),.int .i64 (Ep key l)])/\Bw w w':=by
 have lk:=z.len;have ll:=x.len;obtain⟨ak,ck,rfl⟩:=z.shape;obtain⟨U,Y,rfl⟩:=x.shape;have i:Bw w (w.alloc (.cells (tkA 0 0 0) 32)):=(Below.refl _ _).alloc (A' _) _;have L:=heap_alloc_new w (.cells (tkA 0 0 0) 32);have d:=Jd 0 0 0;by_cases o:key.length=32
 .by_cases h2:l.length=22
  .have H1:Hid (key.length=32):=o;have t:Hid (l.length=22):=h2;rw[o]at z ⊢
   rw[h2]at x ⊢
   clear lk ll o h2;have v:w.alloc (.cells #[.int .i64 0,.int .i64 0,.int .i64 0] 32)=w.alloc (.cells (tkA 0 0 0) 32):=rfl;generalize w.alloc (.cells (tkA 0 0 0) 32)=W at i L v;obtain⟨S,V,C,s6⟩:=x.ov 6 (by have:=t.out;omega);have r6:∀ W,(Instr.slice 27 (.slice U 22 Y) none (some (.int .i64 6)) none).run prog W=.ok (.slice S 6 V) W:=C;obtain⟨T,X,D,s7⟩:=x.from 6 (by have:=t.out;omega);have r7:∀ W,(Instr.slice 27 (.slice U 22 Y) (some (.int .i64 6)) none none).run prog W=.ok (.slice T 16 X) W:=D;clear C D;have R:Hid ((l.take 6).length=6):=by unfold Hid;rw[j',t.out];rfl
   go_enter func151,ntmps151
   go_wp2_with fail
   clear v;refine(Ry _ _ key (l.take 6) W (z.af i) (s6.af i) (by rw[H1.out];omega) (by rw[R.out];omega) (ht.af i)).mono ?_;rintro e M ⟨v1,rfl,s1,N⟩;have P:=i.trans (N.mono i.size);have q1:=(N.block w.heap.size (U'.1 L).1).trans L;have E:=s7.af P;clear N i L;go_wp2_with fail
   refine(IR v1 (.slice T 16 X) _ _ M s1 E).mono ?_;rintro e w2 ⟨rfl,m,rfl⟩;have n:Bw w (M.drewN m):=Aq P m;have s:(M.drewN m).heap[w.heap.size]?=some (.cells (tkA 0 0 0) 32):=q1;clear q1 P s1 E;generalize M.drewN m=W2 at n s ⊢;by_cases p:(E7 key (l.take 6)).take 16=l.drop 6
   .have HE:=QW H1.out t.out p;have b:Hid (Ep key l=0->LZ key l=tkA (l.getD 0 0) (l.getD 1 0) (Ac l 2)):=Pu;have j:Hid (¬ Ep key l=0->LZ key l=tkA 0 0 0):=IK;have F:Hid ((l.take 6).getD 0 0=l.getD 0 0/\(l.take 6).getD 1 0=l.getD 1 0/\Ac (l.take 6) 2=Ac l 2):=⟨B9 _ _ _ (by omega),B9 _ _ _ (by omega),ST l⟩;rw[P' p];clear p;go_wp2_with fail
    refine(R4 (.slice S 6 V) (l.take 6) W2 (s6.af n) (by rw[R.out];omega)).mono ?_;rintro e g ⟨rfl,O⟩;rw[F.out.1,F.out.2.1,F.out.2.2];have Q:=n.trans (O.mono n.size);have f:=(O.block w.heap.size (U'.1 s).1).trans s;clear O s n F;generalize l.getD 0 0=c at HE b ⊢;generalize l.getD 1 0=r at HE b ⊢;generalize Ac l 2=u at HE b ⊢;have y:=Jd c r u;have H:Bw g (g.alloc (.cells (tkA 0 0 0) 32)):=(Below.refl _ _).alloc (A' _) _;have K:=heap_alloc_new g (.cells (tkA 0 0 0) 32);have v:g.alloc (.cells #[.int .i64 0,.int .i64 0,.int .i64 0] 32)=g.alloc (.cells (tkA 0 0 0) 32):=rfl;generalize g.alloc (.cells (tkA 0 0 0) 32)=W4 at H K v;have A:w.heap.size<g.heap.size:=(U'.1 f).1
    go_upto_region 10 with(refine wpList_store_row rfl 32 (.tmp 9) (.tmp 38) rfl g.heap.size (tkA c r u) rfl rfl 32 _ K y rfl (IZ c r u) ?_)
    clear v;have k:=setRow_heap W4 g.heap.size _ (tkA c r u) 32 _ K;replace f:=((H.block w.heap.size A).trans f);replace f:=(setRow_other W4 g.heap.size w.heap.size (tkA c r u) (by omega)).trans f;have J:=C6 (Q.trans (H.mono Q.size)) (show w.heap.size<=g.heap.size by omega) (tkA c r u);generalize W4.setRow g.heap.size (tkA c r u)=W5 at f k J ⊢;clear K H Q;generalize g.heap.size=G at k A ⊢;go_wp2_with (refine wpList_load_row rfl 32 _ rfl G rfl 32 _ (0,0) _ k underlying32 rfl y ?_)
    refine(Jx c r u W5).mono ?_;rintro e w6 ⟨rfl,I⟩;have Z:=J.trans (I.mono J.size);replace f:=(I.block w.heap.size (U'.1 f).1).trans f;replace k:=(I.block G (U'.1 k).1).trans k;clear I J;by_cases q:Dt c r u
    .have a:Hid (Ep key l=0):=HE.trans (Ja q);have h:Hid (LZ key l=tkA c r u):=b.out a.out;rw[P' q];clear HE b j q;go_wp2_with (first|(refine wpList_load_row rfl 32 _ rfl G rfl 32 _ (0,0) _ k underlying32 rfl y ?_)|(refine wpList_store_row rfl 32 (.tmp 4) (.tmp 43) rfl w.heap.size (tkA c r u) rfl rfl 32 _ f y rfl (IZ c r u) ?_))
     have B:=setRow_heap w6 w.heap.size _ (tkA c r u) 32 _ f;refine bodyPost_ret (Ka rfl _ _ w.heap.size 32 _ (0,0) _ rfl B underlying32 rfl y) rfl ?_;rw[a.out,h.out];exact⟨rfl,C6 Z (A' _) _⟩
    .have a:Hid (Ep key l=2):=HE.trans (UR q);have h:Hid (LZ key l=tkA 0 0 0):=j.out (by rw[a.out];omega);rw[G' q];clear HE b j q;go_wp2_with (refine wpList_store_row rfl 32 (.tmp 4) (.tmp 42) rfl w.heap.size (tkA 0 0 0) rfl rfl 32 _ f d rfl (IZ 0 0 0) ?_)
     have B:=setRow_heap w6 w.heap.size _ (tkA 0 0 0) 32 _ f;refine bodyPost_ret (Ka rfl _ _ w.heap.size 32 _ (0,0) _ rfl B underlying32 rfl d) rfl ?_;rw[a.out,h.out];exact⟨rfl,C6 Z (A' _) _⟩
   .have a:Hid (Ep key l=6):=Zy H1.out t.out p;have h:Hid (LZ key l=tkA 0 0 0):=IK (by rw[a.out];omega);rw[G' p];clear p;go_wp2_with (refine wpList_store_row rfl 32 (.tmp 4) (.tmp 36) rfl w.heap.size (tkA 0 0 0) rfl rfl 32 _ s d rfl (IZ 0 0 0) ?_)
    have B:=setRow_heap W2 w.heap.size _ (tkA 0 0 0) 32 _ s;refine bodyPost_ret (Ka rfl _ _ w.heap.size 32 _ (0,0) _ rfl B underlying32 rfl d) rfl ?_;rw[a.out,h.out];exact⟨rfl,C6 n (A' _) _⟩
  .have h2':¬ (l.length:Int)=22:=by omega
   have a:Hid (Ep key l=1):=Ot (.inr h2);have h:Hid (LZ key l=tkA 0 0 0):=IK (by rw[a.out];omega);rw[o]at z ⊢
   clear o;go_enter func151,ntmps151
   go_wp2
   refine bodyPost_ret (Ka rfl _ _ w.heap.size 32 _ (0,0) _ rfl (heap_alloc_new _ _) underlying32 rfl d) rfl ?_;rw[a.out,h.out];exact⟨rfl,i⟩
 .have h1':¬ (key.length:Int)=32:=by omega
  have a:Hid (Ep key l=1):=Ot (.inl o);have h:Hid (LZ key l=tkA 0 0 0):=IK (by rw[a.out];omega);go_enter func151,ntmps151
  go_wp2
  refine bodyPost_ret (Ka rfl _ _ w.heap.size 32 _ (0,0) _ rfl (heap_alloc_new _ _) underlying32 rfl d) rfl ?_;rw[a.out,h.out];exact⟨rfl,i⟩
end
end
section
section
def K9(l:List Int):Int:=if l=[]then 13 else if 7<l.getD 0 0 then 2 else GE (I6 (l.getD 0 0)) 0 0 noB (l.drop 1)
def Pl(l:List Int):List Int:=if K9 l=0 then IX (I6 (l.getD 0 0)) (l.drop 1)else[]
def unT(l:List Int):List Int:=(Pl l).take 22
def unQ(l:List Int):List Int:=(Pl l).drop 22
def unB(l:List Int):Prop:=K9 l=0/\(Pl l).length=42/\Ep Fk (unT l)=0
instance (l:List Int):Decidable (unB l):=by unfold unB;exact inferInstance
def unE(l:List Int):Int:=if K9 l≠0 then K9 l else if(Pl l).length≠42 then 3 else if Ep Fk (unT l)≠0 then Ep Fk (unT l)else Ck (unQ l)
variable{l:List Int}{now:Int}
theorem R5(h:unE l=0):unB l/\Ck (unQ l)=0:=by
 unfold unE at h;split at h
 .rename_i g;exact absurd h g
 .rename_i g1
  split at h
  .cases h
  .rename_i g2
   split at h
   .rename_i g;exact absurd h g
   .rename_i g3
    exact⟨⟨mh.1 g1,mh.1 g2,mh.1 g3⟩,h⟩
theorem kT(h:unE l=0):0<l.length:=by
 obtain⟨⟨a,_⟩,_⟩:=R5 h;cases l with
 | nil=>cases a
 | cons x r=>simp
def opE(l:List Int)(now:Int):Int :=
 if unE l≠0 then unE l
 else if Ac (unQ l) 0≠0/\Ac (unQ l) 4≠l.getD 0 0 then 11
 else EL ((unT l).getD 0 0) ((unT l).getD 1 0) (Ac (unT l) 2) (Ac (unQ l) 0) (Ac (unQ l) 4) (Ac (unQ l) 8) (Ac (unQ l) 12) (Ac (unQ l) 16) now
def opA(l:List Int)(now:Int):Array Value:=if opE l now=0 then cmA (Ac (unQ l) 0) (Ac (unQ l) 4) (Ac (unQ l) 8) (Ac (unQ l) 12) (Ac (unQ l) 16)else cmA 0 0 0 0 0
theorem ir(h:opE l now≠0):opA l now=cmA 0 0 0 0 0:=if_neg h
theorem iu(h:opE l now=0):opA l now=cmA (Ac (unQ l) 0) (Ac (unQ l) 4) (Ac (unQ l) 8) (Ac (unQ l) 12) (Ac (unQ l) 16):=if_pos h
end
end
end Go.Proofs.YtdjfdfpkkenjbacGreatDoor
