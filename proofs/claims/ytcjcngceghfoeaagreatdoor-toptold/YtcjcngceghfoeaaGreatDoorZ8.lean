/- Part 8 of the walk. -/
import Derived.Laws.OwnMore
import Derived.Maps.AppendAt
import Derived.Test.YtcjcngceghfoeaaGreatDoorZ7
set_option maxRecDepth 100000
set_option maxHeartbeats 4000000
open Go.Proofs.Tryz
set_option linter.unusedVariables false
namespace Go.Proofs.YtcjcngceghfoeaaGreatDoor
section
open Go.RowKit
section
theorem Xu(b d:Value)(key a:List Int)(x:Int)(c:Nat)(j:x=(c:Int))(w:World)(g:Sl w b key)(h:Sl w d a)(lk:key.length=32)(k:a.length=12)(f:c<=1073741824)(i:Di w) :
  Calls prog 185 #[b,.int .i64 x,d] w λe w'=>∃ v',e=.returned (.tuple #[v',.int .i64 0])/\Got w w' v' (CI (BZ key (BitVec.ofNat 32 c) a)):=by
 subst j;exact Xv b d key a c w g h lk k f i
theorem Pr(u v D E:Value)(key b a s:List Int)(w:World)(y:Sl w u key)(z:Sl w v b)(x:Sl w D a)(A:Sl w E s)(lk:key.length=32)(B:b.length=12)(M:a.length<=256)(N:s.length<=2000)(L:Di w) :
  Calls prog 163 #[u,v,D,E] w λe w'=>∃ v',e=.returned (.tuple #[v',.int .i64 0])/\Sl w' v' (E4 key b a s)/\Bw w w':=by
 have o:Hid (E4 key b a s=WE ((CI (BZ key (BitVec.ofNat 32 0) b)).take 32) (Gu a s)):=rfl;have g:(Gu a s).length<=4000:=by rw[I0];have:=H5 a.length;have:=H5 s.length;omega
 go_enter func163,ntmps163
 go_wp2_with fail
 refine(Xu u v key b 0 0 rfl w y z lk B (by omega) L).mono ?_;rintro e T ⟨S,rfl,p⟩;have j:=p.sl;have k:=p.sF;clear p;have d:=ES (BZ key (BitVec.ofNat 32 0) b);generalize CI (BZ key (BitVec.ofNat 32 0) b)=bs at o j d;obtain⟨G,I,rfl⟩:=j.shape;rw[d]at j ⊢
 obtain⟨F,H,c,C⟩:=j.ra 32 (by omega);have J:∀ W,(Instr.slice 52 (.slice G 64 I) none (some (.int .i64 32)) none).run prog W=.ok (.slice F 32 H) W:=c;have lt:(bs.take 32).length=32:=by rw[X'];omega
 generalize bs.take 32=K at o C lt;have q:=x.af k;have t:=A.af k;clear c j d;have h:a.length<=10000:=by omega
 have i:s.length<=10000:=by omega
 have l:Hid (a.length<=10000):=h;have n:Hid (s.length<=10000):=i;have m:Hid ((Gu a s).length<=4000):=g;clear M N h i g y z x A lk B;go_wp2_with fail
 go_region_with (first
  | (go_at_call 187;refine(YB _ _ a s _ (q.af ((Below.refl _ _).drew)) (t.af ((Below.refl _ _).drew)) l.out n.out).mono ?_;rintro e Q ⟨R,rfl,O,f⟩)
  | (go_at_call 186;refine(jm _ _ K _ _ (C.af ((Below.refl _ _).drew.trans f)) O lt m.out).mono ?_;rintro e U ⟨P,rfl,s3,r⟩))
 all_goals
  go_wp2
  go_ret2
  refine⟨P,rfl,?_,?_⟩
  .rw[o.out];exact s3
  .have b2:Bw w Q:=k.trans (((Below.refl _ _).drew.trans f).mono k.size);exact b2.trans (r.mono b2.size)
theorem Qs(c f b:Value)(key a d:List Int)(w:World)(h:Sl w c key)(i:Sl w f a)(g:Sl w b d)(lk:key.length=32)(l:a.length=12)(k:d.length<=2000)(j:Di w) :
  Calls prog 162 #[c,.int .i64 1,f,b] w λe w'=>∃ v',e=.returned (.tuple #[v',.int .i64 0])/\w'.ownsRow w.heap.size 5 1 v' (EN key a d).length ((EN key a d).map (Value.int .u8))/\Bw w w' :=
 dx c f b key a d 1 w h i g lk l (by omega) k j
def NwV(B:Nat)(v:Value):Prop:=∀ a n c,v=.slice (some a) n c->B<=a.block
variable{a key nonce:List Int}{e n:Nat}{v:Value}{w:World}{xs:List Value}
theorem NwV.own{B k:Nat}(h:w.ownsRow B e k v n xs):NwV B v:=λa m c e=>(h.lt a.block (by rw[e];rfl)).1
theorem Ta{b:World}{a:Nat}(h:w.ownsRow a e 1 v n xs)(c:Bw w b):b.ownsRow a e 1 v n xs :=
 Fj h λk d=>c.block k (h.lt k d).2
theorem Jg(h:Hc key nonce a=true):key.length=32/\nonce.length=12/\a.length<=256:=by
 unfold Hc at h;simp at h;omega
theorem ZR(o q v K:Value)(key b a p:List Int)(w:World)(i:Sl w o key)(s:Sl w q b)(A:Sl w v a)(t:Sl w K p)(E:Hc key b a=true)(U:p.length<=2000)(D:Di w) :
  Calls prog 132 #[o,q,v,K] w λe w'=>∃ v',e=.returned (.tuple #[v',.int .i64 0])/\Sl w' v' (G7 key b a p)/\NwV w.heap.size v'/\Bw w w':=by
 obtain⟨lk,F,S⟩:=Jg E;have j:=D.pos;have y:Hid (G7 key b a p=EN key b p++E4 key b a (EN key b p)):=rfl;have n:=FP key b p;have g:∀ x∈EN key b p,0<=x/\x<256:=Jm _ t.byte;have Q:¬ (2000:Int)<(p.length:Int):=by omega
 obtain⟨ap,W,rfl⟩:=t.shape;go_enter func132,ntmps132
 go_wp2_with fail
 refine(GQ o q v key b a w i s A).mono ?_;rintro e r ⟨rfl,rfl⟩;rw[E];go_wp2_with fail
 refine(Qs o q _ key b p r i s t lk F U D).mono ?_;rintro e M ⟨L,rfl,u,d⟩;generalize EN key b p=X at y n g u;have H:Sl M L X:=Sl.nn u (by omega) g;go_wp2_with fail
 refine(Pr o q v L key b a X M (i.af d) (s.af d) (A.af d) H lk F S (by omega) (D.af j d)).mono ?_;rintro e V ⟨Y,rfl,I,z⟩;have G:=Ta u z;have C:=G.lt;have f:Bw r V:=d.trans (z.mono d.size);have m:=IK key b a X;have l:=Md key b a X;generalize E4 key b a X=T at y I m l;have P:X.length<=2000:=by omega
 clear n u H d z i s A t;go_wp2_with (at_builtin;refine Aa _ rfl _ _ 52 rfl r.heap.size 5 underlying52 Aw _ _ rfl rfl X T G I (by omega) f.size ?_)
 intro J N c B;replace c:N.ownsRow r.heap.size 5 1 J (X++T).length ((X++T).map (Value.int .u8)):=by simpa[m]using c
 have O:Bw r N:=f.grown B f.size (λk i=>(C k i).1);go_wp2
 go_ret2
 refine⟨J,rfl,?_,.own c,O⟩;rw[y.out];refine Sl.nn c (by rw[H'];omega) ?_;intro x R;rcases P'.1 R with h|h
 .exact g x h
 .exact l x h
def Fi(key nonce a d:List Int):Int :=
 if Hc key nonce a=true/\d.length<=2016 then(if d.length<16 then 13 else if E4 key nonce a (d.take (d.length-16))=d.drop (d.length-16)then 0 else 6)else 1
def Q8(key nonce a d:List Int):List Int:=if Fi key nonce a d=0 then EN key nonce (d.take (d.length-16))else[]
theorem dF(g i f o:Value)(key b a d:List Int)(w:World)(m:Sl w g key)(n:Sl w i b)(k:Sl w f a)(l:Sl w o d)(j:Hc key b a=false\/2016<d.length) :
  Calls prog 203 #[g,i,f,o] w λe w'=>e=.returned (.tuple #[.slice none 0 0,.int .i64 1])/\w'=w:=by
 have r:=l.len;obtain⟨ap,q,rfl⟩:=l.shape;by_cases c:Hc key b a=true
 .have hpl:(2016:Int)<(d.length:Int):=by
   rcases j with h|h
   .rw[c]at h;cases h
   .omega
  go_enter func203,ntmps203
  go_wp2_with fail
  refine(GQ g i f key b a w m n k).mono ?_;rintro e p ⟨rfl,rfl⟩;rw[c];go_wp2
  go_ret2
  exact⟨rfl,rfl⟩
 .rw[Bool.not_eq_true]at c
  go_enter func203,ntmps203
  go_wp2_with fail
  refine(GQ g i f key b a w m n k).mono ?_;rintro e p ⟨rfl,rfl⟩;rw[c];go_wp2
  go_ret2
  exact⟨rfl,rfl⟩
theorem SW(f g c h:Value)(key b a d:List Int)(w:World)(l:Sl w f key)(m:Sl w g b)(i:Sl w c a)(j:Sl w h d)(k:Hc key b a=true)(p:d.length<16) :
  Calls prog 203 #[f,g,c,h] w λe w'=>e=.returned (.tuple #[.slice none 0 0,.int .i64 13])/\w'=w:=by
 obtain⟨ap,o,rfl⟩:=j.shape;have n:(d.length:Int)<16:=by omega
 go_enter func203,ntmps203
 go_wp2_with fail
 refine(GQ f g c key b a w l m i).mono ?_;rintro e q ⟨rfl,rfl⟩;rw[k];go_wp2
 go_ret2
 exact⟨rfl,rfl⟩
theorem Zh(r s q H:Value)(key b a d:List Int)(w:World)(l:Sl w r key)(n:Sl w s b)(k:Sl w q a)(f:Sl w H d)(E:Hc key b a=true)(m:Nat)(F:d.length=m+16)(W:m<=2000)(o:Di w)(G:E4 key b a (d.take m)≠d.drop m) :
  Calls prog 203 #[r,s,q,H] w λe w'=>e=.returned (.tuple #[.slice none 0 0,.int .i64 6])/\Bw w w':=by
 obtain⟨lk,N,M⟩:=Jg E;have h:=o.pos;have i:=f.byte;obtain⟨ad,V,rfl⟩:=f.shape;rw[F]at f ⊢
 obtain⟨R,T,A,p⟩:=f.ra m (by omega);obtain⟨S,U,g,j⟩:=f.from m (by omega);rw[Nat.add_sub_cancel_left]at g j
 have B:(d.take m).length=m:=by rw[X'];omega
 have Q:∀ x∈d.take m,0<=x/\x<256:=λx K=>i x (mL K);have y:Hid (E4 key b a (d.take m)≠d.drop m):=G;clear G;generalize d.take m=D at p B Q y ⊢;generalize d.drop m=L at j y;have v:Hid (D.length=m):=B;clear f F i B;go_enter func203,ntmps203
 go_wp2_with fail
 refine(GQ r s q key b a w l n k).mono ?_;rintro e t ⟨rfl,rfl⟩;rw[E];go_wp2_with fail
 go_quiet (fail)
 have c:Bw t (t.drewN nq):=Aq (Below.refl _ _) nq;generalize t.drewN nq=w1 at c ⊢;replace l:=l.af c;replace n:=n.af c;replace k:=k.af c;replace p:=p.af c;replace j:=j.af c;replace o:=o.af h c;clear A g;go_wp2_with fail
 refine(Pr r s q _ key b a D w1 l n k p lk N M (by have:=v.out;omega) o).mono ?_;rintro e u ⟨P,rfl,O,z⟩;go_wp2_with fail
 refine(IH P _ (E4 key b a D) L u O (j.af z)).mono ?_;rintro e X ⟨rfl,C,rfl⟩;have I:Bw u (u.drewN C):=Aq (Below.refl _ _) C;have J:Bw t (u.drewN C):=c.trans ((z.trans (I.mono z.size)).mono c.size);rw[E' y.out];go_wp2
 go_ret2
 exact⟨rfl,J⟩
theorem dG(B C F S:Value)(key b a d:List Int)(w:World)(g:Sl w B key)(h:Sl w C b)(u:Sl w F a)(p:Sl w S d)(N:Hc key b a=true)(m:Nat)(O:d.length=m+16)(hl:m<=2000)(j:Di w)(P:E4 key b a (d.take m)=d.drop m) :
  Calls prog 203 #[B,C,F,S] w λe w'=>∃ v',e=.returned (.tuple #[v',.int .i64 0])/\Sl w' v' (EN key b (d.take m))/\NwV w.heap.size v'/\Bw w w':=by
 obtain⟨lk,Q,la⟩:=Jg N;have i:=j.pos;have z:=p.byte;obtain⟨ad,cd,rfl⟩:=p.shape;rw[O]at p ⊢
 obtain⟨a1,c1,I,k⟩:=p.ra m (by omega);obtain⟨a2,c2,v,q⟩:=p.from m (by omega);rw[Nat.add_sub_cancel_left]at v q
 have J:(d.take m).length=m:=by rw[X'];omega
 have V:∀ x∈d.take m,0<=x/\x<256:=λx Y=>z x (mL Y);have G:Hid (E4 key b a (d.take m)=d.drop m):=P;clear P;generalize d.take m=D at k J V G ⊢;generalize d.drop m=L at q G;have l:Hid (D.length=m):=J;clear p O z J;go_enter func203,ntmps203
 go_wp2_with fail
 refine(GQ B C F key b a w g h u).mono ?_;rintro e r ⟨rfl,rfl⟩;rw[N];go_wp2_with fail
 go_quiet (fail)
 have f:Bw r (r.drewN nq):=Aq (Below.refl _ _) nq;generalize r.drewN nq=w1 at f ⊢;replace g:=g.af f;replace h:=h.af f;replace u:=u.af f;replace k:=k.af f;replace q:=q.af f;replace j:=j.af i f;clear I v;go_wp2_with fail
 refine(Pr B C F _ key b a D w1 g h u k lk Q la (by have:=l.out;omega) j).mono ?_;rintro e s ⟨vt,rfl,R,o⟩;go_wp2_with fail
 refine(IH vt _ (E4 key b a D) L s R (q.af o)).mono ?_;rintro e T ⟨rfl,A,rfl⟩;have H:Bw s (s.drewN A):=Aq (Below.refl _ _) A;have E:Bw r (s.drewN A):=f.trans ((o.trans (H.mono o.size)).mono f.size);rw[M' G.out];have t:Bw w1 (s.drewN A):=o.trans (H.mono o.size);replace g:=g.af t;replace h:=h.af t;replace k:=k.af t;replace j:=j.af (Z' i f.size) t;have Z:=FP key b D;have y:∀ x∈EN key b D,0<=x/\x<256:=Jm _ V;clear q R u H o;generalize s.drewN A=T at g h k j E t ⊢;go_wp2_with fail
 refine(Qs B C _ key b D T g h k lk Q (by have:=l.out;omega) j).mono ?_;rintro e U ⟨M,rfl,K,W⟩;have s4:Sl U M (EN key b D):=Sl.nn K (by have:=l.out;omega) y;have X:Bw r U:=E.trans (W.mono E.size);have n4:NwV r.heap.size M:=λa n c e=>my E.size (NwV.own K a n c e);clear K y;go_wp2
 go_ret2
 exact⟨M,rfl,s4,n4,X⟩
theorem VX(i j f g:Value)(key c a d:List Int)(w:World)(m:Sl w i key)(n:Sl w j c)(k:Sl w f a)(l:Sl w g d)(o:Di w) :
  Calls prog 203 #[i,j,f,g] w λe w'=>∃ v',e=.returned (.tuple #[v',.int .i64 (Fi key c a d)])/\Sl w' v' (Q8 key c a d)/\NwV w.heap.size v'/\Bw w w':=by
 unfold Q8;by_cases h:Hc key c a=true/\d.length<=2016
 .by_cases h16:d.length<16
  .have hE:Fi key c a d=13:=by unfold Fi;rw[if_pos h,if_pos h16]
   rw[hE,if_neg (by omega)];refine(SW i j f g key c a d w m n k l h.1 h16).mono ?_;rintro e p ⟨rfl,rfl⟩;exact⟨_,rfl,Sl.nil _ _,λ_ _ _ e=>(by cases e),Below.refl _ _⟩
  .by_cases hq:E4 key c a (d.take (d.length-16))=d.drop (d.length-16)
   .have hE:Fi key c a d=0:=by unfold Fi;rw[if_pos h,if_neg h16,if_pos hq]
    rw[hE,if_pos rfl];exact dG i j f g key c a d w m n k l h.1 (d.length-16) (by omega) (by omega) o hq
   .have hE:Fi key c a d=6:=by unfold Fi;rw[if_pos h,if_neg h16,if_neg hq]
    rw[hE,if_neg (by omega)];refine(Zh i j f g key c a d w m n k l h.1 (d.length-16) (by omega) (by omega) o hq).mono ?_;rintro e p ⟨rfl,b⟩;exact⟨_,rfl,Sl.nil _ _,λ_ _ _ e=>(by cases e),b⟩
 .have hE:Fi key c a d=1:=by unfold Fi;rw[if_neg h]
  rw[hE,if_neg (by omega)];refine(dF i j f g key c a d w m n k l ?_).mono ?_
  .by_cases hf:Hc key c a=true
   .exact .inr (by have:¬ d.length<=2016:=λq=>h ⟨hf,q⟩;omega)
   .exact .inl (by simpa using hf)
  .rintro e p ⟨rfl,rfl⟩;exact⟨_,rfl,Sl.nil _ _,λ_ _ _ e=>(by cases e),Below.refl _ _⟩
theorem T2(key a:List Int){p:List Int}(b:∀ x∈p,0<=x/\x<256):∀ x∈EN key a p,0<=x/\x<256:=Jm _ b
theorem Tw(key b a:List Int){p:List Int}(c:∀ x∈p,0<=x/\x<256):∀ x∈G7 key b a p,0<=x/\x<256:=by
 intro x d;rcases P'.1 d with h|h
 .exact T2 key b c x h
 .exact Md _ _ _ _ x h
theorem cI(lk:key.length=32)(c:nonce.length=12)(b:a.length<=256):Hc key nonce a=true:=by
 unfold Hc;simp;omega
end
end
section
def Kw(key:List Int)(n:Int)(p:List Int):List Int:=Ab n++G7 key (CL (Ab n)) (Ab n) p
theorem EI(key:List Int)(n:Int)(p:List Int):(Kw key n p).length=p.length+20:=by
 rw[Kw,H',BE,Po];omega
theorem Wn(key:List Int)(n:Int){p:List Int}(a:∀ x∈p,0<=x/\x<256):∀ x∈Kw key n p,0<=x/\x<256:=by
 intro x b;rcases P'.1 b with h|h
 .exact Av n x h
 .exact Tw _ _ _ a x h
def Kc(key:List Int)(s t:Int)(l:List Bool)(r:List Int):Int :=
 if ¬ OkC key s t l then 5 else if 2020<r.length then 1 else if r.length<20 then 13 else if 1073741824<=MX (r.take 4)then 2 else if i9 t l (MX (r.take 4))=true then 7
 else Fi key (CL (r.take 4)) (r.take 4) (r.drop 4)
def Mn(key:List Int)(r:List Int):List Int:=Q8 key (CL (r.take 4)) (r.take 4) (r.drop 4)
end
section
open Go.RowKit
section
structure Bt(w:World)(g:Nat)(c r u:Int):Prop where
 lt:g<w.heap.size
 row:w.heap[g]?=some (.cells (tkA c r u) 81)
theorem Bt.made(w:World)(c r u:Int):Bt (w.alloc (.cells (tkA c r u) 81)) w.heap.size c r u:=⟨by simp,heap_alloc_new _ _⟩
variable{c r u:Int}{g:Nat}{key l:List Int}{w:World}
theorem Bt.af{b:World}(h:Bt w g c r u)(a:Bw w b):Bt b g c r u :=
 ⟨Z' h.lt a.size,(a.block g h.lt).trans h.row⟩
theorem IQ(c r u:Int):(prog.info? 81).map (·.size)=some (tkA c r u).size:=by show _=some 3;kernel_rfl
theorem J6{b:TypeId}{a:Nat × Nat}(h:w.heap[g]?=some (.cells (tkA c r u) b a)) :
  w.cell? ⟨g,0,none⟩=some (.int .i64 c)/\w.cell? ⟨g,1,none⟩=some (.int .i64 r)/\w.cell? ⟨g,2,none⟩=some (.int .i64 u) :=
 ⟨cell_of_row _ _ 0 _ _ _ h,cell_of_row _ _ 1 _ _ _ h,cell_of_row _ _ 2 _ _ _ h⟩
theorem Jl(c r u:Int)(w:World) :
  Calls prog 89 #[.agg (tkA c r u)] w λe w'=>e=.returned (.bool (decide (D2 c r u)))/\Bw w w':=by
 have b:Bw w (w.alloc (.cells (tkA c r u) 81)):=(Below.refl _ _).alloc (A' _) _;have i:=Bt.made w c r u;generalize k:w.alloc (.cells (tkA c r u) 81)=W at b i;obtain⟨l,m,n⟩:=J6 i.row;clear i;go_enter func89,ntmps89
 go_wp2_with fail
 clear k;refine(Fq c 7 _).mono ?_;rintro e j ⟨rfl,rfl⟩;by_cases d:0<=c/\c<=7
 .rw[M' d];go_wp2_with fail
  refine(Fq r 7 _).mono ?_;rintro e j ⟨rfl,rfl⟩;by_cases f:0<=r/\r<=7
  .rw[M' f];go_wp2_with fail
   refine(Fq u 1048576 _).mono ?_;rintro e j ⟨rfl,rfl⟩;by_cases h:0<=u/\u<=1048576
   .rw[M' h];have a:Hid (true=decide (D2 c r u)):=(M' ⟨d,f,h⟩).symm;go_wp2
    go_ret;exact⟨Ax a.out,b⟩
   .rw[E' h];have a:Hid (false=decide (D2 c r u)):=(E' (λg=>h g.2.2)).symm;go_wp2
    go_ret;exact⟨Ax a.out,b⟩
  .rw[E' f];have a:Hid (false=decide (D2 c r u)):=(E' (λg=>f g.2.1)).symm;go_wp2
   go_ret;exact⟨Ax a.out,b⟩
 .rw[E' d];have a:Hid (false=decide (D2 c r u)):=(E' (λg=>d g.1)).symm;go_wp2
  go_ret;exact⟨Ax a.out,b⟩
def K7(key:List Int)(c r u:Int):List Int:=K6 c r u++(E8 key (K6 c r u)).take 16
theorem Nk(key b:List Int):((E8 key b).take 16).length=16:=by rw[X',DO];rfl
theorem EP(key:List Int)(c r u:Int):(K7 key c r u).length=22:=by unfold K7;rw[H',Nk,EO]
theorem Ri(key b:List Int):∀ x∈(E8 key b).take 16,0<=x/\x<256:=λx a=>NR key b x (mL a)
theorem WQ(key:List Int){c r u:Int}(h:D2 c r u):∀ x∈K7 key c r u,0<=x/\x<256:=by
 intro x hx;rcases P'.1 hx with hx|hx
 .exact Ov h x hx
 .exact Ri _ _ x hx
def MR(key:List Int)(c r u:Int):Int:=if key.length≠32 then 1 else Nl c r u
def Qi(key:List Int)(c r u:Int):List Int:=if MR key c r u=0 then K7 key c r u else[]
theorem V2(h:¬ key.length=32):MR key c r u=1:=if_pos h
theorem Qh(h:key.length=32):MR key c r u=Nl c r u:=if_neg (λg=>g h)
theorem cU(h:MR key c r u=0):Qi key c r u=K7 key c r u:=if_pos h
theorem Ul(h:¬ MR key c r u=0):Qi key c r u=[]:=if_neg h
theorem Su(c r u:Int)(w:World)(h:D2 c r u) :
  Calls prog 90 #[.agg (tkA c r u)] w λe w'=>∃ v',e=.returned v'/\w'.ownsRow w.heap.size 5 1 v' (K6 c r u).length ((K6 c r u).map (Value.int .u8))/\Bw w w':=by
 have d:Bw w (w.alloc (.cells (tkA c r u) 81)):=(Below.refl _ _).alloc (A' _) _;have f:=Bt.made w c r u;generalize o:w.alloc (.cells (tkA c r u) 81)=W at d f;obtain⟨B,C,m⟩:=J6 f.row;have lt:=f.lt;clear f;obtain⟨⟨q,s⟩,⟨t,v⟩,i,x⟩:=h;have E:c%256=c:=by omega
 have F:r%256=r:=by omega
 have A:Hid (K6 c r u=[c,r]++Ab u):=rfl;have b:Bw W (W.alloc (.cells #[.int .u8 c,.int .u8 r] 5)):=(Below.refl _ _).alloc (A' _) _;have k:(W.alloc (.cells #[.int .u8 c,.int .u8 r] 5)).ownsRow W.heap.size 5 1 (.slice (some ⟨W.heap.size,0,none⟩) 2 2) ([c,r]:List Int).length (([c,r]:List Int).map (Value.int .u8)) :=
  ⟨rfl,.inr ⟨W.heap.size,2,#[.int .u8 c,.int .u8 r],rfl,A' _,heap_alloc_new _ _,by simp,by simp[maxLen],rfl,rfl⟩⟩
 have j:Hid ((W.alloc (.cells #[.int .u8 c,.int .u8 r] 5)).ownsRow W.heap.size 5 1 (.slice (some ⟨W.heap.size,0,none⟩) 2 2) ([c,r]:List Int).length (([c,r]:List Int).map (Value.int .u8))):=k;clear k;generalize g:W.alloc (.cells #[.int .u8 c,.int .u8 r] 5)=W1 at b j;have D:W1.cell? ⟨w.heap.size,2,none⟩=some (.int .i64 u):=(b.cell (p:=⟨w.heap.size,2,none⟩) lt).trans m;have n:=d.trans (b.mono d.size);have y:=b.size;go_enter func90,ntmps90
 go_wp2_with fail
 clear o g;refine(Ho _ [c,r] u W.heap.size W1 j.out y (by simp) i (by omega)).mono ?_;rintro e H ⟨G,rfl,z,l⟩;have a:=d.size;go_wp2
 go_ret;exact⟨_,rfl,BK z a,n.trans (l.mono a)⟩
theorem Rg(d c:Value)(key b:List Int)(w:World)(n:Sl w d key)(m:Sl w c b)(lk:key.length<=256)(p:b.length<=2000)(o:AB w) :
  Calls prog 91 #[d,c] w λe w'=>∃ v',e=.returned (.tuple #[v',.int .i64 0])/\Sl w' v' ((E8 key b).take 16)/\Bw w w':=by
 go_enter func91,ntmps91
 go_wp2_with fail
 refine(ge d c key b w n m lk p o).mono ?_;rintro e t ⟨s,rfl,l⟩;obtain⟨f,i,g,k,rfl,_,_⟩:=l;obtain⟨h,j,a,q⟩:=f.ra 16 (by rw[DO];omega);rw[DO]at a ⊢
 have r:∀ W,(Instr.slice 52 (.slice (some ⟨g,0,none⟩) 32 k) none (some (.int .i64 16)) none).run prog W=.ok (.slice h 16 j) W:=a;clear a f;go_wp2
 go_ret2
 exact⟨_,rfl,q,i⟩
theorem V3(E:Value)(key:List Int)(c r u:Int)(w:World)(f:Sl w E key)(N:AB w) :
  Calls prog 47 #[E,.agg (tkA c r u)] w λe w'=>∃ v',e=.returned (.tuple #[v',.int .i64 (MR key c r u)])/\w'.ownsRow w.heap.size 5 1 v' (Qi key c r u).length ((Qi key c r u).map (Value.int .u8))/\Bw w w':=by
 have i:Bw w (w.alloc (.cells (tkA c r u) 81)):=(Below.refl _ _).alloc (A' _) _;have j:=Bt.made w c r u;have A:=IQ c r u;have m:=f.len;obtain⟨S,T,rfl⟩:=f.shape;generalize M:w.alloc (.cells (tkA c r u) 81)=W at i j;by_cases l:key.length=32
 .have HE:=Qh (key:=key) (c:=c) (r:=r) (u:=u) l;have J:Hid (key.length=32):=l;rw[l]at f ⊢
  clear l m;go_enter func47,ntmps47
  go_wp2_with (refine wpList_load_row rfl 81 _ rfl w.heap.size rfl 81 _ (0,0) _ j.row underlying81 rfl A ?_)
  clear M;refine(Jl c r u W).mono ?_;rintro e g ⟨rfl,p⟩;have b:=i.trans (p.mono i.size);replace j:=j.af p;clear p i;by_cases d:D2 c r u
  .have a:Hid (MR key c r u=0):=HE.trans (KH d);have h:Hid (Qi key c r u=K7 key c r u):=cU a.out;rw[M' d];clear HE;go_wp2_with (refine wpList_load_row rfl 81 _ rfl w.heap.size rfl 81 _ (0,0) _ j.row underlying81 rfl A ?_)
   refine(Su c r u g d).mono ?_;rintro e R ⟨P,rfl,x,q⟩;have s:=b.trans (q.mono b.size);have D:=Sl.nn x (by rw[EO];omega) (Ov d);have H:=q.size;go_wp2_with fail
   refine(Rg _ P key (K6 c r u) R (f.af s) D (by rw[J.out];omega) (by rw[EO];omega) (N.af s)).mono ?_;rintro e F ⟨U,rfl,s3,n⟩;have y:=JP x n;have t:Bw g F:=q.trans (n.mono H);have I:g.heap.size<=F.heap.size:=my H n.size;have v:=y.lt;have O:=s3.len;have o:Hid (K7 key c r u=K6 c r u++(E8 key (K6 c r u)).take 16):=rfl;have B:=EO c r u;clear x n s D;generalize (E8 key (K6 c r u)).take 16=Y at s3 o O;generalize K6 c r u=X at y o B;go_wp2_with (at_builtin;refine Aa _ rfl _ _ 52 rfl g.heap.size 5 underlying52 Aw _ _ rfl rfl X Y y s3 (by omega) I ?_)
   intro Q G C z;have L:Bw g G:=t.grown z I (λk f=>(v k f).1);have K:Hid (G.ownsRow g.heap.size 5 1 Q (K7 key c r u).length ((K7 key c r u).map (Value.int .u8))):=by unfold Hid;rw[o.out];simpa[B]using C
   clear C z;go_wp2
   go_ret2
   rw[h.out,a.out];exact⟨_,rfl,BK K.out b.size,b.trans (L.mono b.size)⟩
  .have a:Hid (MR key c r u=2):=HE.trans (UJ d);have h:Hid (Qi key c r u=[]):=Ul (by rw[a.out];omega);rw[E' d];go_wp2
   go_ret2
   rw[h.out,a.out];exact⟨_,rfl,World.ownsRow_nil _ _ _ _,b⟩
 .have h1':¬ (key.length:Int)=32:=by omega
  have a:Hid (MR key c r u=1):=V2 l;have h:Hid (Qi key c r u=[]):=Ul (by rw[a.out];omega);go_enter func47,ntmps47
  go_wp2
  go_ret2
  rw[h.out,a.out];exact⟨_,rfl,World.ownsRow_nil _ _ _ _,i⟩
theorem Sl.sr{a:Option Addr}{n c:Nat}(h:Sl w (.slice a n c) l)(b:Nat)(d:b+4<=l.length)(m k:Int)(g:m=(b:Int))(f:k=(b:Int)+4) :
  ∃ a' c',(∀ W,(Instr.slice 52 (.slice a n c) (some (.int .i64 m)) (some (.int .i64 k)) none).run prog W=.ok (.slice a' 4 c') W)/\Sl w (.slice a' 4 c') ((l.take (b+4)).drop b):=by
 subst g;subst f;have i:=h.rI b (b+4) (by omega) d;obtain⟨⟨a',j,e,s,t,r⟩,q,p⟩:=h;simp only[Value.slice.injEq]at e;obtain⟨rfl,rfl,rfl⟩:=e;have o:b+4-b=4:=by omega
 unfold sliced at i;rw[o]at i
 refine⟨_,_,λW=>?_,i⟩;rw[run_slice_lh (P:=prog) W 52 a _ c underlying52 .i64 .i64 _ _ (by omega) (by omega) (by omega)];have e:prog.elem 52=5:=by kernel_rfl
 rw[e,FO,show((b:Int)+4).toNat=b+4 by omega,nk];simp[Result.andThen,sliced]
theorem Q9(x b:Int)(f:0<=x/\x<36028797018963968)(d:0<=b/\b<256):bits .or .i64 (x*256) b=x*256+b:=by
 obtain⟨x,rfl⟩:=mZ f.1;obtain⟨y,rfl⟩:=mZ d.1;have e:(x:Int)*256=((x*256:Nat):Int):=by omega
 have key:(BitVec.ofInt 64 ((x*256:Nat):Int) ||| BitVec.ofInt 64 (y:Int)).toNat=x*256+y:=by
  rw[qD,pF,pF];have a:((y:Int)%((2^64:Nat):Int)).toNat=y:=by omega
  have c:(((x*256:Nat):Int)%((2^64:Nat):Int)).toNat=2^8*x:=by omega
  rw[a,c,<- pa (by omega:y<2^8)];omega
 rw[e];show IntKind.i64.wrap ((BitVec.ofInt 64 ((x*256:Nat):Int) ||| BitVec.ofInt 64 (y:Int)).toNat:Nat)=_;rw[key,IntKind.wrap_i64];omega
def De(h:List Int):Nat->Int
 | 0=>0
 | k+1=>De h k*256+h.getD k 0
theorem JM{h:List Int}(a:∀ x∈h,0<=x/\x<256)(k:Nat):0<=De h k/\De h k<256^k:=by
 induction k with
 | zero=>simp[De]
 | succ k ih =>
  have:=Al a k;rw[De,pS];omega
theorem LF(l:List Int)(a:Nat)(h:a+4<=l.length):De ((l.take (a+4)).drop a) 4=Ad l a:=by
 show(((0*256+((l.take (a+4)).drop a).getD 0 0)*256+((l.take (a+4)).drop a).getD 1 0)*256+((l.take (a+4)).drop a).getD 2 0)*256+((l.take (a+4)).drop a).getD 3 0=_;rw[Dp,Dp,Dp,Dp,B9 _ _ _ (by omega),B9 _ _ _ (by omega),B9 _ _ _ (by omega),B9 _ _ _ (by omega)];unfold Ad;rw[oM];omega
theorem I9(v:Value)(l:List Int)(b:Nat)(w:World)(h:Sl w v l)(o:b+4<=l.length)(f:Int)(g:f=(b:Int)) :
  Calls prog 172 #[v,.int .i64 f] w λe w'=>e=.returned (.int .i64 (Ad l b))/\w'=w:=by
 have s:Hid (De ((l.take (b+4)).drop b) 4=Ad l b):=LF l b o;have d:=h.len;have H:0<=f:=by omega
 have I:f<=140737488351232:=by omega
 obtain⟨a,c,rfl⟩:=h.shape;obtain⟨D,F,y,k⟩:=h.sr b o f (f+4) g (by omega);have m:Hid (∀ x∈(l.take (b+4)).drop b,0<=x/\x<256):=k.byte;have t:Hid (((l.take (b+4)).drop b).length=4):=by unfold Hid;rw[mF,X'];omega
 generalize (l.take (b+4)).drop b=L at s k m t;generalize l.length=N at y d ⊢;clear h o g d;go_enter func172,ntmps172
 go_wp2_with fail
 go_loopw [5,14] (λv iv wr=>∃ j:Nat,j<=4/\iv=.int .i64 (j:Int)/\v=.int .i64 (De L j)/\wr=w) (λ_ iv _=>(4-intOf iv).toNat)
 case atStart=>exact⟨0,by omega,rfl,rfl,rfl⟩
 case round =>
  obtain⟨j,G,rfl,rfl,rfl⟩:=hrel;by_cases C:j<4
  .have hii:(j:Int)<4:=by omega
   have p:=JM m.out j;have r:De L j<16777216:=by
    have:(256:Int)^j<=256^3:=by
     rcases(by omega:j=0\/j=1\/j=2\/j=3)with rfl|rfl|rfl|rfl<;>decide
    omega
   have u:=Al m.out j;obtain⟨E,od,rfl,z,A⟩:=k.rQ j (by have:=t.out;omega);have i:=Q9 (De L j) (L.getD j 0) ⟨p.1,by omega⟩ u;have n:Hid (De L j*256+L.getD j 0=De L (j+1)):=rfl;have q:=p.1;clear p k y;generalize De L j=X at q r i n;generalize L.getD j 0=B at u A i n;go_wp2
   go_roundw
   case rel=>exact⟨j+1,by omega,by go_num,by rw[<- n.out],trivial⟩
   case measure=>simp[intOf];omega
  .obtain rfl:j=4:=by omega
   rw[show((4:Nat):Int)=4 from rfl,s.out];go_wp2
   go_ret;exact⟨rfl,rfl⟩
def RQ(l:List Int)(j:Nat):List Int:=(List.range 5).map λi=>if i<j then Ad l (4*i)else 0
def rowOf(m:List Int):Array Value:=(m.map (Value.int .i64)).toArray
theorem XJ(l:List Int)(j:Nat)(a:j<5):(rowOf (RQ l j)).setIfInBounds j (.int .i64 (Ad l (4*j)))=rowOf (RQ l (j+1)):=by
 rcases(by omega:j=0\/j=1\/j=2\/j=3\/j=4)with rfl|rfl|rfl|rfl|rfl
 all_goals rfl
theorem Lg(v:Value)(l:List Int)(w:World)(h:Sl w v l)(ht:NTab w) :
  Calls prog 140 #[v] w λe w'=>e=.returned (.tuple #[.agg (Kk l),.int .i64 (Cq l)])/\Bw w w':=by
 have G:=h.len;obtain⟨a,cp,rfl⟩:=h.shape;by_cases E:l.length=20
 .have i:Hid (Cq l=Bi (Ad l 0) (Ad l 4) (Ad l 8) (Ad l 12) (Ad l 16)):=if_neg (λg=>g E);have Z:=h;have HL:Hid (l.length=20):=E;rw[E]at Z ⊢
  clear h E G;have b0:Bw w (w.alloc (.cells (cmA 0 0 0 0 0) 51)):=(Below.refl _ _).alloc (A' _) _;have z0:(w.alloc (.cells (cmA 0 0 0 0 0) 51)).heap.size=w.heap.size+1:=by simp
  have B:=heap_alloc_new w (.cells (cmA 0 0 0 0 0) 51);have N:Below (w.heap.size+1) (w.alloc (.cells (cmA 0 0 0 0 0) 51)) ((w.alloc (.cells (cmA 0 0 0 0 0) 51)).alloc (.cells (cmA 0 0 0 0 0) 51)):=(Below.refl _ _).alloc (by omega) _;have C:=heap_alloc_new (w.alloc (.cells (cmA 0 0 0 0 0) 51)) (.cells (cmA 0 0 0 0 0) 51);rw[z0]at C
  replace B:=(N.block w.heap.size (by omega)).trans B;have J:=b0.trans (N.mono (nE _));have z1:((w.alloc (.cells (cmA 0 0 0 0 0) 51)).alloc (.cells (cmA 0 0 0 0 0) 51)).heap.size=w.heap.size+1+1:=by simp
  have Y:(w.alloc (.cells zV5 51)).alloc (.cells zV5 51)=(w.alloc (.cells (cmA 0 0 0 0 0) 51)).alloc (.cells (cmA 0 0 0 0 0) 51):=rfl;clear b0 N z0;generalize (w.alloc (.cells (cmA 0 0 0 0 0) 51)).alloc (.cells (cmA 0 0 0 0 0) 51)=W at B C J z1 Y;go_enter func140,ntmps140
  go_wp2_with fail
  clear Y;refine(Hl (w.heap.size+1) W).mono ?_;rintro e w2 ⟨rfl,H⟩;replace B:=(H.block w.heap.size (by omega)).trans B;replace C:=(H.block (w.heap.size+1) (by omega)).trans C;have d2:=J.trans (H.mono J.size);have o:Hid _:=B;have q:Hid (w2.heap[w.heap.size+1]?=some (.cells (rowOf (RQ l 0)) 51)):=C;clear B C H J z1;have y:=QH (w.heap.size+1);go_wp2_with fail
  go_loopw [13] (λiv wr=>∃ j:Nat,j<=5/\iv=.int .i64 (j:Int)/\wr.heap[w.heap.size]?=some (.cells (cmA 0 0 0 0 0) 51)/\wr.heap[w.heap.size+1]?=some (.cells (rowOf (RQ l j)) 51)/\Bw w wr) (λiv _=>(5-intOf iv).toNat)
  case atStart=>exact⟨0,by omega,rfl,o.out,q.out,d2⟩
  case round =>
   obtain⟨j,hj,rfl,r,m,d⟩:=hrel;clear o q;by_cases z:j<5
   .have hji:(j:Int)<5:=by omega
    have a1:=y j z;have u:∃ x,wr.cell? ⟨w.heap.size+1,j,none⟩=some (.int .i64 x):=⟨(RQ l j).getD j 0,(cell_of_row _ _ j _ _ _ m).trans (by simp[rowOf,RQ,z])⟩;obtain⟨x,hx⟩:=u;have a0:=frozen_of_row wr _ j _ _ m;have o:Hid _:=r;have q:Hid _:=m;have R:=XJ l j z;clear y r m;go_wp2_with fail
    refine(I9 (.slice a 20 cp) l (4*j) wr (Z.af d) (by rw[HL.out];omega) _ (by omega)).mono ?_;rintro e Q ⟨rfl,rfl⟩;have A:(Q.setCell ⟨w.heap.size+1,j,none⟩ (.int .i64 (Ad l (4*j)))).heap[w.heap.size]?=some (.cells (cmA 0 0 0 0 0) 51):=(heap_setCell_other _ _ _ _ (by simp)).trans o.out;have M:(Q.setCell ⟨w.heap.size+1,j,none⟩ (.int .i64 (Ad l (4*j)))).heap[w.heap.size+1]?=some (.cells (rowOf (RQ l (j+1))) 51):=by
     rw[heap_setCell_same _ _ _ _ _ _ q.out,R]
    have q2:Bw w (Q.setCell ⟨w.heap.size+1,j,none⟩ (.int .i64 (Ad l (4*j)))):=d.setCell (p:=⟨w.heap.size+1,j,none⟩) (nE _) _;have S:Hid _:=A;have T:Hid _:=M;clear R A M o q;generalize Ad l (4*j)=X at S T q2 ⊢;go_wp2
    go_roundw
    case rel=>exact⟨j+1,by omega,by go_num,S.out,T.out,q2⟩
    case measure=>simp[intOf];omega
   .obtain rfl:j=5:=by omega
    rw[show((5:Nat):Int)=5 from rfl];have b:wr.heap[w.heap.size+1]?=some (.cells (cmA (Ad l 0) (Ad l 4) (Ad l 8) (Ad l 12) (Ad l 16)) 51):=m;clear m y;have f:Hid (Cq l=0->Kk l=cmA (Ad l 0) (Ad l 4) (Ad l 8) (Ad l 12) (Ad l 16)):=λh=>if_pos h;have t:Hid (¬ Cq l=0->Kk l=cmA 0 0 0 0 0):=λh=>if_neg h;have V:=ht.af d;generalize Ad l 0=k at i f b;generalize Ad l 4=c at i f b;generalize Ad l 8=s at i f b;generalize Ad l 12=n at i f b;generalize Ad l 16=v at i f b;have L:=GM k c s n v;have F:=GM 0 0 0 0 0;have O:=(U'.1 b).1;go_wp2_with (refine wpList_load_row rfl 51 _ rfl (w.heap.size+1) rfl 51 _ (0,0) _ b underlying51 rfl L ?_)
    refine(Ex k c s n v wr V).mono ?_;rintro e w6 ⟨rfl,I⟩;have U:=d.trans (I.mono d.size);have A:=(I.block w.heap.size (by omega)).trans r;have M:=(I.block (w.heap.size+1) O).trans b;clear r b I V d;by_cases K:Bi k c s n v=0
    .have HZ:Hid (Cq l=0):=i.out.trans K;have D:Hid (Kk l=cmA k c s n v):=f.out HZ.out;rw[K];clear K i f t;go_wp2_with (first|(refine wpList_load_row rfl 51 _ rfl (w.heap.size+1) rfl 51 _ (0,0) _ M underlying51 rfl L ?_)|(refine wpList_store_row rfl 51 (.tmp 2) (.tmp 30) rfl w.heap.size (cmA k c s n v) rfl rfl 51 _ A L rfl (TW k c s n v) ?_))
     have P:=setRow_heap w6 w.heap.size _ (cmA k c s n v) 51 _ A;refine bodyPost_ret (JN rfl _ _ w.heap.size 51 _ (0,0) _ rfl P underlying51 rfl L) rfl ?_;rw[HZ.out,D.out];exact⟨rfl,Cw U (A' _) _⟩
    .have HZ:Hid (Cq l=Bi k c s n v):=i.out;have D:Hid (Kk l=cmA 0 0 0 0 0):=t.out (by rw[i.out];exact K);clear i f t;go_wp2_with (refine wpList_store_row rfl 51 (.tmp 2) (.tmp 28) rfl w.heap.size (cmA 0 0 0 0 0) rfl rfl 51 _ A F rfl (TW 0 0 0 0 0) ?_)
     have P:=setRow_heap w6 w.heap.size _ (cmA 0 0 0 0 0) 51 _ A;refine bodyPost_ret (JN rfl _ _ w.heap.size 51 _ (0,0) _ rfl P underlying51 rfl F) rfl ?_;rw[HZ.out,D.out];exact⟨rfl,Cw U (A' _) _⟩
 .have h1':¬ (l.length:Int)=20:=by omega
  have i:Hid (Cq l=1):=if_pos E;have D:Hid (Kk l=cmA 0 0 0 0 0):=if_neg (by rw[i.out];omega);have bb:Bw w (w.alloc (.cells (cmA 0 0 0 0 0) 51)):=(Below.refl _ _).alloc (A' _) _;have bc:=Bc.made w 0 0 0 0 0;go_enter func140,ntmps140
  go_wp2
  refine bodyPost_ret (JN rfl _ _ w.heap.size 51 _ (0,0) _ rfl (heap_alloc_new _ _) underlying51 rfl (GM 0 0 0 0 0)) rfl ?_;rw[i.out,D.out];exact⟨rfl,bb⟩
theorem IP(c r u:Int):(tkA c r u).all (·.oneCell')=true:=by simp[tkA,Value.oneCell']
theorem Ro(v:Value)(l:List Int)(w:World)(h:Sl w v l)(x:6<=l.length) :
  Calls prog 171 #[v] w λe w'=>e=.returned (.agg (tkA (l.getD 0 0) (l.getD 1 0) (Ad l 2)))/\Bw w w':=by
 have d:=h.len;obtain⟨a,t,rfl⟩:=h.shape;have i:Bw w (w.alloc (.cells (tkA 0 0 0) 81)):=(Below.refl _ _).alloc (A' _) _;have j:=heap_alloc_new w (.cells (tkA 0 0 0) 81);have f:=h.af i;have o:w.alloc (.cells #[.int .i64 0,.int .i64 0,.int .i64 0] 81)=w.alloc (.cells (tkA 0 0 0) 81):=rfl;generalize w.alloc (.cells (tkA 0 0 0) 81)=W0 at i j f o;obtain⟨r,od,rfl,u,k⟩:=f.rQ 0 (by omega);obtain⟨s,A,m,_,q⟩:=f.rQ 1 (by omega);simp only[Y',Addr.mk.injEq,and_true]at m;obtain⟨rfl,rfl⟩:=m;rw[oM]at k
 have C:=Al h.byte 0;have D:=Al h.byte 1;have y:(0:Int)<(l.length:Int):=by omega
 have z:(1:Int)<(l.length:Int):=by omega
 have n:Calls prog 172 #[.slice (some ⟨r,od,none⟩) l.length t,.int .i64 2] W0.drew λe w'=>e=.returned (.int .i64 (Ad l 2))/\w'=W0.drew :=
  I9 _ l 2 _ (f.af (Below.refl _ _).drew) (by omega) 2 rfl
 have g:Hid _:=n;clear n;generalize l.getD 0 0=b0 at k C;generalize l.getD 1 0=b1 at q D;generalize Ad l 2=b2 at g;generalize l.length=N at d x y z g ⊢;clear h f;have p:=IQ b0 b1 b2;go_enter func171,ntmps171
 go_wp2_with fail
 refine Au 11 (by kernel_rfl) (by kernel_rfl) ?_;simp only[nG,nM,nO,oC]
 repeat (go_big_quiet_step (fail))
 go_big_quiet_want
 go_big_quiet_op
 refine⟨_,g.out,?_⟩
 go_big_quiet_on
 repeat (go_big_quiet_step (fail))
 refine wpQuiet_nil ?_;clear o;have b:W0.drew.heap[w.heap.size]?=some (.cells (tkA 0 0 0) 81):=j;have c:Bw w W0.drew:=i.drew;clear j i k q g;generalize W0.drew=W at b c ⊢;go_wp2_with (refine wpList_store_row rfl 81 (.tmp 2) (.tmp 13) rfl w.heap.size (tkA b0 b1 b2) rfl rfl 81 _ b p rfl (IP b0 b1 b2) ?_)
 have B:=setRow_heap W w.heap.size _ (tkA b0 b1 b2) 81 _ b;exact bodyPost_ret (v:=.agg (tkA b0 b1 b2)) (results_cell_row rfl _ _ w.heap.size 81 _ (0,0) _ rfl B underlying81 rfl p) rfl ⟨rfl,Cw c (A' _) _⟩
def EA(key l:List Int):Int :=
 if key.length≠32\/l.length≠22 then 1
 else if(E8 key (l.take 6)).take 16≠l.drop 6 then 6
 else Nl (l.getD 0 0) (l.getD 1 0) (Ad l 2)
def MZ(key l:List Int):Array Value:=if EA key l=0 then tkA (l.getD 0 0) (l.getD 1 0) (Ad l 2)else tkA 0 0 0
theorem NZ(h:key.length≠32\/l.length≠22):EA key l=1:=if_pos h
theorem Zu(a:key.length=32)(b:l.length=22)(h:¬ (E8 key (l.take 6)).take 16=l.drop 6):EA key l=6:=by
 unfold EA;rw[if_neg (by omega),if_pos h]
theorem Zv(a:key.length=32)(b:l.length=22)(h:(E8 key (l.take 6)).take 16=l.drop 6):EA key l=Nl (l.getD 0 0) (l.getD 1 0) (Ad l 2):=by
 unfold EA;rw[if_neg (by omega),if_neg (λg=>g h)]
theorem U5(h:EA key l=0):MZ key l=tkA (l.getD 0 0) (l.getD 1 0) (Ad l 2):=if_pos h
theorem IB(h:¬ EA key l=0):MZ key l=tkA 0 0 0:=if_neg h
theorem SO(l:List Int):Ad (l.take 6) 2=Ad l 2:=by
 unfold Ad;rw[B9 _ _ _ (by omega),B9 _ _ _ (by omega),B9 _ _ _ (by omega),B9 _ _ _ (by omega)]
theorem Wi(vk vb:Value)(key l:List Int)(w:World)(z:Sl w vk key)(x:Sl w vb l)(ht:AB w) :
  Calls prog 139 #[vk,vb] w λe w'=>e=.returned (.tuple #[.agg (MZ key l),.int .i64 (EA key l)])/\Bw w w':=by
 have lk:=z.len;have ll:=x.len;obtain⟨ak,ck,rfl⟩:=z.shape;obtain⟨U,Y,rfl⟩:=x.shape;have i:Bw w (w.alloc (.cells (tkA 0 0 0) 81)):=(Below.refl _ _).alloc (A' _) _;have L:=heap_alloc_new w (.cells (tkA 0 0 0) 81);have d:=IQ 0 0 0;by_cases o:key.length=32
 .by_cases h2:l.length=22
  .have H1:Hid (key.length=32):=o;have t:Hid (l.length=22):=h2;rw[o]at z ⊢
   rw[h2]at x ⊢
   clear lk ll o h2;have v:w.alloc (.cells #[.int .i64 0,.int .i64 0,.int .i64 0] 81)=w.alloc (.cells (tkA 0 0 0) 81):=rfl;generalize w.alloc (.cells (tkA 0 0 0) 81)=W at i L v;obtain⟨S,V,C,s6⟩:=x.ra 6 (by have:=t.out;omega);have r6:∀ W,(Instr.slice 52 (.slice U 22 Y) none (some (.int .i64 6)) none).run prog W=.ok (.slice S 6 V) W:=C;obtain⟨T,X,D,s7⟩:=x.from 6 (by have:=t.out;omega);have r7:∀ W,(Instr.slice 52 (.slice U 22 Y) (some (.int .i64 6)) none none).run prog W=.ok (.slice T 16 X) W:=D;clear C D;have R:Hid ((l.take 6).length=6):=by unfold Hid;rw[X',t.out];rfl
   go_enter func139,ntmps139
   go_wp2_with fail
   clear v;refine(Rg _ _ key (l.take 6) W (z.af i) (s6.af i) (by rw[H1.out];omega) (by rw[R.out];omega) (ht.af i)).mono ?_;rintro e M ⟨v1,rfl,s1,N⟩;have P:=i.trans (N.mono i.size);have q1:=(N.block w.heap.size (U'.1 L).1).trans L;have E:=s7.af P;clear N i L;go_wp2_with fail
   refine(IH v1 (.slice T 16 X) _ _ M s1 E).mono ?_;rintro e w2 ⟨rfl,m,rfl⟩;have n:Bw w (M.drewN m):=Aq P m;have s:(M.drewN m).heap[w.heap.size]?=some (.cells (tkA 0 0 0) 81):=q1;clear q1 P s1 E;generalize M.drewN m=W2 at n s ⊢;by_cases p:(E8 key (l.take 6)).take 16=l.drop 6
   .have HE:=Zv H1.out t.out p;have b:Hid (EA key l=0->MZ key l=tkA (l.getD 0 0) (l.getD 1 0) (Ad l 2)):=U5;have j:Hid (¬ EA key l=0->MZ key l=tkA 0 0 0):=IB;have F:Hid ((l.take 6).getD 0 0=l.getD 0 0/\(l.take 6).getD 1 0=l.getD 1 0/\Ad (l.take 6) 2=Ad l 2):=⟨B9 _ _ _ (by omega),B9 _ _ _ (by omega),SO l⟩;rw[M' p];clear p;go_wp2_with fail
    refine(Ro (.slice S 6 V) (l.take 6) W2 (s6.af n) (by rw[R.out];omega)).mono ?_;rintro e g ⟨rfl,O⟩;rw[F.out.1,F.out.2.1,F.out.2.2];have Q:=n.trans (O.mono n.size);have f:=(O.block w.heap.size (U'.1 s).1).trans s;clear O s n F;generalize l.getD 0 0=c at HE b ⊢;generalize l.getD 1 0=r at HE b ⊢;generalize Ad l 2=u at HE b ⊢;have y:=IQ c r u;have H:Bw g (g.alloc (.cells (tkA 0 0 0) 81)):=(Below.refl _ _).alloc (A' _) _;have K:=heap_alloc_new g (.cells (tkA 0 0 0) 81);have v:g.alloc (.cells #[.int .i64 0,.int .i64 0,.int .i64 0] 81)=g.alloc (.cells (tkA 0 0 0) 81):=rfl;generalize g.alloc (.cells (tkA 0 0 0) 81)=W4 at H K v;have A:w.heap.size<g.heap.size:=(U'.1 f).1
    go_upto_region 10 with(refine wpList_store_row rfl 81 (.tmp 9) (.tmp 38) rfl g.heap.size (tkA c r u) rfl rfl 81 _ K y rfl (IP c r u) ?_)
    clear v;have k:=setRow_heap W4 g.heap.size _ (tkA c r u) 81 _ K;replace f:=((H.block w.heap.size A).trans f);replace f:=(setRow_other W4 g.heap.size w.heap.size (tkA c r u) (by omega)).trans f;have J:=Cw (Q.trans (H.mono Q.size)) (show w.heap.size<=g.heap.size by omega) (tkA c r u);generalize W4.setRow g.heap.size (tkA c r u)=W5 at f k J ⊢;clear K H Q;generalize g.heap.size=G at k A ⊢;go_wp2_with (refine wpList_load_row rfl 81 _ rfl G rfl 81 _ (0,0) _ k underlying81 rfl y ?_)
    refine(Jl c r u W5).mono ?_;rintro e w6 ⟨rfl,I⟩;have Z:=J.trans (I.mono J.size);replace f:=(I.block w.heap.size (U'.1 f).1).trans f;replace k:=(I.block G (U'.1 k).1).trans k;clear I J;by_cases q:D2 c r u
    .have a:Hid (EA key l=0):=HE.trans (KH q);have h:Hid (MZ key l=tkA c r u):=b.out a.out;rw[M' q];clear HE b j q;go_wp2_with (first|(refine wpList_load_row rfl 81 _ rfl G rfl 81 _ (0,0) _ k underlying81 rfl y ?_)|(refine wpList_store_row rfl 81 (.tmp 4) (.tmp 43) rfl w.heap.size (tkA c r u) rfl rfl 81 _ f y rfl (IP c r u) ?_))
     have B:=setRow_heap w6 w.heap.size _ (tkA c r u) 81 _ f;refine bodyPost_ret (JN rfl _ _ w.heap.size 81 _ (0,0) _ rfl B underlying81 rfl y) rfl ?_;rw[a.out,h.out];exact⟨rfl,Cw Z (A' _) _⟩
    .have a:Hid (EA key l=2):=HE.trans (UJ q);have h:Hid (MZ key l=tkA 0 0 0):=j.out (by rw[a.out];omega);rw[E' q];clear HE b j q;go_wp2_with (refine wpList_store_row rfl 81 (.tmp 4) (.tmp 42) rfl w.heap.size (tkA 0 0 0) rfl rfl 81 _ f d rfl (IP 0 0 0) ?_)
     have B:=setRow_heap w6 w.heap.size _ (tkA 0 0 0) 81 _ f;refine bodyPost_ret (JN rfl _ _ w.heap.size 81 _ (0,0) _ rfl B underlying81 rfl d) rfl ?_;rw[a.out,h.out];exact⟨rfl,Cw Z (A' _) _⟩
   .have a:Hid (EA key l=6):=Zu H1.out t.out p;have h:Hid (MZ key l=tkA 0 0 0):=IB (by rw[a.out];omega);rw[E' p];clear p;go_wp2_with (refine wpList_store_row rfl 81 (.tmp 4) (.tmp 36) rfl w.heap.size (tkA 0 0 0) rfl rfl 81 _ s d rfl (IP 0 0 0) ?_)
    have B:=setRow_heap W2 w.heap.size _ (tkA 0 0 0) 81 _ s;refine bodyPost_ret (JN rfl _ _ w.heap.size 81 _ (0,0) _ rfl B underlying81 rfl d) rfl ?_;rw[a.out,h.out];exact⟨rfl,Cw n (A' _) _⟩
  .have h2':¬ (l.length:Int)=22:=by omega
   have a:Hid (EA key l=1):=NZ (.inr h2);have h:Hid (MZ key l=tkA 0 0 0):=IB (by rw[a.out];omega);rw[o]at z ⊢
   clear o;go_enter func139,ntmps139
   go_wp2
   refine bodyPost_ret (JN rfl _ _ w.heap.size 81 _ (0,0) _ rfl (heap_alloc_new _ _) underlying81 rfl d) rfl ?_;rw[a.out,h.out];exact⟨rfl,i⟩
 .have h1':¬ (key.length:Int)=32:=by omega
  have a:Hid (EA key l=1):=NZ (.inl o);have h:Hid (MZ key l=tkA 0 0 0):=IB (by rw[a.out];omega);go_enter func139,ntmps139
  go_wp2
  refine bodyPost_ret (JN rfl _ _ w.heap.size 81 _ (0,0) _ rfl (heap_alloc_new _ _) underlying81 rfl d) rfl ?_;rw[a.out,h.out];exact⟨rfl,i⟩
end
end
section
section
def OZ(l:List Int):Int:=if l=[]then 13 else if 7<l.getD 0 0 then 2 else Kc (Jk (l.getD 0 0)) 0 0 noB (l.drop 1)
def SV(l:List Int):List Int:=if OZ l=0 then Mn (Jk (l.getD 0 0)) (l.drop 1)else[]
def unT(l:List Int):List Int:=(SV l).take 22
def unQ(l:List Int):List Int:=(SV l).drop 22
def unB(l:List Int):Prop:=OZ l=0/\(SV l).length=42/\EA F9 (unT l)=0
instance (l:List Int):Decidable (unB l):=by unfold unB;exact inferInstance
def unE(l:List Int):Int:=if OZ l≠0 then OZ l else if(SV l).length≠42 then 3 else if EA F9 (unT l)≠0 then EA F9 (unT l)else Cq (unQ l)
variable{i:Nat}{l:List Int}{now:Int}
theorem Rq(h:unE l=0):unB l/\Cq (unQ l)=0:=by
 unfold unE at h;split at h
 .rename_i g;exact absurd h g
 .rename_i g1
  split at h
  .cases h
  .rename_i g2
   split at h
   .rename_i g;exact absurd h g
   .rename_i g3
    exact⟨⟨mz.1 g1,mz.1 g2,mz.1 g3⟩,h⟩
theorem l9(h:unE l=0):0<l.length:=by
 obtain⟨⟨a,_⟩,_⟩:=Rq h;cases l with
 | nil=>cases a
 | cons x r=>simp
def opE(l:List Int)(now:Int):Int :=
 if unE l≠0 then unE l
 else if Ad (unQ l) 0≠0/\Ad (unQ l) 4≠l.getD 0 0 then 11
 else Fw ((unT l).getD 0 0) ((unT l).getD 1 0) (Ad (unT l) 2) (Ad (unQ l) 0) (Ad (unQ l) 4) (Ad (unQ l) 8) (Ad (unQ l) 12) (Ad (unQ l) 16) now
def opA(l:List Int)(now:Int):Array Value:=if opE l now=0 then cmA (Ad (unQ l) 0) (Ad (unQ l) 4) (Ad (unQ l) 8) (Ad (unQ l) 12) (Ad (unQ l) 16)else cmA 0 0 0 0 0
theorem iB(h:opE l now≠0):opA l now=cmA 0 0 0 0 0:=if_neg h
theorem iC(h:opE l now=0):opA l now=cmA (Ad (unQ l) 0) (Ad (unQ l) 4) (Ad (unQ l) 8) (Ad (unQ l) 12) (Ad (unQ l) 16):=if_pos h
def Nod.kc(p:Nod)(i:Nat):Nod × List Let :=
 if(Ba p.vo.p p.cl (p.bn.take 40)).1=[]then({ p with cl:=(Ba p.vo.p p.cl (p.bn.take 40)).2 },[])
 else if p.vo.p.n=(i:Int)then(Nod.dT { p with cl:=(Ba p.vo.p p.cl (p.bn.take 40)).2 } (Ba p.vo.p p.cl (p.bn.take 40)).1,[])
 else({ p with cl:=(Ba p.vo.p p.cl (p.bn.take 40)).2 },[{ BC 6 with bu:=p.ab.length,gC:=(Ba p.vo.p p.cl (p.bn.take 40)).1,src:=i,dst:=p.vo.p.n.toNat }])
noncomputable def rz(i:Nat):List Cmd->Nod->List Tol->Nod × List Tol
 | [],p,ts=>(p,ts)
 | c::l,p,ts =>
  if doE p.ni c≠0 then(p,ts)
  else rz i l (Nod.hZ { p with ni:=doS p.ni c,done:=p.done+1 } c) (if(p.cl c).isSome=true then ts++[⟨i,c.c,c.s,doC p.ni c,doA p.ni c⟩]else ts)
def Nod.ov(p:Nod)(i:Nat)(ls:List Let):Nod × List Let:=if p.sy<(p.d.length:Int)/\CX p.d p.sy≠0 then(p,ls)else qW i p.bw { p.ry with bw:=[] } ls
def Nod.bN(p:Nod)(i:Nat)(ls:List Let):Nod × List Let:=if p.leads then(E7 p i 5,ls++Dl p i 5)else(p,ls)
noncomputable def Nod.piece(p:Nod)(i:Nat)(ls:List Let)(ts:List Tol):Nod × List Let × List Tol :=
 let a:=rz i (p.ab.drop p.done) p ts
 let b:=a.1.kc i
 let c:=b.1.cF.ov i (ls++b.2)
 let d:=c.1.bN i c.2
 (d.1,d.2,a.2)
noncomputable def Nod.rG(p:Nod)(i:Nat)(e:Int)(c:Cmd)(ts:List Tol):Nod × List Tol :=
 if p.up=false then(p,ts)
 else if e≠0 then({ p with bad:=p.bad+1 },ts)
 else if c∈p.ab.take p.done then(p,ts++[⟨i,c.c,c.s,doC p.ni c,doA p.ni c⟩])
 else(p.want c,ts)
def FH(l:List Int)(now:Int):Cmd:=if opE l now=0 then⟨Ad (unQ l) 0,Ad (unQ l) 4,Ad (unQ l) 8,Ad (unQ l) 12,Ad (unQ l) 16⟩else RG
theorem iA(l:List Int)(a:Int):opA l a=cmC (FH l a):=by unfold opA FH;split<;>rfl
noncomputable def Nod.rE(p:Nod)(i:Nat)(d:List Int)(ts:List Tol):Nod × List Tol:=p.rG i (opE d (p.done:Int)) (FH d (p.done:Int)) ts
def Meet.set(M:Meet)(i:Nat)(p:Nod)(ls:List Let)(ts:List Tol):Meet:=⟨upN M.ae i p,ls,ts⟩
noncomputable def Meet.act(M:Meet)(x:Lac):Meet :=
 let i:=x.n.toNat
 if x.k=1 then M.set i ((M.ae i).rE i x.d M.ed).1 M.br ((M.ae i).rE i x.d M.ed).2
 else if x.k=2 then M.set i (if(M.ae i).up then(M.ae i).lead i else M.ae i) M.br M.ed
 else if x.k=3 then M.set i (if(M.ae i).up then((M.ae i).piece i M.br M.ed).1 else M.ae i) (if(M.ae i).up then((M.ae i).piece i M.br M.ed).2.1 else M.br) (if(M.ae i).up then((M.ae i).piece i M.br M.ed).2.2 else M.ed)
 else if x.k=4\/x.k=5\/x.k=6 then M.move x.k x.a.toNat
 else if x.k=7 then M.rp
 else if x.k=8 then M.set i (if(M.ae i).up then(M.ae i).lp x.p else M.ae i) M.br M.ed
 else if x.k=9 then M.set i (if(M.ae i).up then M.ae i else(M.ae i).start) M.br M.ed
 else M
noncomputable def Meet.fa(M:Meet)(l:List Lac):Meet:=l.foldl Meet.act M
theorem eg(r:List Int):Ao (Ef r).2.p/\BO (Ef r).2.vs:=by
 have h:∀ k,Ao (itR r k).2.p/\BO (itR r k).2.vs:=by
  intro k;induction k with
  | zero=>exact⟨.inr ⟨rfl,rfl⟩,BO.nil⟩
  | succ k ih =>
   rw[itR];unfold JL;split
   .exact ih
   .rename_i c m hs
    have d:∃ b,DK (itR r k).2 b=some c:=by
     unfold BY at hs;split at hs
     .cases hs
     .split at hs
      .cases hs
      .split at hs
       .cases hs
       .obtain⟨x,hx,e⟩:=nS.1 hs;injection e with e1 e2
        subst e1;exact⟨_,hx⟩
    obtain⟨b,a⟩:=d;unfold DK at a;split at a
    .split at a
     .rename_i h1
      injection a with a;subst a
      exact⟨.inl (Cj h1).2.1,ih.2⟩
     .cases a
    .split at a
     .split at a
      .split at a
       .rename_i h1
        injection a with a;subst a
        exact⟨.inl (Ap h1).2.1.2.1,Gt ih.2 (Ap h1).2.1⟩
       .cases a
      .cases a
     .cases a
 exact h r.length
theorem ef(d:List Int)(s:Int):Ao (Gy d s).p/\BO (Gy d s).vs:=by
 unfold Gy;split
 .exact eg d
 .exact⟨.inr ⟨rfl,rfl⟩,BO.nil⟩
theorem CE{l m:Let}{k:Nat}(h:m∈BU i l k):∃ to,to<k/\m={ l with src:=i,dst:=to }:=by
 unfold BU at h;obtain⟨to,a,rfl⟩:=mQ.1 h;exact⟨to,om.1 (pC.1 a).1,rfl⟩
theorem Ju(a:i<5)(l:Let):(BU i l 5).length<=4:=by
 unfold BU;rw[mO];rcases ri a with rfl|rfl|rfl|rfl|rfl<;>decide
end
section
variable{n i:Nat}{p:Nod}
theorem NOk.lr(h:NOk n p)(a:i<5){q:Pend}(c:POk p.ab.length q):NOk n (p.lr i q)/\(p.lr i q).bw=p.bw/\p.ab.length<=(p.lr i q).ab.length/\Rx p i q/\(∀ m∈p.rh i q,LOk m)/\(p.rh i q).length<=q.wt:=by
 have g:=h.ag;have one:∀ {l:Let},LOk l->∀ m∈[l],LOk m:=λj m d=>by rw[D'.1 d];exact j
 cases q with
 | began b vs =>
  unfold Nod.lr Nod.rh;refine⟨?_,?_,?_,qi (h.he i).len (by decide),?_,?_⟩
  .simp only;split
   .exact h
   .exact h.rC i c
  .simp only;split<;>rfl
  .simp only;split<;>exact A' _
  .simp only;split
   .exact λm d=>by cases d
   .rename_i h1
    intro m d;obtain⟨to,e,rfl⟩:=CE d;exact⟨by show 0<7;decide,a,e,by show Ao b;rw[<- nc h1];exact h.vp,BO.nil,by show 0<=40;decide,λh=>by cases h⟩
  .simp only;split
   .exact mV _
   .exact Ju a _
 | prom to b vs=>exact⟨h,rfl,A' _,trivial,one ⟨by show 1<7;decide,a,c.1,c.2.1,c.2.2,g,λh=>by cases h⟩,A' _⟩
 | voted to v=>exact⟨h,rfl,A' _,trivial,one ⟨by show 4<7;decide,a,c,Ao.b0,BO.nil,by show 0<=40;decide,λh=>by cases h⟩,A' _⟩
 | ew to b=>exact⟨h,rfl,A' _,trivial,one ⟨by show 2<7;decide,a,c.1,c.2,BO.nil,by show 0<=40;decide,λh=>by cases h⟩,A' _⟩
 | prop v =>
  have f:=h.count i v;refine⟨f.1,f.2.1,f.2.2,g,λm d=>?_,Ju a _⟩;obtain⟨to,e,rfl⟩:=CE d;exact⟨by show 3<7;decide,a,e,Ao.b0,BO.nil,by show 0<=40;decide,λh=>by cases h⟩
 | askNews to=>exact⟨h,rfl,A' _,trivial,one ⟨by show 6<7;decide,a,c,Ao.b0,BO.nil,by show 0<=40;decide,λh=>by cases h⟩,A' _⟩
 | start =>
  refine⟨h,rfl,A' _,trivial,λm d=>?_,Ju a _⟩;obtain⟨to,e,rfl⟩:=CE d;exact⟨by show 6<7;decide,a,e,Ao.b0,BO.nil,by show 0<=40;decide,λh=>by cases h⟩
 | tell to bu=>exact⟨h,rfl,A' _,c.2,one ⟨by show 5<7;decide,a,c.1,Ao.b0,BO.nil,by show(p.ab.drop bu).length<=40;rw[mF];omega,λ_=>by show bu+(p.ab.drop bu).length<=40;rw[mF];have:=c.2;omega⟩,A' _⟩
theorem XQ(k:i<5)(l:List Pend)(p:Nod)(a:List Let)(h:NOk n p)(c:∀ q∈l,POk p.ab.length q)(z:a.length+Az l<90000000)(b:∀ m∈a,LOk m) :
  NOk n (qW i l p a).1/\(qW i l p a).1.bw=p.bw/\(∀ m∈(qW i l p a).2,LOk m)/\(qW i l p a).2.length<=a.length+Az l/\GI i l p a:=by
 induction l generalizing p a with
 | nil=>exact⟨h,rfl,b,A' _,trivial⟩
 | cons q l ih =>
  obtain⟨d,e,f,g,j,y⟩:=h.lr k (c q O');have A:Az (q::l)=q.wt+Az l:=rfl;obtain⟨t,u,v,w,x⟩:=ih (p.lr i q) (a++p.rh i q) d (λr s=>(c r (I' _ s)).mono f) (by rw[H'];omega) (λm o=>by
   rcases P'.1 o with h|h
   .exact b m h
   .exact j m h)
  refine⟨t,u.trans e,v,?_,g,by omega,x⟩;show(qW i l (p.lr i q) (a++p.rh i q)).2.length<=_;rw[H']at w;omega
theorem NOk.ry(h:NOk n p):NOk n { p.ry with bw:=[] }:=by
 unfold Nod.ry;split
 .exact{ h with pe:=λq a=>by cases a }
 .exact{ h with pe:=λq a=>by cases a }
theorem T8(p:Nod):p.ry.ab=p.ab:=by unfold Nod.ry;split<;>rfl
theorem NOk.ov(h:NOk n p)(d:i<5){ls:List Let}(c:ls.length+Az p.bw<90000000)(b:∀ m∈ls,LOk m) :
  NOk n (p.ov i ls).1/\(∀ m∈(p.ov i ls).2,LOk m)/\(p.ov i ls).2.length+Az (p.ov i ls).1.bw<=ls.length+Az p.bw/\GI i p.bw { p.ry with bw:=[] } ls:=by
 have a:=XQ d p.bw { p.ry with bw:=[] } ls h.ry (λq e=>by show POk p.ry.ab.length q;rw[T8];exact h.pe q e) c b;unfold Nod.ov;split
 .exact⟨h,b,A' _,a.2.2.2.2⟩
 .exact⟨a.1,a.2.2.1,by rw[a.2.1];exact a.2.2.2.1,a.2.2.2.2⟩
theorem Xm(b:Bal)(f:Cmd->Option Bal)(l:List Cmd):(Ba b f l).1.length<=l.length:=by
 induction l generalizing f with
 | nil=>exact A' _
 | cons c l ih =>
  rw[Ba];split
  .have:=ih (BV f c (some b));simp only[mY];omega
  .have:=ih f;simp only[mY];omega
theorem Ve(b:Bal)(f:Cmd->Option Bal)(l:List Cmd)(c:Cmd)(h:((Ba b f l).2 c).isSome=true):(f c).isSome=true\/c∈l:=by
 induction l generalizing f with
 | nil=>exact .inl h
 | cons d l ih =>
  rw[Ba]at h
  split at h
  .rcases ih _ h with h1|h1
   .unfold BV at h1;split at h1
    .rename_i e;exact .inr (e▸O')
    .exact .inl h1
   .exact .inr (I' _ h1)
  .rcases ih _ h with h1|h1
   .exact .inl h1
   .exact .inr (I' _ h1)
theorem NOk.asks(h:NOk n p):NOk n { p with cl:=(Ba p.vo.p p.cl (p.bn.take 40)).2 } :=
 { h with ask:=λc a=>(Ve _ _ _ c a).elim (h.ask c) mL }
theorem NOk.kc(h:NOk n p)(c:i<5):NOk n (p.kc i).1/\(p.kc i).1.bw=p.bw/\(p.kc i).1.ab=p.ab/\(∀ m∈(p.kc i).2,LOk m)/\(p.kc i).2.length<=1:=by
 have b:(Ba p.vo.p p.cl (p.bn.take 40)).1.length<=40:=my (Xm _ _ _) (by rw[X'];omega);unfold Nod.kc;split
 .exact⟨h.asks,rfl,rfl,λm a=>(by cases a),mV _⟩
 .split
  .have:=h.asks.dT (Ba p.vo.p p.cl (p.bn.take 40)).1;exact⟨this.1,this.2.1,this.2.2,λm a=>(by cases a),mV _⟩
  .have hr:=h.vp.tO;refine⟨h.asks,rfl,rfl,λm a=>?_,A' _⟩;rw[D'.1 a];exact⟨by show 6<7;decide,c,by show p.vo.p.n.toNat<5;omega,Ao.b0,BO.nil,b,λh=>by cases h⟩
theorem NOk.cF(h:NOk n p):NOk n p.cF/\Az p.cF.bw<=Az p.bw+4/\p.cF.ab=p.ab:=by
 unfold Nod.cF;split
 .exact⟨h,by omega,rfl⟩
 .split
  .exact⟨h,by omega,rfl⟩
  .rename_i c _
   split
   .exact⟨h,by omega,rfl⟩
   .have hv:=h.cn ⟨(p.ab.length:Int),p.av.hU,c⟩;have a:NOk n { (p.cn ⟨(p.ab.length:Int),p.av.hU,c⟩).1 with av:={ p.av with next:=p.ab.length+1 } }:={ hv.1 with qu:=h.qu,he:=h.he };refine⟨a.wait trivial,?_,hv.2.2.1⟩;show Az ((p.cn ⟨(p.ab.length:Int),p.av.hU,c⟩).1.bw++[_])<=_;rw[FJ,hv.2.1];exact A' _
theorem NOk.bN(h:NOk n p)(e:i<5)(a:List Let)(d:∀ m∈a,LOk m):NOk n (p.bN i a).1/\(p.bN i a).1.bw=p.bw/\(∀ m∈(p.bN i a).2,LOk m)/\(p.bN i a).2.length<=a.length+5:=by
 have g:=h.ag;have f:∀ k,k<=5->∀ m∈Dl p i k,LOk m:=by
  intro k;induction k with
  | zero=>exact λ_ m b=>by cases b
  | succ k ih =>
   intro j m b;rw[Dl]at b
   rcases P'.1 b with h1|h1
   .exact ih (by omega) m h1
   .split at h1
    .rename_i c
     have c:=m5 c;rw[D'.1 h1];exact⟨by show 5<7;decide,e,by show k<5;omega,Ao.b0,BO.nil,by show(p.ab.drop _).length<=40;rw[mF];omega,λ_=>by show p.av.bN k+(p.ab.drop _).length<=40;rw[mF];omega⟩
    .cases h1
 unfold Nod.bN;split
 .refine⟨{ h with qu:=h.qu,he:=h.he },rfl,λm b=>?_,by show(a++Dl p i 5).length<=_;rw[H'];have:=UH p i 5;omega⟩;rcases P'.1 b with h1|h1
  .exact d m h1
  .exact f 5 (A' _) m h1
 .exact⟨h,rfl,d,qz _ _⟩
theorem NOk.hZ(h:NOk n p)(c:Cmd):NOk n (p.hZ c)/\(p.hZ c).bn.length+(if(p.cl c).isSome=true then 1 else 0)<=p.bn.length:=by
 unfold Nod.hZ;split
 .rename_i h1
  have b:=h.ask c h1;have e:(p.bn.erase c).length=p.bn.length-1:=List.length_erase_of_mem b;have f:0<p.bn.length:=List.length_pos_of_mem b;refine⟨{ h with wa:=?_,ask:=λd a=>?_ },by show(p.bn.erase c).length+1<=_;omega⟩
  .show(p.bn.erase c).length<=n;have:=h.wa;omega
  .unfold BV at a;simp only at a;split at a
   .cases a
   .rename_i hne;exact(List.mem_erase_of_ne hne).2 (h.ask d a)
 .exact⟨h,A' _⟩
theorem GB(p:Nod)(c:Cmd):(p.hZ c).up=p.up/\(p.hZ c).bw=p.bw/\(p.hZ c).ab=p.ab/\(p.hZ c).done=p.done/\(p.hZ c).ni=p.ni:=by
 unfold Nod.hZ;split<;>exact⟨rfl,rfl,rfl,rfl,rfl⟩
theorem XM(i:Nat)(l:List Cmd)(p:Nod)(a:List Tol)(h:NOk n p)(j:p.done+l.length<=p.ab.length) :
  NOk n (rz i l p a).1/\(rz i l p a).1.bw=p.bw/\(rz i l p a).1.ab=p.ab/\(rz i l p a).2.length+(rz i l p a).1.bn.length<=a.length+p.bn.length:=by
 induction l generalizing p a with
 | nil=>exact⟨h,rfl,rfl,A' _⟩
 | cons c l ih =>
  rw[rz];split
  .exact⟨h,rfl,rfl,A' _⟩
  .rw[mY]at j
   have g:NOk n { p with ni:=doS p.ni c,done:=p.done+1 }:={ h with dn:=by show p.done+1<=p.ab.length;omega };have e:=g.hZ c;have b:=GB { p with ni:=doS p.ni c,done:=p.done+1 } c;obtain⟨k,m,o,q⟩:=ih (Nod.hZ { p with ni:=doS p.ni c,done:=p.done+1 } c) (if(p.cl c).isSome=true then a++[⟨i,c.c,c.s,doC p.ni c,doA p.ni c⟩]else a) e.1 (by rw[b.2.2.2.1,b.2.2.1];show p.done+1+l.length<=p.ab.length;omega);refine⟨k,m.trans b.2.1,o.trans b.2.2.1,my q ?_⟩;have d:=e.2;simp only at d;by_cases f:(p.cl c).isSome=true
   .rw[if_pos f]at d ⊢
    rw[H'];show a.length+1+_<=_;omega
   .rw[if_neg f]at d ⊢;omega
theorem NOk.piece(h:NOk n p)(f:i<5){ls:List Let}{ts:List Tol}(r:ls.length+Az p.bw<80000000)(k:∀ m∈ls,LOk m) :
  NOk n (p.piece i ls ts).1/\(∀ m∈(p.piece i ls ts).2.1,LOk m)/\(p.piece i ls ts).2.1.length+Az (p.piece i ls ts).1.bw<=ls.length+Az p.bw+10/\(p.piece i ls ts).2.2.length+(rz i (p.ab.drop p.done) p ts).1.bn.length<=ts.length+p.bn.length:=by
 have b:=XM i (p.ab.drop p.done) p ts h (by rw[mF];have:=h.dn;omega);have a:=b.1.kc f;have d:=a.1.cF;have e:=d.1.ov f (ls:=ls++((rz i (p.ab.drop p.done) p ts).1.kc i).2) (by rw[H'];have:=d.2.1;have:=a.2.2.2.2;rw[a.2.1,b.2.1]at *;omega) (λm l=>by
  rcases P'.1 l with h|h
  .exact k m h
  .exact a.2.2.2.1 m h)
 have c:=e.1.bN f _ e.2.1;refine⟨c.1,c.2.2.1,?_,b.2.2.2⟩;have o:=c.2.2.2;have g:=e.2.2.1;have j:=d.2.1;have q:=a.2.2.2.2;rw[a.2.1,b.2.1]at j
 rw[H']at g
 show(Nod.bN _ i _).2.length+Az (Nod.bN _ i _).1.bw<=_;rw[c.2.1];omega
end
end
section
open Go.RowKit
theorem TB{g:Gh}{w:World}(M:∀ b,w.heap.size<=b->g.t b=.z/\g.k b=0) :
  Calls prog 28 #[] w λe w'=>∃ (b:Nat) (g':Gh),e=.returned (.map (some b))/\TkAt g' w' b 7/\IU g' w'/\Cg w.heap.size [.n 70 0] g w g' w':=by
 refine gI (fn:=f28) [.n 70 0] g func28 M (qR [] 6 [] λX U Y F=>jS 0 (by kernel_rfl) (by kernel_rfl) ?_);intro a V Z N v q W;have G:=q w.heap.size [];refine H4 1 (b:=a) v (by decide) (by kernel_rfl) (by kernel_rfl) (by kernel_rfl) ?_;intro w4 x r;have H:=r w.heap.size [.n 70 0] (D'.2 rfl);refine H4 2 (b:=a) x (by decide) (by kernel_rfl) (by kernel_rfl) (by kernel_rfl) ?_;intro w6 y s;have I:=s w.heap.size [.n 70 0] (D'.2 rfl);refine H4 3 (b:=a) y (by decide) (by kernel_rfl) (by kernel_rfl) (by kernel_rfl) ?_;intro w8 A u;have J:=u w.heap.size [.n 70 0] (D'.2 rfl);refine H4 4 (b:=a) A (by decide) (by kernel_rfl) (by kernel_rfl) (by kernel_rfl) ?_;intro P B d;have l:=d w.heap.size [.n 70 0] (D'.2 rfl);refine H4 5 (b:=a) B (by decide) (by kernel_rfl) (by kernel_rfl) (by kernel_rfl) ?_;intro Q C h;have m:=h w.heap.size [.n 70 0] (D'.2 rfl);refine H4 6 (b:=a) C (by decide) (by kernel_rfl) (by kernel_rfl) (by kernel_rfl) ?_;intro R D i;have o:=i w.heap.size [.n 70 0] (D'.2 rfl);refine H4 7 (b:=a) D (by decide) (by kernel_rfl) (by kernel_rfl) (by kernel_rfl) ?_;intro S E j;have p:=j w.heap.size [.n 70 0] (D'.2 rfl);refine qR [] 3 [] λO L T c=>qE (.map (some a)) λK=>⟨a,_,rfl,(E.ch c),K.new,((((((((((F.nil [.n 70 0]).n G).trans H).trans I).trans J).trans l).trans m).trans o).trans p).n c)⟩
theorem KZ{g:Gh}{w:World}{q s A:Nat}{nb:Nat->Nat}{M:Meet}(h:MS q s A nb g w M){w0:World}(hB:Base w0 g w)(hT:Tabs w0)(y:Nat)(l:Let)(hl:CM g w y l)(I:LOk l){n:Nat}(u:NOk n (M.ae l.dst))(v:(M.ae l.dst).bw.length<100000000) :
  Calls prog 75 #[pt q 0,pt y 0] w (MP q s A nb g w (.tuple #[]) (M.pd l)):=by
 have o:=hl;obtain⟨P,src,dst,C,cn,j,p,d⟩:=l;have hs:src<5:=I.src;have m:dst<5:=I.dst;have a8:P<7:=I.kd;have b7:d.length<=40:=I.wh;simp only at u v;obtain⟨x,hN⟩:=h.ae dst m;have b6:=u.ag;refine gI (fn:=f75) TM g func75 h.new (Cl ⟨q,_,.z,false⟩ (λ_=>⟨h.box.r,h.box.z,λh=>(by cases h),λh=>absurd rfl h⟩) (by kernel_rfl) ?_);obtain⟨vs,wh,a9,d3,d4⟩:=hl;refine Cl ⟨y,.cells (FA (Let.mk P src dst C cn j p d) vs wh) 158,.z,false⟩ (λ_=>⟨a9.r,a9.z,λh=>(by cases h),λh=>absurd rfl h⟩) (by kernel_rfl) ?_;refine qR [] 9 [10,0,2,4,6,8,1,10,12] λs1 g1 w1 a=>?_;refine Qf 7 (pt q dst) false (λW hW=>(by rcases ri m with rfl|rfl|rfl|rfl|rfl<;>kernel_rfl)) (by kernel_rfl) ?_;refine qU 8 (pt (nb dst) 0) (λW hW=>(Dj underlying91 rfl (Uw (AX.at (hW rfl) 0 q (.cells (mtA nb A s) 94) .z (by kernel_rfl)) m))) (qR [] 7 [18] λs3 g3 w3 b=>?_);have b5:=hN.ch (a.trans b);refine qN b5 (qR [] 2 [2] λs4 g4 w4 c=>?_);by_cases h1:(M.ae dst).up=true
 .refine qI ((M.ae dst).up) true h1 ?_;have L:=h.tk.ch ((a.trans b).trans c) (by simp);refine Iv s _ 70 0 L.row L.t L.k (by kernel_rfl) ?_;rw[show M.pd (Let.mk P src dst C cn j p d)=M.set dst ((M.ae dst).take (Let.mk P src dst C cn j p d)) M.br M.ed from if_pos h1];refine qR [] 9 [11,0,2,4,6,0,8,10,12,14,1] λs5 g5 w5 e=>qU 8 (tkV P) (λW hW=>(rTk (AX.at (hW rfl) 3 s (.map (tkL 7).toArray 7) (.n 70 0) (by kernel_rfl)) a8)) (qR [] 2 [18,20] λs6 J N i=>?_);rcases ZX a8 with rfl|rfl|rfl|rfl|rfl|rfl|rfl
  .refine Af λK=>?_;have N7:MS q s A nb J N M:=(h.rA ((((a.trans b).trans c).trans e).trans i) K.new);refine qG 11 TM [true,true,false,false] ((N7).call m (IM ((N7).ns m) (hB.ch (((((a.nil TM).n b).n c).n e).n i) Ft) hT y _ (o.ch ((((a.trans b).trans c).trans e).trans i) (by simp)) rfl v)) ?_;rintro O w7 ⟨g7,rfl,M7,c7⟩;refine⟨_,g7,rfl,c7,M7.new,?_⟩;replace c7:=c7.ret (B:=w.heap.size);refine qR [] 1 [] λs8 g8 w8 c8=>qE (.tuple #[]) λK=>⟨_,rfl,(M7.rA c8 K.new),(((((((a.nil TM).n b).n c).n e).n i).trans (c7)).n c8)⟩
  .refine Af λK=>?_;have N9:MS q s A nb J N M:=(h.rA ((((a.trans b).trans c).trans e).trans i) K.new);refine qG 11 TM [true,true,false,false] ((N9).call m (K3 ((N9).ns m) (hB.ch (((((a.nil TM).n b).n c).n e).n i) Ft) hT y _ (o.ch ((((a.trans b).trans c).trans e).trans i) (by simp)) rfl hs (by show((M.ae dst).ab++d.drop ((M.ae dst).ab.length-0)).length<=40;rw[H',mF];omega) b7 (qi (u.he src).len (by decide)))) ?_;rintro O w9 ⟨g9,rfl,M9,c9⟩;refine⟨_,g9,rfl,c9,M9.new,?_⟩;replace c9:=c9.ret (B:=w.heap.size);refine qR [] 1 [] λd5 b8 e2 a1=>qE (.tuple #[]) λK=>⟨_,rfl,(M9.rA a1 K.new),(((((((a.nil TM).n b).n c).n e).n i).trans (c9)).n a1)⟩
  .refine Af λK=>?_;have V:MS q s A nb J N M:=(h.rA ((((a.trans b).trans c).trans e).trans i) K.new);refine qG 11 TM [true,true,false,false] ((V).call m (K4 ((V).ns m) y _ (o.ch ((((a.trans b).trans c).trans e).trans i) (by simp)))) ?_;rintro O e3 ⟨b0,rfl,Q,D⟩;refine⟨_,b0,rfl,D,Q.new,?_⟩;replace D:=D.ret (B:=w.heap.size);refine qR [] 1 [] λd6 b9 e4 a2=>qE (.tuple #[]) λK=>⟨_,rfl,(Q.rA a2 K.new),(((((((a.nil TM).n b).n c).n e).n i).trans (D)).n a2)⟩
  .refine Af λK=>?_;have X:MS q s A nb J N M:=(h.rA ((((a.trans b).trans c).trans e).trans i) K.new);refine qG 11 TM [true,true,false,false] ((X).call m (J1 ((X).ns m) (hB.ch (((((a.nil TM).n b).n c).n e).n i) Ft) hT y _ (o.ch ((((a.trans b).trans c).trans e).trans i) (by simp)) rfl v (by have:=u.vs.len;omega))) ?_;rintro O e5 ⟨b1,rfl,R,E⟩;refine⟨_,b1,rfl,E,R.new,?_⟩;replace E:=E.ret (B:=w.heap.size);refine qR [] 1 [] λd7 c0 e6 a3=>qE (.tuple #[]) λK=>⟨_,rfl,(R.rA a3 K.new),(((((((a.nil TM).n b).n c).n e).n i).trans (E)).n a3)⟩
  .refine Af λK=>?_;have Y:MS q s A nb J N M:=(h.rA ((((a.trans b).trans c).trans e).trans i) K.new);refine qG 11 TM [true,true,false,false] ((Y).call m (Pu ((Y).ns m) (hB.ch (((((a.nil TM).n b).n c).n e).n i) Ft) hT y _ (o.ch ((((a.trans b).trans c).trans e).trans i) (by simp)) hs b6)) ?_;rintro O e7 ⟨b2,rfl,S,F⟩;refine⟨_,b2,rfl,F,S.new,?_⟩;replace F:=F.ret (B:=w.heap.size);refine qR [] 1 [] λd8 c2 e8 a4=>qE (.tuple #[]) λK=>⟨_,rfl,(S.rA a4 K.new),(((((((a.nil TM).n b).n c).n e).n i).trans (F)).n a4)⟩
  .refine Af λK=>?_;have Z:MS q s A nb J N M:=(h.rA ((((a.trans b).trans c).trans e).trans i) K.new);refine qG 11 TM [true,true,false,false] ((Z).call m (Pt ((Z).ns m) y _ (o.ch ((((a.trans b).trans c).trans e).trans i) (by simp)) rfl v (by omega) (by show d.length<_;omega))) ?_;rintro O e9 ⟨b3,rfl,T,G⟩;refine⟨_,b3,rfl,G,T.new,?_⟩;replace G:=G.ret (B:=w.heap.size);refine qR [] 1 [] λd9 d0 f0 a5=>qE (.tuple #[]) λK=>⟨_,rfl,(T.rA a5 K.new),(((((((a.nil TM).n b).n c).n e).n i).trans (G)).n a5)⟩
  .refine Af λK=>?_;have a0:MS q s A nb J N M:=(h.rA ((((a.trans b).trans c).trans e).trans i) K.new);refine qG 11 TM [true,true,false,false] ((a0).call m (Mm ((a0).ns m) y _ (o.ch ((((a.trans b).trans c).trans e).trans i) (by simp)) rfl v (by show d.length<_;omega) u.qu)) ?_;rintro O f1 ⟨b4,rfl,U,H⟩;refine⟨_,b4,rfl,H,U.new,?_⟩;replace H:=H.ret (B:=w.heap.size);refine qR [] 1 [] λe0 d1 f2 a6=>qE (.tuple #[]) λK=>⟨_,rfl,(U.rA a6 K.new),(((((((a.nil TM).n b).n c).n e).n i).trans (H)).n a6)⟩
 .refine qI ((M.ae dst).up) false (by simpa using h1) (qR [] 1 [] λe1 d2 f3 a7=>qE (.tuple #[]) λK=>?_);rw[show M.pd (Let.mk P src dst C cn j p d)=M from if_neg h1];exact⟨_,rfl,(h.rA (((a.trans b).trans c).trans a7) K.new),((((a.nil TM).n b).n c).n a7)⟩
section
variable{P:Program}{B:Nat}{T:List Tg}{g:Gh}{w:World}
section
variable{x:S3}{xs:List Value}{τ:Tg}
theorem OwnS.sJ{e:TypeId}{d:Nat}(h:OwnS g w τ false e d x xs){k:Nat}(f:k<=x.n)(i:0<x.n):OwnS g w τ false e d ⟨x.a,k,x.c⟩ (xs.take (k*d)):=by
 have l:=h.len;have j:k*d<=x.n*d:=oF _ f;refine⟨by rw[X'];show min _ _=k*d;omega,?_⟩;rcases h.ex with⟨h1,h2,h3⟩|⟨b,cur,h1,h2,h3,h4,h5,h6,h7,h8⟩
 .omega
 .refine .inr ⟨b,cur,h1,h2,my f h3,h4,h5,?_,h7,h8⟩;show cur.toList.take (k*d)=xs.take (k*d);rw[<- h6,oV,nH j]
theorem jA(t A e:TypeId)(i:TypeInfo)(I:P.underlying t=some (.slice e))(E:P.info? e=some i)(s:τ∈T)(z:OwnS g w τ false e i.size x xs)(a:Addr)(m c:Nat)(news:List Value)(G:0<x.c)(r:news.length=m*i.size)(l:∀ j u,news[j]?=some u->w.cell? (a.add j)=some u)(C:∀ u∈news,u.oneCell'=true)(f:x.n+m<=x.c) :
  ∃ w',(Builtin.append_ #[t,t] A #[x.v,.slice (some a) m c]).run P w=.ok (S3.v ⟨x.a,x.n+m,x.c⟩) w'/\OwnS g w' τ false e i.size ⟨x.a,x.n+m,x.c⟩ (xs++news)/\Cg B T g w g w'/\w'.heap.size=w.heap.size:=by
 obtain⟨K,y,J⟩:=x;have h:(xs++news).length=(y+m)*i.size:=by rw[H',z.len,r,pJ]
 rcases z.ex with⟨h2,h3,h4⟩|⟨b,cur,h2,h3,h4,h5,h6,h7,h8,h9⟩
 .simp only at h4 f G;omega
 .simp only at h2 h4 h5 h6 h7 f;subst h2;have p:y*i.size+news.length<=cur.size:=by rw[r,h6,<- pJ];exact oF _ f
  have H:=run_append_room (P:=P) w t A e i I E b y J cur h3 a m c news r l C f p;have o:g.k b=0:=by simpa using h9
  refine⟨_,H,⟨h,.inr ⟨b,_,rfl,setRow_heap w b cur _ e _ h3,f,h5,?_,?_,h8,by rw[o];rfl⟩⟩,⟨rfl,rfl,rfl,by simp,λ_ _=>.inl rfl,λ_ _=>A' _,λ_ _ _ _=>rfl,λd D q _=>setRow_other w b d _ (λe=>q (by rw[e,h8];exact s)),λd D j F=>?_⟩,by simp⟩
  .simp only[oG,H',X',mF,nP];omega
  .rw[h7,<- h];exact ql
  .exact World.cell?_of_block (w:=w) (setRow_other w b d _ (λe=>by rw[e,o]at F;omega))
theorem jG(t J e:TypeId)(z:Value)(f:Nat)(H:P.underlying t=some (.slice e))(I:∀ w,(zeroValue e).run P w=.ok z w)(r:z.cells.size=f)(A:0<f)(C:∀ j,j<f->(z.cells[j]!).oneCell'=true)(D:τ∈T)(E:OwnS g w τ false e f x xs){b:Nat}(s:x.a=some ⟨b,0,none⟩)(k c:Nat)(K:0<k)(i:x.n+k<=x.c) :
  ∃ w',(Builtin.clear_ #[t] J #[.slice (some ⟨b,x.n*f,none⟩) k c]).run P w=.ok (.tuple #[]) w'/\OwnS g w' τ false e f x xs/\Cg B T g w g w'/\w'.heap.size=w.heap.size:=by
 rcases E.ex with⟨h2,h3,h4⟩|⟨b',cur,h2,h3,h4,h5,h6,h7,h8,h9⟩
 .rw[h2]at s;cases s
 .rw[s]at h2
  simp only[Y',Addr.mk.injEq,and_true]at h2;subst h2;have u:g.k b=0:=by simpa using h9
  have l:(Builtin.zeroCells z.cells k).toList.length=k*f:=by rw[nP,size_zeroCells,r]
  have h:x.n*f+0+(Builtin.zeroCells z.cells k).toList.length<=cur.size:=by rw[l,h6,oM,<- pJ];exact oF _ i
  have o:∀ v∈(Builtin.zeroCells z.cells k).toList,v.oneCell'=true:=by
   intro v q;simp only[Builtin.zeroCells,Array.toList_map,mQ]at q;obtain⟨j,_,rfl⟩:=q;exact C _ (by rw[r];exact Nat.mod_lt _ A)
  have p:=run_storeCells_at (P:=P) b (x.n*f) e (Builtin.zeroCells z.cells k).toList 0 cur w h3 h o;simp only[oM]at p;obtain⟨m,rfl⟩:∃ m,k=m+1:=⟨k-1,by omega⟩;refine⟨_,by simp only[Builtin.clear_,nu,nJ,Sem.run_bind,run_underlying H,Result.andThen_ok,I,p];rfl,⟨E.len,.inr ⟨b,_,s,setRow_heap w b cur _ e _ h3,h4,h5,?_,?_,h8,h9⟩⟩,⟨rfl,rfl,rfl,by simp,λ_ _=>.inl rfl,λ_ _=>A' _,λ_ _ _ _=>rfl,λd F y _=>setRow_other w b d _ (λe=>y (by rw[e,h8];exact D)),λd F j G=>?_⟩,by simp⟩
  .rw[l]at h ⊢
   simp only[oG,H',X',mF,nP,l];simp only[oM]at h;omega
  .have hle:x.n*f<=cur.toList.length:=by rw[nP,h6];exact oF _ h4
   show(cur.toList.take (x.n*f)++_++_).take (x.n*f)=xs;rw[mA,m8 (by rw[X'];omega),oV,Nat.min_self,h7]
  .exact World.cell?_of_block (w:=w) (setRow_other w b d _ (λe=>by rw[e,u]at G;omega))
end
end
section
variable{fn:Func}{R:Ending->World->Prop}{B:Nat}{T:List Tg}{g:Gh}{w W:World}
section
theorem Kf(b o k:Nat):(⟨b,o,none⟩:Addr).add k=⟨b,o+k,none⟩:=by
 unfold Addr.add;split
 .rename_i h;simp[]
 .rfl
theorem mf(b n c l h m:Nat)(a:l<=h)(d:h<=m)(e:m<=c)(f:l<m):(Instr.sliceAt 35 (.slice (some ⟨b,0,none⟩) n c) (some (iv (l:Int))) (some (iv (h:Int))) (some (iv (m:Int)))).run prog W=.ok (.slice (some ⟨b,l*5,none⟩) (h-l) (m-l)) W:=by
 rw[run_sliceAt_slice _ _ _ _ _ _ unC,run_slice_lhm (P:=prog) (w:=W) _ _ _ _ unC .i64 .i64 .i64 l h m (by omega) (by omega) (by omega) (by omega),sz5];simp[Result.andThen,sliced,Kf];omega
theorem me(b n c l h:Nat)(a:l<=h)(d:h<=c)(e:l<c):(Instr.sliceAt 35 (.slice (some ⟨b,0,none⟩) n c) (some (iv (l:Int))) (some (iv (h:Int))) none).run prog W=.ok (.slice (some ⟨b,l*5,none⟩) (h-l) (c-l)) W:=by
 rw[run_sliceAt_slice _ _ _ _ _ _ unC,run_slice_lh (P:=prog) (w:=W) _ _ _ _ unC .i64 .i64 l h (by omega) (by omega) (by omega),sz5];simp[Result.andThen,sliced,Kf];omega
theorem mg(b n c h:Nat)(a:h<=c):(Instr.sliceAt 35 (.slice (some ⟨b,0,none⟩) n c) none (some (iv (h:Int))) none).run prog W=.ok (.slice (some ⟨b,0,none⟩) h c) W:=by
 rw[run_sliceAt_slice _ _ _ _ _ _ unC,run_slice_h (P:=prog) (w:=W) _ _ _ _ unC .i64 h (by omega) (by omega),sz5];simp[Result.andThen,sliced,Kf]
theorem mh(b n c l:Nat)(a:l<=n):(Instr.sliceAt 35 (.slice (some ⟨b,0,none⟩) n c) (some (iv (l:Int))) none none).run prog W=.ok (.slice (some ⟨b,if c=l then 0 else l*5,none⟩) (n-l) (c-l)) W:=by
 rw[run_sliceAt_slice _ _ _ _ _ _ unC,run_slice_l (P:=prog) (w:=W) _ _ _ _ unC .i64 l (by omega) (by omega),sz5];simp[Result.andThen,sliced,Kf];split<;>simp
variable{s:Xs}
theorem jM(p:Nat){τ:Tg}{x:S3}{J:List Value}(I:TypeId)(a:Addr)(m c:Nat)(news:List Value)(W:OwnS g w τ false 51 5 x J)(e:Du s p=some (Builtin.append_ #[35,35] I #[x.v,.slice (some a) m c]>>=λv=>pure (.value v)))(A:(nxt s p undef s.L).o.map Ob.l'=(nxt s p undef s.L).o.map Ob.r')(r:s.L.all (λy=>[τ].all λt=>y.t.ne t)=true)(S:0<x.c)(Q:news.length=m*5)(K:∀ u∈news,u.oneCell'=true)(f:∀ j u,news[j]?=some u->w.cell? (a.add j)=some u)(h:x.n+m<=x.c)(O:∀ w',OwnS g w' τ false 51 5 ⟨x.a,x.n+m,x.c⟩ (J++news)->(∀ B T,τ∈T->Cg B T g w g w')->w'.heap.size=w.heap.size->GG prog fn R B T (nxt s p (S3.v ⟨x.a,x.n+m,x.c⟩) s.L).s g w'):GG prog fn R B T s g w:=by
 refine Ko p s.L A (BT e) λG X i o C=>?_;obtain⟨d,N,k⟩:∃ d,prog.info? 51=some d/\d.size=5:=by
  have q:(prog.info? 51).map (·.size)=some 5:=by kernel_rfl
  cases hh:prog.info? 51 with
  | none=>rw[hh]at q;cases q
  | some v=>rw[hh]at q;exact⟨v,rfl,by simpa using q⟩
 obtain⟨w',U,D,M,E⟩:=jA (P:=prog) (B:=w.heap.size) (T:=[τ]) 35 I 51 d underlying35 N (D'.2 rfl) (by rw[k];exact W) a m c news S (by rw[k];exact Q) f K h;rw[k]at D
 have F:∀ B T,τ∈T->Cg B T g w g w':=λB T r=>(M.ret (B:=B)).mono λt V=>by rw[D'.1 V];exact r
 refine⟨S3.v ⟨x.a,x.n+m,x.c⟩,w',g,.inl ?_,G.ch (F _ [τ] (D'.2 rfl)) (λb H=>G.new b (by rw[E]at H;exact H)) r,O w' D F E⟩;rw[Dv e C,Sem.run_bind,U,Result.andThen_ok];rfl
theorem lH(w:World):(zeroValue 51).run prog w=.ok (.agg #[iv 0,iv 0,iv 0,iv 0,iv 0]) w:=by kernel_rfl
theorem lQ(f:Nat){τ:Tg}{x:S3}{E:List Value}(D:TypeId){b:Nat}(h:x.a=some ⟨b,0,none⟩)(k c:Nat)(M:OwnS g w τ false 51 5 x E)(d:Du s f=some (Builtin.clear_ #[35] D #[.slice (some ⟨b,x.n*5,none⟩) k c]>>=λv=>pure (.value v)))(q:(nxt s f undef s.L).o.map Ob.l'=(nxt s f undef s.L).o.map Ob.r')(m:s.L.all (λy=>[τ].all λt=>y.t.ne t)=true)(p:0<k)(e:x.n+k<=x.c)(I:∀ w',OwnS g w' τ false 51 5 x E->(∀ B T,τ∈T->Cg B T g w g w')->w'.heap.size=w.heap.size->GG prog fn R B T (nxt s f (.tuple #[]) s.L).s g w'):GG prog fn R B T s g w:=by
 refine Ko f s.L q (BT d) λC N i o r=>?_;obtain⟨w',J,F,G,u⟩:=jG (P:=prog) (B:=w.heap.size) (T:=[τ]) 35 D 51 (.agg #[iv 0,iv 0,iv 0,iv 0,iv 0]) 5 underlying35 lH rfl (by decide) (λj H=>by rcases ri H with rfl|rfl|rfl|rfl|rfl<;>rfl) (D'.2 rfl) M h k c p e;have A:∀ B T,τ∈T->Cg B T g w g w':=λB T m=>(G.ret (B:=B)).mono λt K=>by rw[D'.1 K];exact m
 refine⟨.tuple #[],w',g,.inl ?_,C.ch (A _ [τ] (D'.2 rfl)) (λb h=>C.new b (by rw[u]at h;exact h)) m,I w' F A u⟩;rw[Dv d r,Sem.run_bind,J,Result.andThen_ok];rfl
end
end
theorem sz1{W:World}:(Go.sizeOf (prog.elem 86)).run prog W=.ok 1 W:=by kernel_rfl
theorem unL:prog.underlying 86=some (.slice (prog.elem 86)):=by kernel_rfl
section
variable{fn:Func}{R:Ending->World->Prop}{B:Nat}{T:List Tg}{g:Gh}{w W:World}
section
theorem kM(b n c l h m:Nat)(a:l<=h)(d:h<=m)(e:m<=c)(f:l<m):(Instr.sliceAt 86 (.slice (some ⟨b,0,none⟩) n c) (some (iv (l:Int))) (some (iv (h:Int))) (some (iv (m:Int)))).run prog W=.ok (.slice (some ⟨b,l*1,none⟩) (h-l) (m-l)) W:=by
 rw[run_sliceAt_slice _ _ _ _ _ _ unL,run_slice_lhm (P:=prog) (w:=W) _ _ _ _ unL .i64 .i64 .i64 l h m (by omega) (by omega) (by omega) (by omega),sz1];simp[Result.andThen,sliced,Kf];omega
theorem kL(b n c l h:Nat)(a:l<=h)(d:h<=c)(e:l<c):(Instr.sliceAt 86 (.slice (some ⟨b,0,none⟩) n c) (some (iv (l:Int))) (some (iv (h:Int))) none).run prog W=.ok (.slice (some ⟨b,l*1,none⟩) (h-l) (c-l)) W:=by
 rw[run_sliceAt_slice _ _ _ _ _ _ unL,run_slice_lh (P:=prog) (w:=W) _ _ _ _ unL .i64 .i64 l h (by omega) (by omega) (by omega),sz1];simp[Result.andThen,sliced,Kf];omega
theorem kO(b n c h:Nat)(a:h<=c):(Instr.sliceAt 86 (.slice (some ⟨b,0,none⟩) n c) none (some (iv (h:Int))) none).run prog W=.ok (.slice (some ⟨b,0,none⟩) h c) W:=by
 rw[run_sliceAt_slice _ _ _ _ _ _ unL,run_slice_h (P:=prog) (w:=W) _ _ _ _ unL .i64 h (by omega) (by omega),sz1];simp[Result.andThen,sliced,Kf]
theorem kP(b n c l:Nat)(a:l<=n):(Instr.sliceAt 86 (.slice (some ⟨b,0,none⟩) n c) (some (iv (l:Int))) none none).run prog W=.ok (.slice (some ⟨b,if c=l then 0 else l*1,none⟩) (n-l) (c-l)) W:=by
 rw[run_sliceAt_slice _ _ _ _ _ _ unL,run_slice_l (P:=prog) (w:=W) _ _ _ _ unL .i64 l (by omega) (by omega),sz1];simp[Result.andThen,sliced,Kf];split<;>simp
variable{s:Xs}
theorem gZ(p:Nat){τ:Tg}{x:S3}{J:List Value}(I:TypeId)(a:Addr)(m c:Nat)(news:List Value)(W:OwnS g w τ false 159 1 x J)(e:Du s p=some (Builtin.append_ #[86,86] I #[x.v,.slice (some a) m c]>>=λv=>pure (.value v)))(A:(nxt s p undef s.L).o.map Ob.l'=(nxt s p undef s.L).o.map Ob.r')(r:s.L.all (λy=>[τ].all λt=>y.t.ne t)=true)(S:0<x.c)(Q:news.length=m*1)(K:∀ u∈news,u.oneCell'=true)(f:∀ j u,news[j]?=some u->w.cell? (a.add j)=some u)(h:x.n+m<=x.c)(O:∀ w',OwnS g w' τ false 159 1 ⟨x.a,x.n+m,x.c⟩ (J++news)->(∀ B T,τ∈T->Cg B T g w g w')->w'.heap.size=w.heap.size->GG prog fn R B T (nxt s p (S3.v ⟨x.a,x.n+m,x.c⟩) s.L).s g w'):GG prog fn R B T s g w:=by
 refine Ko p s.L A (BT e) λG X i o C=>?_;obtain⟨d,N,k⟩:∃ d,prog.info? 159=some d/\d.size=1:=by
  have q:(prog.info? 159).map (·.size)=some 1:=by kernel_rfl
  cases hh:prog.info? 159 with
  | none=>rw[hh]at q;cases q
  | some v=>rw[hh]at q;exact⟨v,rfl,by simpa using q⟩
 obtain⟨w',U,D,M,E⟩:=jA (P:=prog) (B:=w.heap.size) (T:=[τ]) 86 I 159 d underlying86 N (D'.2 rfl) (by rw[k];exact W) a m c news S (by rw[k];exact Q) f K h;rw[k]at D
 have F:∀ B T,τ∈T->Cg B T g w g w':=λB T r=>(M.ret (B:=B)).mono λt V=>by rw[D'.1 V];exact r
 refine⟨S3.v ⟨x.a,x.n+m,x.c⟩,w',g,.inl ?_,G.ch (F _ [τ] (D'.2 rfl)) (λb H=>G.new b (by rw[E]at H;exact H)) r,O w' D F E⟩;rw[Dv e C,Sem.run_bind,U,Result.andThen_ok];rfl
theorem jz(w:World):(zeroValue 159).run prog w=.ok (.pointer none) w:=by kernel_rfl
theorem jN(f:Nat){τ:Tg}{x:S3}{F:List Value}(E:TypeId){b:Nat}(m:x.a=some ⟨b,0,none⟩)(k c:Nat)(N:OwnS g w τ false 159 1 x F)(d:Du s f=some (Builtin.clear_ #[86] E #[.slice (some ⟨b,x.n*1,none⟩) k c]>>=λv=>pure (.value v)))(r:(nxt s f undef s.L).o.map Ob.l'=(nxt s f undef s.L).o.map Ob.r')(p:s.L.all (λy=>[τ].all λt=>y.t.ne t)=true)(q:0<k)(e:x.n+k<=x.c)(J:∀ w',OwnS g w' τ false 159 1 x F->(∀ B T,τ∈T->Cg B T g w g w')->w'.heap.size=w.heap.size->GG prog fn R B T (nxt s f (.tuple #[]) s.L).s g w'):GG prog fn R B T s g w:=by
 refine Ko f s.L r (BT d) λD O i o u=>?_;obtain⟨w',K,G,H,A⟩:=jG (P:=prog) (B:=w.heap.size) (T:=[τ]) 86 E 159 (.pointer none) 1 underlying86 jz rfl (by decide) (λj I=>match j,I with|0,_=>rfl|j+1,h=>absurd h (by omega)) (D'.2 rfl) N m k c q e;have C:∀ B T,τ∈T->Cg B T g w g w':=λB T p=>(H.ret (B:=B)).mono λt M=>by rw[D'.1 M];exact p
 refine⟨.tuple #[],w',g,.inl ?_,D.ch (C _ [τ] (D'.2 rfl)) (λb m=>D.new b (by rw[A]at m;exact m)) p,J w' G C A⟩;rw[Dv d u,Sem.run_bind,K,Result.andThen_ok];rfl
end
end
theorem PQ{g:Gh}{w:World}{b n c:Nat}{l:List Nat}(o:OwnS g w (.n 51 0) false 159 1 ⟨some ⟨b,0,none⟩,n,c⟩ (l.map (pt · 0)))(L:∀ b,w.heap.size<=b->g.t b=.z/\g.k b=0)(j:Nat)(Z:j<l.length)(X:l.length<100000000) :
  Calls prog 74 #[.slice (some ⟨b,0,none⟩) n c,iv (j:Int),iv ((j+1:Nat):Int)] w λe w'=>∃ (x':S3) (g':Gh),e=.returned x'.v/\OwnS g' w' (.n 51 0) false 159 1 x' ((l.eraseIdx j).map (pt · 0))/\(∀ b,w'.heap.size<=b->g'.t b=.z/\g'.k b=0)/\Cg w.heap.size [.n 51 0] g w g' w':=by
 have hn:n=l.length:=by have:=o.len;simp at this;omega
 have Y:n<=c:=by rcases o.ex with⟨h,_⟩|⟨_,_,_,_,h,_⟩;cases h;exact h
 refine gI (fn:=f74) [.n 51 0] g func74 L (qR [] 11 [] λs1 S w1 y=>qV 5 (.slice (some ⟨b,j*1,none⟩) (j+1-j) (n-j)) (kM b n c j (j+1) n (by omega) (by omega) (by omega) (by omega)) (qR [] 8 [] λs2 T w2 A=>qI (((j:Int)==((j+1:Nat):Int))) false (by simp;omega) (qR [] 11 [8,0,2] λs3 U w3 B=>qT 2 (.slice (some ⟨b,0,none⟩) j c) (λ_=>(kO b n c j (by omega))) (qR [] 2 [6,8] λs4 V w4 C=>qT 5 (.slice (some ⟨b,if c=j+1 then 0 else(j+1)*1,none⟩) (n-(j+1)) (c-(j+1))) (λ_=>(kP b n c (j+1) (by omega))) ?_))));have d:=o.ch (((y.trans A).trans B).trans C) (by simp) (by simp);have p:=d.sJ (k:=j) (by show j<=n;omega) (by show 0<n;omega);refine gZ 6 (x:=⟨some ⟨b,0,none⟩,j,c⟩) 86 ⟨b,if c=j+1 then 0 else(j+1)*1,none⟩ (n-(j+1)) (c-(j+1)) ((l.drop (j+1)).map (pt · 0)) p (by kernel_rfl) (by kernel_rfl) (by kernel_rfl) (by show 0<c;omega) (by simp;omega) (by intro u M;obtain⟨q,_,rfl⟩:=mQ.1 M;rfl) (λq u r=>?_) (by show j+(n-(j+1))<=c;omega) ?_
 .have hlt:j+1<l.length:=by have h:=(V'.1 r).1;simp at h;omega
  rw[if_neg (by omega),Kf];rw[List.map_drop,nD]at r
  obtain⟨R,E,_,J⟩:=d.cell r;simp only[Y',Addr.mk.injEq,and_true]at E;subst E;rw[show(j+1)*1+q=j+1+q by omega];exact J
 intro w6 s i N;have G:=i w.heap.size [.n 51 0] (D'.2 rfl);rw[show(l.map (pt · 0)).take (j*1)++(l.drop (j+1)).map (pt · 0)=(l.eraseIdx j).map (pt · 0)from by rw[Nat.mul_one,<- pY,<- mS,pL]]at s
 refine qR [] 8 [14] λs7 W w7 D=>qV 4 (.slice (some ⟨b,(j+(n-(j+1)))*1,none⟩) (n-(j+(n-(j+1)))) (c-(j+(n-(j+1))))) (kL b (j+(n-(j+1))) c (j+(n-(j+1))) n (by omega) (by omega) (by omega)) (jN 5 (x:=⟨some ⟨b,0,none⟩,(j+(n-(j+1))),c⟩) (b:=b) 0 rfl (n-(j+(n-(j+1)))) (c-(j+(n-(j+1)))) (s.ch D) (by kernel_rfl) (by kernel_rfl) (by kernel_rfl) (by omega) (by show(j+(n-(j+1)))+(n-(j+(n-(j+1))))<=c;omega) ?_);intro w9 F m O;have H:=m w.heap.size [.n 51 0] (D'.2 rfl);refine qR [] 6 [] λP I Q a=>qE (S3.v ⟨some ⟨b,0,none⟩,(j+(n-(j+1))),c⟩) λK=>⟨_,_,rfl,(F.ch a),K.new,((((((((y.nil [.n 51 0]).n A).n B).n C).trans G).n D).trans H).n a)⟩
end
section
section
variable{M:Meet}{k m n:Nat}{p:Nod}
theorem NOk.mono(h:NOk n p)(a:n<=m):NOk m p:={ h with wa:=my h.wa a }
theorem NOk.zero(n:Nat):NOk n CV:=⟨mV _,A' _,mV _,mV _,λc h=>(by cases h),⟨mx _,by decide⟩,Ao.b0,BO.nil,λ_=>BO.nil,λq h=>(by cases h)⟩
theorem NOk.bare(n:Nat)(p:Nod)(up:Bool)(d:List Int)(g:Int){a:Acc}(b:Ao a.p)(e:BO a.vs)(l:List Pend)(f:∀ q∈l,POk 0 q):NOk n (p.bare up d g a l):=⟨mV _,A' _,mV _,mV _,λc h=>(by cases h),⟨mx _,by show(0:Int)<=65536;decide⟩,b,e,λ_=>BO.nil,f⟩
theorem NOk.lp(h:NOk n p)(k:Int):NOk n (p.lp k)/\Az (p.lp k).bw<=Az p.bw/\(p.lp k).bn.length<=p.bn.length/\(p.lp k).bad=p.bad:=by
 unfold Nod.lp;split
 .exact⟨h,A' _,A' _,rfl⟩
 .exact⟨NOk.bare n p _ _ _ Ao.b0 BO.nil [] (λq a=>(by cases a)),mV _,mV _,rfl⟩
theorem NOk.start(h:NOk n p):NOk n p.start/\Az p.start.bw<=Az p.bw+4/\p.start.bn.length<=p.bn.length/\p.start.bad=p.bad:=by
 have b:=ef p.d p.sy;have a:∀ q∈[Pend.start],POk 0 q:=λq a=>by rw[D'.1 a];trivial
 unfold Nod.start;split
 .exact⟨h,qz _ _,A' _,rfl⟩
 .split
  .exact⟨NOk.bare n p _ _ _ b.1 b.2 _ a,by show 4<=_;omega,mV _,rfl⟩
  .exact⟨NOk.bare n p _ _ _ b.1 b.2 _ a,by show 4<=_;omega,mV _,rfl⟩
theorem FL(p:Nod)(b:Bal):(p.au b).1.bn=p.bn/\(p.au b).1.bad=p.bad/\(p.au b).1.cl=p.cl/\(p.au b).1.done=p.done/\(p.au b).1.dc=p.dc:=by
 unfold Nod.au;split
 .exact⟨rfl,rfl,rfl,rfl,rfl⟩
 .split
  .exact⟨rfl,rfl,rfl,rfl,rfl⟩
  .split<;>exact⟨rfl,rfl,rfl,rfl,rfl⟩
theorem NOk.lead(h:NOk n p)(i:Nat):NOk n (p.lead i)/\Az (p.lead i).bw<=Az p.bw+4/\(p.lead i).bn=p.bn/\(p.lead i).bad=p.bad:=by
 unfold Nod.lead;simp only;split
 .exact⟨h,qz _ _,rfl,rfl⟩
 .have hp:=h.au ⟨max p.dc p.vo.p.r+1,(i:Int)⟩;have a:=FL p ⟨max p.dc p.vo.p.r+1,(i:Int)⟩;have b:NOk n { (p.au ⟨max p.dc p.vo.p.r+1,(i:Int)⟩).1 with av:=⟨⟨max p.dc p.vo.p.r+1,(i:Int)⟩,λ_=>false,λ_=>Ea,λ_=>p.ab.length,0,[]⟩ }:={ hp.1 with qu:=mV _,he:=λ_=>BO.nil };refine⟨b.wait hp.2.2.2.1,?_,a.1,a.2.1⟩;show Az ((p.au _).1.bw++[_])<=_;rw[FJ,hp.2.1];exact A' _
theorem NOk.want(h:NOk n p)(c:Cmd):NOk (n+1) (p.want c)/\(p.want c).bn.length<=p.bn.length+1/\(p.want c).bw=p.bw/\(p.want c).bad=p.bad:=by
 unfold Nod.want;split
 .exact⟨h.mono (nE _),nE _,rfl,rfl⟩
 .refine⟨{ h with wa:=?_,ask:=λd a=>?_ },by simp,rfl,rfl⟩
  .have:=h.wa;simp;omega
  .unfold BV at a;simp only at a ⊢;split at a
   .rename_i e;exact P'.2 (.inr (D'.2 e))
   .exact P'.2 (.inl (h.ask d a))
theorem NOk.rE(h:NOk n p)(i:Nat)(e:Int)(c:Cmd)(a:List Tol):NOk (n+1) (p.rG i e c a).1/\(p.rG i e c a).1.bw=p.bw/\(p.rG i e c a).2.length+(p.rG i e c a).1.bn.length<=a.length+p.bn.length+1/\(p.rG i e c a).1.bad<=p.bad+1:=by
 have b:=h.mono (nE n);unfold Nod.rG;split
 .exact⟨b,rfl,nE _,nE _⟩
 .split
  .exact⟨{ b with },rfl,nE _,A' _⟩
  .split
   .exact⟨b,rfl,by simp;omega,nE _⟩
   .have:=h.want c;exact⟨this.1,this.2.2.1,by have:=this.2.1;simp only;omega,by rw[this.2.2.2];exact nE _⟩
theorem Oz(p:Nod)(v:Vt):(p.cn v).1.bn=p.bn/\(p.cn v).1.bad=p.bad:=by
 unfold Nod.cn;split
 .exact⟨rfl,rfl⟩
 .split
  .exact⟨rfl,rfl⟩
  .split<;>exact⟨rfl,rfl⟩
theorem JW(p:Nod)(to:Nat)(e:Int):(p.ew to e).bn=p.bn/\(p.ew to e).bad=p.bad:=by unfold Nod.ew;split<;>exact⟨rfl,rfl⟩
theorem F4(p:Nod)(j:Nat)(v:Vt):(p.count j v).bn=p.bn/\(p.count j v).bad=p.bad/\(p.count j v).bw=p.bw:=by
 unfold Nod.count;split
 .exact⟨rfl,rfl,rfl⟩
 .split<;>exact⟨rfl,rfl,rfl⟩
theorem F8(p:Nod)(l:List Cmd):(p.dT l).bn=p.bn/\(p.dT l).bad=p.bad:=by unfold Nod.dT;split<;>exact⟨rfl,rfl⟩
theorem WK(p:Nod)(l:Let):(p.take l).bn=p.bn/\(p.take l).bad=p.bad:=by
 unfold Nod.take;split
 .split
  .exact JW _ _ _
  .exact⟨(FL p l.hU).1,(FL p l.hU).2.1⟩
 .simp only;split<;>exact⟨rfl,rfl⟩
 .exact⟨rfl,rfl⟩
 .split
  .exact JW _ _ _
  .exact Oz p l.cn
 .exact⟨(F4 p _ _).1,(F4 p _ _).2.1⟩
 .split<;>exact⟨rfl,rfl⟩
 .simp only;split
  .exact F8 p l.gC
  .exact F8 p l.gC
 .exact⟨rfl,rfl⟩
theorem Wu(p:Nod)(i:Nat)(q:Pend):(p.lr i q).bn=p.bn/\(p.lr i q).bad=p.bad:=by
 cases q with
 | began b vs=>unfold Nod.lr;simp only;split<;>exact⟨rfl,rfl⟩
 | prop v=>exact⟨(F4 p i v).1,(F4 p i v).2.1⟩
 | _=>exact⟨rfl,rfl⟩
theorem RV(i:Nat)(l:List Pend)(p:Nod)(a:List Let):(qW i l p a).1.bn=p.bn/\(qW i l p a).1.bad=p.bad:=by
 induction l generalizing p a with
 | nil=>exact⟨rfl,rfl⟩
 | cons q l ih =>
  have b:=ih (p.lr i q) (a++p.rh i q);have c:=Wu p i q;exact⟨b.1.trans c.1,b.2.trans c.2⟩
theorem co(i:Nat)(l:List Cmd)(p:Nod)(a:List Tol):(rz i l p a).1.bad=p.bad:=by
 induction l generalizing p a with
 | nil=>rfl
 | cons c l ih =>
  rw[rz];split
  .rfl
  .rw[ih];unfold Nod.hZ;split<;>rfl
theorem Tm(p:Nod)(i:Nat)(a:List Let)(b:List Tol):(p.piece i a b).1.bn=(rz i (p.ab.drop p.done) p b).1.bn/\(p.piece i a b).1.bad=p.bad:=by
 have c:∀ q:Nod,(q.kc i).1.bn=q.bn/\(q.kc i).1.bad=q.bad:=by
  intro q;unfold Nod.kc;split
  .exact⟨rfl,rfl⟩
  .split
   .exact F8 _ _
   .exact⟨rfl,rfl⟩
 have d:∀ q:Nod,q.cF.bn=q.bn/\q.cF.bad=q.bad:=by
  intro q;unfold Nod.cF;split
  .exact⟨rfl,rfl⟩
  .split
   .exact⟨rfl,rfl⟩
   .split
    .exact⟨rfl,rfl⟩
    .exact Oz q _
 have e:∀ (q:Nod) (a:List Let),(q.ov i a).1.bn=q.bn/\(q.ov i a).1.bad=q.bad:=by
  intro q a;unfold Nod.ov;split
  .exact⟨rfl,rfl⟩
  .have:=RV i q.bw { q.ry with bw:=[] } a;have g:q.ry.bn=q.bn/\q.ry.bad=q.bad:=by unfold Nod.ry;split<;>exact⟨rfl,rfl⟩
   exact⟨this.1.trans g.1,this.2.trans g.2⟩
 have f:∀ (q:Nod) (a:List Let),(q.bN i a).1.bn=q.bn/\(q.bN i a).1.bad=q.bad:=by
  intro q a;unfold Nod.bN;split<;>exact⟨rfl,rfl⟩
 have h:=co i (p.ab.drop p.done) p b;unfold Nod.piece;simp only;rw[(f _ _).1,(e _ _).1,(d _).1,(c _).1,(f _ _).2,(e _ _).2,(d _).2,(c _).2];exact⟨rfl,h⟩
def pw(M:Meet):Nat:=Az (M.ae 0).bw+Az (M.ae 1).bw+Az (M.ae 2).bw+Az (M.ae 3).bw+Az (M.ae 4).bw
def ww(M:Meet):Nat:=(M.ae 0).bn.length+(M.ae 1).bn.length+(M.ae 2).bn.length+(M.ae 3).bn.length+(M.ae 4).bn.length
theorem Zw(M:Meet){i:Nat}(a:i<5)(p:Nod)(b:List Let)(c:List Tol):pw (M.set i p b c)+Az (M.ae i).bw=pw M+Az p.bw:=by
 unfold pw Meet.set;rcases ri a with rfl|rfl|rfl|rfl|rfl<;>simp[upN]<;>omega
theorem bB(M:Meet){i:Nat}(a:i<5)(p:Nod)(b:List Let)(c:List Tol):ww (M.set i p b c)+(M.ae i).bn.length=ww M+p.bn.length:=by
 unfold ww Meet.set;rcases ri a with rfl|rfl|rfl|rfl|rfl<;>simp[upN]<;>omega
theorem QI(M:Meet){i:Nat}(a:i<5):Az (M.ae i).bw<=pw M:=by
 unfold pw;rcases ri a with rfl|rfl|rfl|rfl|rfl<;>omega
theorem lA(M:Meet){i:Nat}(a:i<5):(M.ae i).bn.length<=ww M:=by
 unfold ww;rcases ri a with rfl|rfl|rfl|rfl|rfl<;>omega
structure MOk(n:Nat)(M:Meet):Prop where
 ae:∀ i,i<5->NOk n (M.ae i)
 br:∀ l∈M.br,LOk l
 wt:M.br.length+pw M<=10*n
 ed:M.ed.length+ww M<=n
 bad:∀ i,i<5->(M.ae i).bad<=n
theorem MOk.zero:MOk 0 AI:=⟨λ_ _=>NOk.zero 0,λl h=>(by cases h),A' _,A' _,λ_ _=>A' _⟩
theorem MOk.mono(h:MOk n M)(b:n<=m):MOk m M:=⟨λi a=>(h.ae i a).mono b,h.br,by have:=h.wt;omega,by have:=h.ed;omega,λi a=>my (h.bad i a) b⟩
theorem MOk.set(h:MOk n M){i:Nat}(a:i<5){p:Nod}{ls:List Let}{ts:List Tol}(c:NOk (n+1) p)(d:∀ l∈ls,LOk l)(g:ls.length+Az p.bw<=M.br.length+Az (M.ae i).bw+10)(k:ts.length+p.bn.length<=M.ed.length+(M.ae i).bn.length+1)(m:p.bad<=(M.ae i).bad+1):MOk (n+1) (M.set i p ls ts):=by
 have e:=Zw M a p ls ts;have f:=bB M a p ls ts;have:=h.wt;have:=h.ed;refine⟨λj b=>?_,d,by show ls.length+_<=_;omega,by show ts.length+_<=_;omega,λj b=>?_⟩
 .show NOk (n+1) (upN M.ae i p j);unfold upN;split
  .exact c
  .exact(h.ae j b).mono (nE _)
 .show(upN M.ae i p j).bad<=n+1;unfold upN;split
  .have:=h.bad i a;omega
  .have:=h.bad j b;omega
structure COk(n k:Nat)(M:Meet):Prop where
 ae:∀ i,i<5->NOk n (M.ae i)
 wt:k+M.br.length+pw M<=10*n
 ed:M.ed.length+ww M<=n
 bad:∀ i,i<5->(M.ae i).bad<=n
 br:∀ l∈M.br,LOk l
theorem COk.pd(h:COk n (k+1) M){l:Let}(a:LOk l):COk n k (M.pd l)/\(M.pd l).br=M.br:=by
 have i:=h.wt;unfold Meet.pd;split
 .have ht:=(h.ae l.dst a.dst).take a;have c:=WK (M.ae l.dst) l;have e:=Zw M a.dst ((M.ae l.dst).take l) M.br M.ed;have d:=bB M a.dst ((M.ae l.dst).take l) M.br M.ed;have f:pw (M.put l.dst ((M.ae l.dst).take l))=pw (M.set l.dst ((M.ae l.dst).take l) M.br M.ed):=rfl;have g:ww (M.put l.dst ((M.ae l.dst).take l))=ww (M.set l.dst ((M.ae l.dst).take l) M.br M.ed):=rfl;have:=h.ed;rw[c.1]at d
  refine⟨⟨λj b=>?_,by show k+M.br.length+_<=_;have:=ht.2.1;omega,by show M.ed.length+_<=_;omega,λj b=>?_,h.br⟩,rfl⟩
  .show NOk n (upN M.ae l.dst _ j);unfold upN;split
   .exact ht.1
   .exact h.ae j b
  .show(upN M.ae l.dst _ j).bad<=n;unfold upN;split
   .rw[c.2];exact h.bad _ a.dst
   .exact h.bad j b
 .exact⟨⟨h.ae,by omega,h.ed,h.bad,h.br⟩,rfl⟩
theorem COk.all(a:List Let){M:Meet}(h:COk n a.length M)(b:∀ l∈a,LOk l):COk n 0 (a.foldl (λM l=>M.pd l) M):=by
 induction a generalizing M with
 | nil=>exact h
 | cons l a ih=>exact ih ((h.pd (b l O')).1) λm c=>b m (I' _ c)
theorem COk.ok(h:COk n k M):MOk n M:=⟨h.ae,h.br,by have:=h.wt;omega,h.ed,h.bad⟩
theorem MOk.rp(h:MOk n M):MOk n M.rp :=
 (COk.all M.br (M:={ M with br:=[] }) ⟨h.ae,by show M.br.length+0+pw M<=_;exact h.wt,h.ed,h.bad,λl a=>(by cases a)⟩ h.br).ok
theorem MOk.move(h:MOk n M)(k:Int)(a:Nat):MOk (n+1) (M.move k a):=by
 have i:=h.wt;have b:=h.mono (nE n);unfold Meet.move;split
 .exact b
 .rename_i l hl
  have c:LOk l:=h.br l (mP hl);have f:∀ m∈M.br.eraseIdx (a%M.br.length),LOk m:=λm g=>h.br m (pq g);have e:(M.br.eraseIdx (a%M.br.length)).length<=M.br.length:=List.length_eraseIdx_le _ _;have d:COk (n+1) 1 (if k≠6 then{ M with br:=M.br.eraseIdx (a%M.br.length) }else M):=by
   split
   .exact⟨b.ae,by show 1+(M.br.eraseIdx _).length+pw M<=_;omega,b.ed,b.bad,f⟩
   .exact⟨b.ae,by omega,b.ed,b.bad,h.br⟩
  simp only;split
  .exact(d.pd c).1.ok
  .exact d.ok
theorem MOk.act(h:MOk n M)(i:n<=1000000){x:Lac}(g:LacOk x):MOk (n+1) (M.act x):=by
 have a:x.n.toNat<5:=by
  cases hu:Gd x.k with
  | true=>have:=g.n hu;omega
  | false=>have:=g.n0 hu;omega
 have e:=h.ae _ a;have c:=e.mono (nE n);unfold Meet.act;simp only;split
 .have hs:=e.rE x.n.toNat (opE x.d ((M.ae x.n.toNat).done:Int)) (FH x.d ((M.ae x.n.toNat).done:Int)) M.ed;exact h.set a hs.1 h.br (by unfold Nod.rE;rw[hs.2.1];omega) (by unfold Nod.rE;omega) (by unfold Nod.rE;omega)
 .split
  .split
   .have hl:=c.lead x.n.toNat;exact h.set a hl.1 h.br (by omega) (by rw[hl.2.2.1];omega) (by rw[hl.2.2.2];omega)
   .exact h.set a c h.br (by omega) (by omega) (by omega)
  .split
   .by_cases hu:(M.ae x.n.toNat).up=true
    .rw[if_pos hu,if_pos hu,if_pos hu];have b:=c.piece a (ls:=M.br) (ts:=M.ed) (by have:=QI M a;have:=h.wt;omega) h.br;have f:=Tm (M.ae x.n.toNat) x.n.toNat M.br M.ed;exact h.set a b.1 b.2.1 b.2.2.1 (by rw[f.1];have:=b.2.2.2;omega) (by rw[f.2];omega)
    .rw[if_neg hu,if_neg hu,if_neg hu];exact h.set a c h.br (by omega) (by omega) (by omega)
   .split
    .exact h.move _ _
    .split
     .exact h.rp.mono (nE _)
     .split
      .split
       .have hc:=c.lp x.p;exact h.set a hc.1 h.br (by omega) (by omega) (by rw[hc.2.2.2];omega)
       .exact h.set a c h.br (by omega) (by omega) (by omega)
      .split
       .split
        .exact h.set a c h.br (by omega) (by omega) (by omega)
        .have hc:=c.start;exact h.set a hc.1 h.br (by omega) (by omega) (by rw[hc.2.2.2];omega)
       .exact h.mono (nE _)
end
end
section
open Go.RowKit
section
variable{M:Meet}{W w:World}{b j mb n ob tb:Nat}{g:Gh}{l:List Let}{nb:Nat->Nat}{x:S3}
theorem kK{P:Program}{x y:Operand}(a b:Nat)(h:P.underlying 3=some (.int .i64))(f:a<9223372036854775808)(g:0<b)(e:b<9223372036854775808):(do Go.eqGuard .rem 3 x y (iv (a:Int)) (iv (b:Int));Go.binOp .rem 3 (iv (a:Int)) (iv (b:Int)):Sem Value).run P W=.ok (iv ((a%b:Nat):Int)) W:=by
 have d:Int.tmod (a:Int) (b:Int)=((a%b:Nat):Int):=rfl;have c:¬ b=0:=by omega
 simp only[Go.eqGuard,go_sem,Op.intDiv];simp[c,d]
theorem fR{c:Nat}(j:Nat)(a:j<n):(Instr.indexAt 86 (.slice (some ⟨b,0,none⟩) n c) (iv (j:Int))).run prog W=.ok (pt b j) W :=
 Kv (P:=prog) (e:=159) (z:=1) underlying86 (by kernel_rfl) (by kernel_rfl) a _ (by omega)
theorem iO(d:x.a=some ⟨b,0,none⟩)(j:Nat)(c:j<x.n):(Instr.indexAt 86 x.v (iv (j:Int))).run prog W=.ok (pt b j) W:=by
 unfold S3.v;rw[d];exact fR j c
theorem FzL.cell{e:List Value}(h:FzL g w x e){b j:Nat}(i:x.a=some ⟨b,0,none⟩){u:Value}(k:e[j]?=some u):w.cell? ⟨b,j,none⟩=some u:=by
 obtain⟨c,d,_,_,f⟩:=h.at_ j u k;rw[i]at d
 simp only[Y',Addr.mk.injEq,and_true]at d;subst d;exact f
theorem MS.outs{a:Gh}{b:World}{B:Nat}(h:MS mb tb ob nb g w M)(c:Cg B [.n 50 0,.n 51 0] g w a b){lt e:S3}{d:List Let}(k:OutAt a b ob lt e d M.ed)(j:IU a b):MS mb tb ob nb a b { M with br:=d } :=
 ⟨h.box.ch c,h.tk.ch c,λi f=>let ⟨x,hx⟩:=h.ae i f;⟨x,hx.ch c (by simp) (λr l=>by simp;omega)⟩,⟨lt,e,k⟩,j⟩
theorem Lets.erase{d:List Nat}(h:Lets g w d l)(j:Nat):Lets g w (d.eraseIdx j) (l.eraseIdx j):=by
 refine⟨by rw[List.length_eraseIdx,List.length_eraseIdx,h.len],λk b m c a=>?_⟩;rw[List.getElem?_eraseIdx]at c a
 split at c
 .rename_i hk;rw[if_pos hk]at a;exact h.at_ _ _ _ c a
 .rename_i hk;rw[if_neg hk]at a;exact h.at_ _ _ _ c a
theorem XW{c:Let}(h:l[j]?=some c):l.drop j=c::l.drop (j+1):=by
 obtain⟨a,b⟩:=V'.1 h;rw[<- b];exact nv a
theorem YW(k:Int)(a:Nat)(h:M.br.length=0):M.move k a=M:=by
 unfold Meet.move;rw[j' h];rfl
theorem dy{k:Int}{a:Nat}{l:Let}(h:M.br[a%M.br.length]?=some l):M.move k a=(if k≠5 then(if k≠6 then{ M with br:=M.br.eraseIdx (a%M.br.length) }else M).pd l else if k≠6 then{ M with br:=M.br.eraseIdx (a%M.br.length) }else M):=by
 unfold Meet.move;rw[h]
theorem LB(h:MS mb tb ob nb g w M){w0:World}(hB:Base w0 g w)(hT:Tabs w0)(k:Int)(a:Nat)(ha:a<=1048576){n:Nat}(hm:MOk n M)(hn:n<=1000000) :
  Calls prog 33 #[pt mb 0,iv k,iv (a:Int)] w (MP mb tb ob nb g w (.tuple #[]) (M.move k a)):=by
 obtain⟨lt,tl,hO⟩:=h.out;obtain⟨bs,hL,q⟩:=hO.br;have Y:lt.n=M.br.length:=by have:=hL.len;have:=q.len;simp at *;omega
 have b7:=hm.wt;refine gI (fn:=f33) TM g func33 h.new (Cl ⟨mb,_,.z,false⟩ (λ_=>⟨h.box.r,h.box.z,λh=>(by cases h),λh=>absurd rfl h⟩) (by kernel_rfl) ?_);refine qO hO (qR [] 18 [0,1] λs1 g1 w1 d=>?_);by_cases h1:lt.n=0
 .refine qI (((lt.n:Int)==0)) true (by simp;omega) (qE (.tuple #[]) λK=>?_);rw[YW k a (by omega)];exact⟨_,rfl,(h.rA d K.new),(d.nil TM)⟩
 .refine qI (((lt.n:Int)==0)) false (by simp;omega) ?_;obtain⟨j,hj⟩:∃ j,j=a%M.br.length:=⟨_,rfl⟩;have I:j<M.br.length:=by rw[hj];exact Nat.mod_lt _ (by omega)
  obtain⟨l,hl⟩:∃ l,M.br[j]?=some l:=⟨_,G' I⟩;obtain⟨J,X⟩:∃ J,bs[j]?=some J:=⟨_,G' (by rw[q.len];exact I)⟩;have s:=hm.br l (mP hl);have V:=q.at_ j J l X hl;obtain⟨b,hb,a7,a6⟩:=hL.cell (j:=j) (u:=pt J 0) (by rw[ng,X];rfl);rw[dy (hj▸hl)];rw[<- hj];obtain⟨la,lq,lc⟩:=lt;simp only at hb Y;subst hb;refine qR [] 5 [] λs3 g3 w3 m=>?_;have a8 {x y:Operand}:∀ {W:World},(do Go.eqGuard .rem 3 x y (iv (a:Int)) (iv (lq:Int));Go.binOp .rem 3 (iv (a:Int)) (iv (lq:Int)):Sem Value).run prog W=.ok (iv (j:Int)) W:=λ{W}=>by rw[hj,<- Y];exact kK a lq underlying3 (by omega) (by omega) (by omega)
  refine qV 2 (iv (j:Int)) (a8 (x:=(.tmp 19)) (y:=(.tmp 20))) (qR [] 12 [0,1] λs4 g4 w4 o=>qV 8 (pt b j) (fR (b:=b) (n:=lq) (c:=lc) j (by omega)) (qV 9 (pt J 0) (Dj underlying159 rfl ((Below.cell (Cg.af ((d.trans m).trans o) (λ_ _=>Q')) (p:=⟨b,j,none⟩) a7).trans a6)) (qR [] 8 [] λs6 g6 w6 t=>?_)));by_cases h2:k≠6
  .refine qI ((k != 6)) true (by simpa using h2) ?_;have H:k≠6:=by simpa using h2
   rw[if_pos H];refine qR [] 14 [17,0,2,4,6,0,8,10,12,14,0,16,18,20,1,22,24] λs7 g7 w7 L=>qT 13 (iv ((j+1:Nat):Int)) (λ_=>(AO 46 (j:Int) underlying3 (by omega))) (Af λK=>qG 14 [.n 51 0] [true,true] (PQ (hL.ch ((((d.trans m).trans o).trans t).trans L) (by simp) (by simp)) K.new j (by rw[q.len];exact I) (by rw[q.len];omega)) ?_);rintro e' w9 ⟨y9,g9,rfl,a9,n9,G⟩;refine⟨_,g9,rfl,G,n9,?_⟩;replace G:=G.ret (B:=w.heap.size);refine qR [.n 50 0] 9 [30,32,35,1,1] λb8 U Z e=>Af λK=>?_;have C9:Cg w.heap.size [.n 50 0,.n 51 0] g w U Z:=(((((((d.nil [.n 50 0,.n 51 0]).n m).n o).n t).n L).trans (G.mono (by simp))).trans (e.mono (by simp)));obtain⟨o1,o2,o3⟩:=K.rN 1 ob (.cells #[S3.v y9,S3.v tl] 88) 50 0 (by kernel_rfl);have P:MS mb tb ob nb U Z { M with br:=M.br.eraseIdx j }:=h.outs C9 ⟨o1,o2,o3,⟨bs.eraseIdx j,(a9.ch e),(q.erase j).ch C9⟩,hO.ed.ch C9⟩ K.new;by_cases F:k≠5
   .refine qI ((k != 5)) true (by simpa using F) ?_;rw[if_pos (show k≠5 from by simpa using F)];refine qR [] 3 [] λb9 a2 b0 A=>Af λK=>?_;have a0:MS mb tb ob nb a2 b0 ({ M with br:=M.br.eraseIdx j }):=(P.rA A K.new);refine qG 2 TM [true,false] (KZ a0 (hB.ch ((((((((d.nil TM).n m).n o).n t).n L).trans (G.mono (by simp[TM,TN]))).trans (e.mono (by simp[TM,TN]))).n A) Ft) hT J l (V.ch ((((((((d.nil TM).n m).n o).n t).n L).trans (G.mono (by simp[TM,TN]))).trans (e.mono (by simp[TM,TN]))).n A) Ft) s (hm.ae l.dst s.dst) (by have:=Ek (M.ae l.dst).bw;have:=QI M s.dst;show(M.ae l.dst).bw.length<_;omega)) ?_;rintro e' d2 ⟨a3,rfl,N,C⟩;refine⟨_,a3,rfl,C,N.new,?_⟩;replace C:=C.ret (B:=w.heap.size);refine qR [] 1 [] λc0 b2 d3 Q=>qE (.tuple #[]) λK=>⟨_,rfl,(N.rA Q K.new),((((((((((d.nil TM).n m).n o).n t).n L).trans (G.mono (by simp[TM,TN]))).trans (e.mono (by simp[TM,TN]))).n A).trans (C)).n Q)⟩
   .refine qI ((k != 5)) false (by simpa using F) (qR [] 1 [] λc2 b3 d4 R=>?_);rw[if_neg (show ¬ k≠5 from by simpa using F)];refine qE (.tuple #[]) λK=>⟨_,rfl,(P.rA R K.new),((((((((d.nil TM).n m).n o).n t).n L).trans (G.mono (by simp[TM,TN]))).trans (e.mono (by simp[TM,TN]))).n R)⟩
  .refine qI ((k != 6)) false (by simpa using h2) ?_;have H:¬ k≠6:=by simpa using h2
   rw[if_neg H];refine qR [] 6 [] λc5 b4 d5 i=>?_;by_cases F:k≠5
   .refine qI ((k != 5)) true (by simpa using F) ?_;rw[if_pos (show k≠5 from by simpa using F)];refine qR [] 3 [] λc8 a4 b1 D=>Af λK=>?_;have a1:MS mb tb ob nb a4 b1 M:=(h.rA (((((d.trans m).trans o).trans t).trans i).trans D) K.new);refine qG 2 TM [true,false] (KZ a1 (hB.ch ((((((d.nil TM).n m).n o).n t).n i).n D) Ft) hT J l (V.ch ((((((d.nil TM).n m).n o).n t).n i).n D) Ft) s (hm.ae l.dst s.dst) (by have:=Ek (M.ae l.dst).bw;have:=QI M s.dst;show(M.ae l.dst).bw.length<_;omega)) ?_;rintro e' d6 ⟨a5,rfl,O,E⟩;refine⟨_,a5,rfl,E,O.new,?_⟩;replace E:=E.ret (B:=w.heap.size);refine qR [] 1 [] λd0 b5 d7 S=>qE (.tuple #[]) λK=>⟨_,rfl,(O.rA S K.new),((((((((d.nil TM).n m).n o).n t).n i).n D).trans (E)).n S)⟩
   .refine qI ((k != 5)) false (by simpa using F) (qR [] 1 [] λd1 b6 d8 T=>?_);rw[if_neg (show ¬ k≠5 from by simpa using F)];refine qE (.tuple #[]) λK=>⟨_,rfl,(h.rA (((((d.trans m).trans o).trans t).trans i).trans T) K.new),((((((d.nil TM).n m).n o).n t).n i).n T)⟩
theorem PM(h:MS mb tb ob nb g w M){X:World}(hB:Base X g w)(hT:Tabs X){n:Nat}(u:MOk n M)(hn:n<=1000000) :
  Calls prog 34 #[pt mb 0] w (MP mb tb ob nb g w (.tuple #[]) M.rp):=by
 obtain⟨lt,tl,I⟩:=h.out;obtain⟨y,V,i⟩:=I.br;have a1:lt.n=M.br.length:=by have:=V.len;have:=i.len;simp at *;omega
 have P:=u.wt;refine gI (fn:=f34) TM g func34 h.new (Cl ⟨mb,_,.z,false⟩ (λ_=>⟨h.box.r,h.box.z,λh=>(by cases h),λh=>absurd rfl h⟩) (by kernel_rfl) ?_);refine qO I (lR V (by kernel_rfl) λgF Z hF=>qR [.n 50 0] 28 [0,1,0,1,1] λs1 g1 w1 S=>Af λG=>Ca 28 [(0,pt mb 0),(18,S3.v lt),(19,iv (lt.n:Int)),(20,iv 0)] [true,false] [⟨mb,.cells (mtA nb ob tb) 94,.z,false⟩] (λk E F e L=>∃ (j:Nat) (A:Meet),k=M.br.length-j/\j<=M.br.length/\e=[(0,pt mb 0),(18,S3.v lt),(19,iv (lt.n:Int)),(20,iv (j:Int))]/\L=[⟨mb,.cells (mtA nb ob tb) 94,.z,false⟩]/\MS mb tb ob nb E F A/\(M.br.drop j).foldl (λM l=>M.pd l) A=M.rp/\COk n (M.br.length-j) A/\FzL E F lt (y.map (pt · 0))/\Lets E F y M.br/\Cg w.heap.size TM g w E F) (by kernel_rfl) (by kernel_rfl) (by kernel_rfl) (by kernel_rfl) M.br.length (λK=>?_) ?_)
 .have C9:Cg w.heap.size [.n 50 0,.n 51 0] g w g1 w1:=((Z.mono (by simp)).trans (S.mono (by simp)));obtain⟨o1,o2,o3⟩:=G.rN 1 ob (.cells #[S3.v s30,S3.v tl] 88) 50 0 (by kernel_rfl);exact⟨0,{ M with br:=[] },rfl,mV _,rfl,rfl,h.outs C9 ⟨o1,o2,o3,⟨[],OwnS.nil _ _ _ _ _ _,⟨rfl,λk b m h=>(by cases h)⟩⟩,I.ed.ch C9⟩ K.new,rfl,⟨u.ae,by show M.br.length+0+pw M<=_;exact P,u.ed,u.bad,λl s=>(by cases s)⟩,(hF.fz.ch S),i.ch C9,C9.mono (by simp[TM,TN])⟩
 .rintro k gr wr _ zr _ ⟨j,A,rfl,hj,rfl,rfl,hM,hI,hA,hFz,hLt,hC⟩ J hJ;have a0:=hFz.n;refine qR [] 5 [] λs2 g2 w2 a=>?_;by_cases U:j<M.br.length
  .refine qI ((decide ((j:Int)<(lt.n:Int)))) true (M' (by omega)) ?_;obtain⟨l,s⟩:∃ l,M.br[j]?=some l:=⟨_,G' U⟩;obtain⟨o,t⟩:∃ o,y[j]?=some o:=⟨_,G' (by rw[i.len];exact U)⟩;have c:=u.br l (mP s);have H:=hLt.at_ j o l t s;have x:(y.map (pt · 0))[j]?=some (pt o 0):=by rw[ng,t];rfl
   obtain⟨b,W,_⟩:=hFz.at_ j (pt o 0) x;obtain⟨Q,O⟩:∃ Q,M.br.length-j=Q+1:=⟨M.br.length-j-1,by omega⟩;rw[O]at hA
   have N:=hA.pd c;rw[XW s,qL]at hI
   refine qR [] 5 [] λs3 g3 w3 d=>qV 0 (pt b j) (iO W j (by omega)) (qV 1 (pt o 0) (Dj underlying159 rfl (((hFz.ch a).ch d).cell W x)) (qR [] 5 [] λs5 g5 w5 p=>Af λK=>?_));have Y:MS mb tb ob nb g5 w5 A:=(hM.rA ((a.trans d).trans p) K.new);refine qG 2 TM [true] (KZ Y (hB.ch ((((hC.n a).n d).n p)) Ft) hT o l (H.ch (((a.nil TM).n d).n p) Ft) c (hA.ae l.dst c.dst) (by have:=hA.wt;have:=Ek (A.ae l.dst).bw;have:=QI A c.dst;omega)) ?_;rintro e' w6 ⟨g6,rfl,R,q⟩;refine⟨_,g6,rfl,q,R.new,?_⟩;replace q:=q.ret (B:=w.heap.size);refine qR [] 3 [] λs7 g7 w7 C=>qV 0 (iv ((j:Int)+1)) (AO 20 (j:Int) underlying3 (by omega)) (qR [] 2 [] λs8 g8 w8 D=>qB [true] λz G K=>hJ (M.br.length-(j+1)) _ _ _ z _ (by omega) ⟨j+1,A.pd l,rfl,by omega,rfl,rfl,(R.rA (C.trans D) G.new),hI,(by rw[show M.br.length-(j+1)=Q by omega];exact N.1),((((((hFz.ch a).ch d).ch p).ch q).ch C).ch D),hLt.ch ((((((a.nil TM).n d).n p).trans (q)).n C).n D) Ft,((((((hC.n a).n d).n p).trans q).n C).n D)⟩ K)
  .refine qI ((decide ((j:Int)<(lt.n:Int)))) false (E' (by omega)) (qR [] 1 [] λs9 g9 w9 T=>?_);obtain rfl:j=M.br.length:=by omega
   rw[og]at hI
   rw[<- hI];refine qE (.tuple #[]) λK=>⟨_,rfl,(hM.rA (a.trans T) K.new),((hC.n a).n T)⟩
end
end
end Go.Proofs.YtcjcngceghfoeaaGreatDoor
