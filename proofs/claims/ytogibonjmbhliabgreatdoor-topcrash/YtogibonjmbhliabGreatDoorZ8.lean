/- Part 8 of the walk. -/
import Derived.Laws.OwnMore
import Derived.Maps.AppendAt
import Derived.Test.YtogibonjmbhliabGreatDoorZ7
set_option maxRecDepth 100000
set_option maxHeartbeats 4000000
open Go.Proofs.Tryz
set_option linter.unusedVariables false
namespace Go.Proofs.YtogibonjmbhliabGreatDoor
section
open Go.RowKit
section
theorem Yf(b d:Value)(key a:List Int)(x:Int)(c:Nat)(j:x=(c:Int))(w:World)(g:Sl w b key)(h:Sl w d a)(lk:key.length=32)(k:a.length=12)(f:c<=1073741824)(i:CW w) :
  Calls prog 178 #[b,.int .i64 x,d] w λe w'=>∃ v',e=.returned (.tuple #[v',.int .i64 0])/\Got w w' v' (CN (Cd key (BitVec.ofNat 32 c) a)):=by
 subst j;exact Yg b d key a c w g h lk k f i
theorem PP(u v D E:Value)(key b a s:List Int)(w:World)(y:Sl w u key)(z:Sl w v b)(x:Sl w D a)(A:Sl w E s)(lk:key.length=32)(B:b.length=12)(L:a.length<=256)(M:s.length<=2000)(J:CW w) :
  Calls prog 153 #[u,v,D,E] w λe w'=>∃ v',e=.returned (.tuple #[v',.int .i64 0])/\Sl w' v' (E3 key b a s)/\Bw w w':=by
 have o:Hid (E3 key b a s=Xv ((CN (Cd key (BitVec.ofNat 32 0) b)).take 32) (G1 a s)):=rfl;have g:(G1 a s).length<=4000:=by rw[IN];have:=In a.length;have:=In s.length;omega
 go_enter func153,ntmps153
 go_wp2_with fail
 refine(Yf u v key b 0 0 rfl w y z lk B (by omega) J).mono ?_;rintro e S ⟨R,rfl,p⟩;have j:=p.sl;have k:=p.se;clear p;have d:=EU (Cd key (BitVec.ofNat 32 0) b);generalize CN (Cd key (BitVec.ofNat 32 0) b)=bs at o j d;obtain⟨G,H,rfl⟩:=j.shape;rw[d]at j ⊢
 obtain⟨F,c1,c,C⟩:=j.rN 32 (by omega);have I:∀ W,(Instr.slice 34 (.slice G 64 H) none (some (.int .i64 32)) none).run prog W=.ok (.slice F 32 c1) W:=c;have lt:(bs.take 32).length=32:=by rw[X'];omega
 generalize bs.take 32=K at o C lt;have q:=x.af k;have t:=A.af k;clear c j d;have h:a.length<=10000:=by omega
 have i:s.length<=10000:=by omega
 have l:Hid (a.length<=10000):=h;have n:Hid (s.length<=10000):=i;have m:Hid ((G1 a s).length<=4000):=g;clear L M h i g y z x A lk B;go_wp2_with fail
 go_region_with (first
  | (go_at_call 180;refine(ZA _ _ a s _ (q.af ((Below.refl _ _).drew)) (t.af ((Below.refl _ _).drew)) l.out n.out).mono ?_;rintro e P ⟨Q,rfl,N,f⟩)
  | (go_at_call 179;refine(jL _ _ K _ _ (C.af ((Below.refl _ _).drew.trans f)) N lt m.out).mono ?_;rintro e T ⟨O,rfl,s3,r⟩))
 all_goals
  go_wp2
  go_ret2
  refine⟨O,rfl,?_,?_⟩
  .rw[o.out];exact s3
  .have b2:Bw w P:=k.trans (((Below.refl _ _).drew.trans f).mono k.size);exact b2.trans (r.mono b2.size)
theorem QX(c f b:Value)(key a d:List Int)(w:World)(h:Sl w c key)(i:Sl w f a)(g:Sl w b d)(lk:key.length=32)(l:a.length=12)(k:d.length<=2000)(j:CW w) :
  Calls prog 152 #[c,.int .i64 1,f,b] w λe w'=>∃ v',e=.returned (.tuple #[v',.int .i64 0])/\w'.ownsRow w.heap.size 5 1 v' (EN key a d).length ((EN key a d).map (Value.int .u8))/\Bw w w' :=
 eF c f b key a d 1 w h i g lk l (by omega) k j
theorem FO{w b:World}{a e:Nat}{v:Value}{n:Nat}{c:List Value}(h:w.ownsRow a e 1 v n c)(d:Bw w b):b.ownsRow a e 1 v n c :=
 Fr h λk f=>d.block k (h.lt k f).2
variable{a key nonce p:List Int}
theorem JB(h:Ho key nonce a=true):key.length=32/\nonce.length=12/\a.length<=256:=by
 unfold Ho at h;simp at h;omega
theorem fJ(o q v K:Value)(key b a p:List Int)(w:World)(i:Sl w o key)(s:Sl w q b)(A:Sl w v a)(t:Sl w K p)(E:Ho key b a=true)(U:p.length<=2000)(D:CW w) :
  Calls prog 120 #[o,q,v,K] w λe w'=>∃ v',e=.returned (.tuple #[v',.int .i64 0])/\Sl w' v' (K7 key b a p)/\Bw w w':=by
 obtain⟨lk,F,S⟩:=JB E;have j:=D.pos;have y:Hid (K7 key b a p=EN key b p++E3 key b a (EN key b p)):=rfl;have n:=FU key b p;have g:∀ x∈EN key b p,0<=x/\x<256:=JH _ t.byte;have Q:¬ (2000:Int)<(p.length:Int):=by omega
 obtain⟨ap,W,rfl⟩:=t.shape;go_enter func120,ntmps120
 go_wp2_with fail
 refine(Hd o q v key b a w i s A).mono ?_;rintro e r ⟨rfl,rfl⟩;rw[E];go_wp2_with fail
 refine(QX o q _ key b p r i s t lk F U D).mono ?_;rintro e M ⟨L,rfl,u,c⟩;generalize EN key b p=X at y n g u;have H:Sl M L X:=Sl.nr u (by omega) g;go_wp2_with fail
 refine(PP o q v L key b a X M (i.af c) (s.af c) (A.af c) H lk F S (by omega) (D.af j c)).mono ?_;rintro e V ⟨Y,rfl,I,z⟩;have G:=FO u z;have C:=G.lt;have d:Bw r V:=c.trans (z.mono c.size);have m:=Jl key b a X;have l:=MM key b a X;generalize E3 key b a X=T at y I m l;have P:X.length<=2000:=by omega
 clear n u H c z i s A t;go_wp2_with (at_builtin;refine Aa _ rfl _ _ 34 rfl r.heap.size 5 underlying34 Aw _ _ rfl rfl X T G I (by omega) d.size ?_)
 intro J N f B;replace f:N.ownsRow r.heap.size 5 1 J (X++T).length ((X++T).map (Value.int .u8)):=by simpa[m]using f
 have O:Bw r N:=d.grown B d.size (λk i=>(C k i).1);go_wp2
 go_ret2
 refine⟨J,rfl,?_,O⟩;rw[y.out];refine Sl.nr f (by rw[H'];omega) ?_;intro x R;rcases U'.1 R with h|h
 .exact g x h
 .exact l x h
def Et(key nonce a d:List Int):Int :=
 if Ho key nonce a=true/\d.length<=2016 then(if d.length<16 then 13 else if E3 key nonce a (d.take (d.length-16))=d.drop (d.length-16)then 0 else 6)else 1
def Rm(key nonce a d:List Int):List Int:=if Et key nonce a d=0 then EN key nonce (d.take (d.length-16))else[]
theorem eS(g i f o:Value)(key b a d:List Int)(w:World)(m:Sl w g key)(n:Sl w i b)(k:Sl w f a)(l:Sl w o d)(j:Ho key b a=false\/2016<d.length) :
  Calls prog 198 #[g,i,f,o] w λe w'=>e=.returned (.tuple #[.slice none 0 0,.int .i64 1])/\w'=w:=by
 have r:=l.len;obtain⟨ap,q,rfl⟩:=l.shape;by_cases c:Ho key b a=true
 .have hpl:(2016:Int)<(d.length:Int):=by
   rcases j with h|h
   .rw[c]at h;cases h
   .omega
  go_enter func198,ntmps198
  go_wp2_with fail
  refine(Hd g i f key b a w m n k).mono ?_;rintro e p ⟨rfl,rfl⟩;rw[c];go_wp2
  go_ret2
  exact⟨rfl,rfl⟩
 .rw[Bool.not_eq_true]at c
  go_enter func198,ntmps198
  go_wp2_with fail
  refine(Hd g i f key b a w m n k).mono ?_;rintro e p ⟨rfl,rfl⟩;rw[c];go_wp2
  go_ret2
  exact⟨rfl,rfl⟩
theorem T6(f g c h:Value)(key b a d:List Int)(w:World)(l:Sl w f key)(m:Sl w g b)(i:Sl w c a)(j:Sl w h d)(k:Ho key b a=true)(p:d.length<16) :
  Calls prog 198 #[f,g,c,h] w λe w'=>e=.returned (.tuple #[.slice none 0 0,.int .i64 13])/\w'=w:=by
 obtain⟨ap,o,rfl⟩:=j.shape;have n:(d.length:Int)<16:=by omega
 go_enter func198,ntmps198
 go_wp2_with fail
 refine(Hd f g c key b a w l m i).mono ?_;rintro e q ⟨rfl,rfl⟩;rw[k];go_wp2
 go_ret2
 exact⟨rfl,rfl⟩
theorem aq(r s q H:Value)(key b a d:List Int)(w:World)(l:Sl w r key)(n:Sl w s b)(k:Sl w q a)(f:Sl w H d)(E:Ho key b a=true)(m:Nat)(F:d.length=m+16)(V:m<=2000)(o:CW w)(G:E3 key b a (d.take m)≠d.drop m) :
  Calls prog 198 #[r,s,q,H] w λe w'=>e=.returned (.tuple #[.slice none 0 0,.int .i64 6])/\Bw w w':=by
 obtain⟨lk,N,M⟩:=JB E;have h:=o.pos;have i:=f.byte;obtain⟨ad,U,rfl⟩:=f.shape;rw[F]at f ⊢
 obtain⟨R,c1,A,p⟩:=f.rN m (by omega);obtain⟨S,T,g,j⟩:=f.from m (by omega);rw[Nat.add_sub_cancel_left]at g j
 have B:(d.take m).length=m:=by rw[X'];omega
 have Q:∀ x∈d.take m,0<=x/\x<256:=λx K=>i x (nu K);have y:Hid (E3 key b a (d.take m)≠d.drop m):=G;clear G;generalize d.take m=D at p B Q y ⊢;generalize d.drop m=L at j y;have v:Hid (D.length=m):=B;clear f F i B;go_enter func198,ntmps198
 go_wp2_with fail
 refine(Hd r s q key b a w l n k).mono ?_;rintro e t ⟨rfl,rfl⟩;rw[E];go_wp2_with fail
 go_quiet (fail)
 have c:Bw t (t.drewN nq):=Aq (Below.refl _ _) nq;generalize t.drewN nq=w1 at c ⊢;replace l:=l.af c;replace n:=n.af c;replace k:=k.af c;replace p:=p.af c;replace j:=j.af c;replace o:=o.af h c;clear A g;go_wp2_with fail
 refine(PP r s q _ key b a D w1 l n k p lk N M (by have:=v.out;omega) o).mono ?_;rintro e u ⟨P,rfl,O,z⟩;go_wp2_with fail
 refine(Jh P _ (E3 key b a D) L u O (j.af z)).mono ?_;rintro e W ⟨rfl,C,rfl⟩;have I:Bw u (u.drewN C):=Aq (Below.refl _ _) C;have J:Bw t (u.drewN C):=c.trans ((z.trans (I.mono z.size)).mono c.size);rw[D' y.out];go_wp2
 go_ret2
 exact⟨rfl,J⟩
theorem eT(y z B P:Value)(key b a d:List Int)(w:World)(f:Sl w y key)(g:Sl w z b)(r:Sl w B a)(n:Sl w P d)(I:Ho key b a=true)(m:Nat)(J:d.length=m+16)(hl:m<=2000)(i:CW w)(K:E3 key b a (d.take m)=d.drop m) :
  Calls prog 198 #[y,z,B,P] w λe w'=>∃ v',e=.returned (.tuple #[v',.int .i64 0])/\Sl w' v' (EN key b (d.take m))/\Bw w w':=by
 obtain⟨lk,M,Y⟩:=JB I;have h:=i.pos;have u:=n.byte;obtain⟨ad,cd,rfl⟩:=n.shape;rw[J]at n ⊢
 obtain⟨a1,c1,G,j⟩:=n.rN m (by omega);obtain⟨a2,c2,s,o⟩:=n.from m (by omega);rw[Nat.add_sub_cancel_left]at s o
 have H:(d.take m).length=m:=by rw[X'];omega
 have T:∀ x∈d.take m,0<=x/\x<256:=λx W=>u x (nu W);have C:Hid (E3 key b a (d.take m)=d.drop m):=K;clear K;generalize d.take m=D at j H T C ⊢;generalize d.drop m=L at o C;have k:Hid (D.length=m):=H;clear n J u H;go_enter func198,ntmps198
 go_wp2_with fail
 refine(Hd y z B key b a w f g r).mono ?_;rintro e A ⟨rfl,rfl⟩;rw[I];go_wp2_with fail
 go_quiet (fail)
 have c:Bw A (A.drewN nq):=Aq (Below.refl _ _) nq;generalize A.drewN nq=w1 at c ⊢;replace f:=f.af c;replace g:=g.af c;replace r:=r.af c;replace j:=j.af c;replace o:=o.af c;replace i:=i.af h c;clear G s;go_wp2_with fail
 refine(PP y z B _ key b a D w1 f g r j lk M Y (by have:=k.out;omega) i).mono ?_;rintro e p ⟨vt,rfl,O,l⟩;go_wp2_with fail
 refine(Jh vt _ (E3 key b a D) L p O (o.af l)).mono ?_;rintro e R ⟨rfl,v,rfl⟩;have E:Bw p (p.drewN v):=Aq (Below.refl _ _) v;have F:Bw A (p.drewN v):=c.trans ((l.trans (E.mono l.size)).mono c.size);rw[M' C.out];have q:Bw w1 (p.drewN v):=l.trans (E.mono l.size);replace f:=f.af q;replace g:=g.af q;replace j:=j.af q;replace i:=i.af (j' h c.size) q;have X:=FU key b D;have t:∀ x∈EN key b D,0<=x/\x<256:=JH _ T;clear o O r E l;generalize p.drewN v=R at f g j i F q ⊢;go_wp2_with fail
 refine(QX y z _ key b D R f g j lk M (by have:=k.out;omega) i).mono ?_;rintro e S ⟨Q,rfl,N,U⟩;have Z:Sl S Q (EN key b D):=Sl.nr N (by have:=k.out;omega) t;have V:Bw A S:=F.trans (U.mono F.size);clear N t;go_wp2
 go_ret2
 exact⟨Q,rfl,Z,V⟩
theorem ao(i j f g:Value)(key c a d:List Int)(w:World)(m:Sl w i key)(n:Sl w j c)(k:Sl w f a)(l:Sl w g d)(o:CW w) :
  Calls prog 198 #[i,j,f,g] w λe w'=>∃ v',e=.returned (.tuple #[v',.int .i64 (Et key c a d)])/\Sl w' v' (Rm key c a d)/\Bw w w':=by
 unfold Rm;by_cases h:Ho key c a=true/\d.length<=2016
 .by_cases h16:d.length<16
  .have hE:Et key c a d=13:=by unfold Et;rw[if_pos h,if_pos h16]
   rw[hE,if_neg (by omega)];refine(T6 i j f g key c a d w m n k l h.1 h16).mono ?_;rintro e p ⟨rfl,rfl⟩;exact⟨_,rfl,Sl.nil _ _,Below.refl _ _⟩
  .by_cases hq:E3 key c a (d.take (d.length-16))=d.drop (d.length-16)
   .have hE:Et key c a d=0:=by unfold Et;rw[if_pos h,if_neg h16,if_pos hq]
    rw[hE,if_pos rfl];exact eT i j f g key c a d w m n k l h.1 (d.length-16) (by omega) (by omega) o hq
   .have hE:Et key c a d=6:=by unfold Et;rw[if_pos h,if_neg h16,if_neg hq]
    rw[hE,if_neg (by omega)];refine(aq i j f g key c a d w m n k l h.1 (d.length-16) (by omega) (by omega) o hq).mono ?_;rintro e p ⟨rfl,b⟩;exact⟨_,rfl,Sl.nil _ _,b⟩
 .have hE:Et key c a d=1:=by unfold Et;rw[if_neg h]
  rw[hE,if_neg (by omega)];refine(eS i j f g key c a d w m n k l ?_).mono ?_
  .by_cases hf:Ho key c a=true
   .exact .inr (by have:¬ d.length<=2016:=λq=>h ⟨hf,q⟩;omega)
   .exact .inl (by simpa using hf)
  .rintro e p ⟨rfl,rfl⟩;exact⟨_,rfl,Sl.nil _ _,Below.refl _ _⟩
theorem Uh(key a:List Int)(b:∀ x∈p,0<=x/\x<256):∀ x∈EN key a p,0<=x/\x<256:=JH _ b
theorem Ud(key b a:List Int)(c:∀ x∈p,0<=x/\x<256):∀ x∈K7 key b a p,0<=x/\x<256:=by
 intro x d;rcases U'.1 d with h|h
 .exact Uh key b c x h
 .exact MM _ _ _ _ x h
theorem dK(lk:key.length=32)(c:nonce.length=12)(b:a.length<=256):Ho key nonce a=true:=by
 unfold Ho;simp;omega
end
end
section
def KR(key:List Int)(n:Int)(p:List Int):List Int:=Ad n++K7 key (BI (Ad n)) (Ad n) p
theorem GB(key:List Int)(n:Int)(p:List Int):(KR key n p).length=p.length+20:=by
 rw[KR,H',CH,Ji];omega
theorem WY(key:List Int)(n:Int){p:List Int}(a:∀ x∈p,0<=x/\x<256):∀ x∈KR key n p,0<=x/\x<256:=by
 intro x b;rcases U'.1 b with h|h
 .exact Bd n x h
 .exact Ud _ _ _ a x h
def Ez(key:List Int)(s t:Int)(l:List Bool)(p:List Int):Int:=if ¬ OkC key s t l then 5 else if 2000<p.length then 1 else if s=1073741824 then 8 else 0
def CL(key:List Int)(s t:Int)(l:List Bool)(r:List Int):Int :=
 if ¬ OkC key s t l then 5 else if 2020<r.length then 1 else if r.length<20 then 13 else if 1073741824<=FM (r.take 4)then 2 else if Is t l (FM (r.take 4))=true then 7
 else Et key (BI (r.take 4)) (r.take 4) (r.drop 4)
def KB(key:List Int)(r:List Int):List Int:=Rm key (BI (r.take 4)) (r.take 4) (r.drop 4)
end
section
open Go.RowKit
section
structure Bt(w:World)(g:Nat)(c r u:Int):Prop where
 lt:g<w.heap.size
 row:w.heap[g]?=some (.cells (tkA c r u) 59)
theorem Bt.made(w:World)(c r u:Int):Bt (w.alloc (.cells (tkA c r u) 59)) w.heap.size c r u:=⟨by simp,heap_alloc_new _ _⟩
variable{c r u:Int}{g:Nat}{key l:List Int}{w:World}
theorem Bt.af{b:World}(h:Bt w g c r u)(a:Bw w b):Bt b g c r u :=
 ⟨j' h.lt a.size,(a.block g h.lt).trans h.row⟩
theorem Jq(c r u:Int):(prog.info? 59).map (·.size)=some (tkA c r u).size:=by show _=some 3;kernel_rfl
theorem JZ{a:TypeId}{fr:Nat × Nat}(h:w.heap[g]?=some (.cells (tkA c r u) a fr)) :
  w.cell? ⟨g,0,none⟩=some (.int .i64 c)/\w.cell? ⟨g,1,none⟩=some (.int .i64 r)/\w.cell? ⟨g,2,none⟩=some (.int .i64 u) :=
 ⟨cell_of_row _ _ 0 _ _ _ h,cell_of_row _ _ 1 _ _ _ h,cell_of_row _ _ 2 _ _ _ h⟩
theorem JG(c r u:Int)(w:World) :
  Calls prog 72 #[.agg (tkA c r u)] w λe w'=>e=.returned (.bool (decide (Dy c r u)))/\Bw w w':=by
 have b:Bw w (w.alloc (.cells (tkA c r u) 59)):=(Below.refl _ _).alloc (A' _) _;have i:=Bt.made w c r u;generalize k:w.alloc (.cells (tkA c r u) 59)=W at b i;obtain⟨c0,c1,l⟩:=JZ i.row;clear i;go_enter func72,ntmps72
 go_wp2_with fail
 clear k;refine(Fy c 7 _).mono ?_;rintro e j ⟨rfl,rfl⟩;by_cases d:0<=c/\c<=7
 .rw[M' d];go_wp2_with fail
  refine(Fy r 7 _).mono ?_;rintro e j ⟨rfl,rfl⟩;by_cases f:0<=r/\r<=7
  .rw[M' f];go_wp2_with fail
   refine(Fy u 1048576 _).mono ?_;rintro e j ⟨rfl,rfl⟩;by_cases h:0<=u/\u<=1048576
   .rw[M' h];have a:Hid (true=decide (Dy c r u)):=(M' ⟨d,f,h⟩).symm;go_wp2
    go_ret;exact⟨Am a.out,b⟩
   .rw[D' h];have a:Hid (false=decide (Dy c r u)):=(D' (λg=>h g.2.2)).symm;go_wp2
    go_ret;exact⟨Am a.out,b⟩
  .rw[D' f];have a:Hid (false=decide (Dy c r u)):=(D' (λg=>f g.2.1)).symm;go_wp2
   go_ret;exact⟨Am a.out,b⟩
 .rw[D' d];have a:Hid (false=decide (Dy c r u)):=(D' (λg=>d g.1)).symm;go_wp2
  go_ret;exact⟨Am a.out,b⟩
def Lb(key:List Int)(c r u:Int):List Int:=La c r u++(E7 key (La c r u)).take 16
theorem NV(key b:List Int):((E7 key b).take 16).length=16:=by rw[X',DM];rfl
theorem ER(key:List Int)(c r u:Int):(Lb key c r u).length=22:=by unfold Lb;rw[H',NV,EQ]
theorem RL(key b:List Int):∀ x∈(E7 key b).take 16,0<=x/\x<256:=λx a=>O7 key b x (nu a)
theorem X8(key:List Int)(h:Dy c r u):∀ x∈Lb key c r u,0<=x/\x<256:=by
 intro x hx;rcases U'.1 hx with hx|hx
 .exact OR h x hx
 .exact RL _ _ x hx
def ND(key:List Int)(c r u:Int):Int:=if key.length≠32 then 1 else NW c r u
def QL(key:List Int)(c r u:Int):List Int:=if ND key c r u=0 then Lb key c r u else[]
theorem Wi(h:¬ key.length=32):ND key c r u=1:=if_pos h
theorem QK(h:key.length=32):ND key c r u=NW c r u:=if_neg (λg=>g h)
theorem dY(h:ND key c r u=0):QL key c r u=Lb key c r u:=if_pos h
theorem UT(h:¬ ND key c r u=0):QL key c r u=[]:=if_neg h
theorem Ta(c r u:Int)(w:World)(h:Dy c r u) :
  Calls prog 73 #[.agg (tkA c r u)] w λe w'=>∃ v',e=.returned v'/\w'.ownsRow w.heap.size 5 1 v' (La c r u).length ((La c r u).map (Value.int .u8))/\Bw w w':=by
 have d:Bw w (w.alloc (.cells (tkA c r u) 59)):=(Below.refl _ _).alloc (A' _) _;have f:=Bt.made w c r u;generalize o:w.alloc (.cells (tkA c r u) 59)=W at d f;obtain⟨c0,c1,m⟩:=JZ f.row;have lt:=f.lt;clear f;obtain⟨⟨q,s⟩,⟨t,v⟩,i,x⟩:=h;have C:c%256=c:=by omega
 have D:r%256=r:=by omega
 have A:Hid (La c r u=[c,r]++Ad u):=rfl;have b:Bw W (W.alloc (.cells #[.int .u8 c,.int .u8 r] 5)):=(Below.refl _ _).alloc (A' _) _;have k:(W.alloc (.cells #[.int .u8 c,.int .u8 r] 5)).ownsRow W.heap.size 5 1 (.slice (some ⟨W.heap.size,0,none⟩) 2 2) ([c,r]:List Int).length (([c,r]:List Int).map (Value.int .u8)) :=
  ⟨rfl,.inr ⟨W.heap.size,2,#[.int .u8 c,.int .u8 r],rfl,A' _,heap_alloc_new _ _,by simp,by simp[maxLen],rfl,rfl⟩⟩
 have j:Hid ((W.alloc (.cells #[.int .u8 c,.int .u8 r] 5)).ownsRow W.heap.size 5 1 (.slice (some ⟨W.heap.size,0,none⟩) 2 2) ([c,r]:List Int).length (([c,r]:List Int).map (Value.int .u8))):=k;clear k;generalize g:W.alloc (.cells #[.int .u8 c,.int .u8 r] 5)=W1 at b j;have B:W1.cell? ⟨w.heap.size,2,none⟩=some (.int .i64 u):=(b.cell (p:=⟨w.heap.size,2,none⟩) lt).trans m;have n:=d.trans (b.mono d.size);have y:=b.size;go_enter func73,ntmps73
 go_wp2_with fail
 clear o g;refine(Ia _ [c,r] u W.heap.size W1 j.out y (by simp) i (by omega)).mono ?_;rintro e F ⟨E,rfl,z,l⟩;have a:=d.size;go_wp2
 go_ret;exact⟨_,rfl,Bf z a,n.trans (l.mono a)⟩
theorem RJ(d c:Value)(key b:List Int)(w:World)(n:Sl w d key)(m:Sl w c b)(lk:key.length<=256)(p:b.length<=2000)(o:AJ w) :
  Calls prog 74 #[d,c] w λe w'=>∃ v',e=.returned (.tuple #[v',.int .i64 0])/\Sl w' v' ((E7 key b).take 16)/\Bw w w':=by
 go_enter func74,ntmps74
 go_wp2_with fail
 refine(gZ d c key b w n m lk p o).mono ?_;rintro e t ⟨s,rfl,l⟩;obtain⟨f,i,g,k,rfl,_,_⟩:=l;obtain⟨h,j,a,q⟩:=f.rN 16 (by rw[DM];omega);rw[DM]at a ⊢
 have r:∀ W,(Instr.slice 34 (.slice (some ⟨g,0,none⟩) 32 k) none (some (.int .i64 16)) none).run prog W=.ok (.slice h 16 j) W:=a;clear a f;go_wp2
 go_ret2
 exact⟨_,rfl,q,i⟩
theorem Wj(E:Value)(key:List Int)(c r u:Int)(w:World)(f:Sl w E key)(N:AJ w) :
  Calls prog 36 #[E,.agg (tkA c r u)] w λe w'=>∃ v',e=.returned (.tuple #[v',.int .i64 (ND key c r u)])/\w'.ownsRow w.heap.size 5 1 v' (QL key c r u).length ((QL key c r u).map (Value.int .u8))/\Bw w w':=by
 have i:Bw w (w.alloc (.cells (tkA c r u) 59)):=(Below.refl _ _).alloc (A' _) _;have j:=Bt.made w c r u;have A:=Jq c r u;have m:=f.len;obtain⟨S,T,rfl⟩:=f.shape;generalize M:w.alloc (.cells (tkA c r u) 59)=W at i j;by_cases l:key.length=32
 .have HE:=QK (key:=key) (c:=c) (r:=r) (u:=u) l;have J:Hid (key.length=32):=l;rw[l]at f ⊢
  clear l m;go_enter func36,ntmps36
  go_wp2_with (refine wpList_load_row rfl 59 _ rfl w.heap.size rfl 59 _ (0,0) _ j.row underlying59 rfl A ?_)
  clear M;refine(JG c r u W).mono ?_;rintro e g ⟨rfl,p⟩;have b:=i.trans (p.mono i.size);replace j:=j.af p;clear p i;by_cases d:Dy c r u
  .have a:Hid (ND key c r u=0):=HE.trans (Lr d);have h:Hid (QL key c r u=Lb key c r u):=dY a.out;rw[M' d];clear HE;go_wp2_with (refine wpList_load_row rfl 59 _ rfl w.heap.size rfl 59 _ (0,0) _ j.row underlying59 rfl A ?_)
   refine(Ta c r u g d).mono ?_;rintro e R ⟨P,rfl,x,q⟩;have s:=b.trans (q.mono b.size);have D:=Sl.nr x (by rw[EQ];omega) (OR d);have H:=q.size;go_wp2_with fail
   refine(RJ _ P key (La c r u) R (f.af s) D (by rw[J.out];omega) (by rw[EQ];omega) (N.af s)).mono ?_;rintro e F ⟨U,rfl,s3,n⟩;have y:=Kv x n;have t:Bw g F:=q.trans (n.mono H);have I:g.heap.size<=F.heap.size:=mV H n.size;have v:=y.lt;have O:=s3.len;have o:Hid (Lb key c r u=La c r u++(E7 key (La c r u)).take 16):=rfl;have B:=EQ c r u;clear x n s D;generalize (E7 key (La c r u)).take 16=Y at s3 o O;generalize La c r u=X at y o B;go_wp2_with (at_builtin;refine Aa _ rfl _ _ 34 rfl g.heap.size 5 underlying34 Aw _ _ rfl rfl X Y y s3 (by omega) I ?_)
   intro Q G C z;have L:Bw g G:=t.grown z I (λk f=>(v k f).1);have K:Hid (G.ownsRow g.heap.size 5 1 Q (Lb key c r u).length ((Lb key c r u).map (Value.int .u8))):=by unfold Hid;rw[o.out];simpa[B]using C
   clear C z;go_wp2
   go_ret2
   rw[h.out,a.out];exact⟨_,rfl,Bf K.out b.size,b.trans (L.mono b.size)⟩
  .have a:Hid (ND key c r u=2):=HE.trans (Vz d);have h:Hid (QL key c r u=[]):=UT (by rw[a.out];omega);rw[D' d];go_wp2
   go_ret2
   rw[h.out,a.out];exact⟨_,rfl,World.ownsRow_nil _ _ _ _,b⟩
 .have h1':¬ (key.length:Int)=32:=by omega
  have a:Hid (ND key c r u=1):=Wi l;have h:Hid (QL key c r u=[]):=UT (by rw[a.out];omega);go_enter func36,ntmps36
  go_wp2
  go_ret2
  rw[h.out,a.out];exact⟨_,rfl,World.ownsRow_nil _ _ _ _,i⟩
theorem Sl.ta{a:Option Addr}{n c:Nat}(h:Sl w (.slice a n c) l)(b:Nat)(d:b+4<=l.length)(m k:Int)(g:m=(b:Int))(f:k=(b:Int)+4) :
  ∃ a' c',(∀ W,(Instr.slice 34 (.slice a n c) (some (.int .i64 m)) (some (.int .i64 k)) none).run prog W=.ok (.slice a' 4 c') W)/\Sl w (.slice a' 4 c') ((l.take (b+4)).drop b):=by
 subst g;subst f;have i:=h.ss b (b+4) (by omega) d;obtain⟨⟨a',j,e,s,t,r⟩,q,p⟩:=h;simp only[Value.slice.injEq]at e;obtain⟨rfl,rfl,rfl⟩:=e;have o:b+4-b=4:=by omega
 unfold sliced at i;rw[o]at i
 refine⟨_,_,λW=>?_,i⟩;rw[run_slice_lh (P:=prog) W 34 a _ c underlying34 .i64 .i64 _ _ (by omega) (by omega) (by omega)];have e:prog.elem 34=5:=by kernel_rfl
 rw[e,I0,show((b:Int)+4).toNat=b+4 by omega,nV];simp[Result.andThen,sliced]
theorem Rn(x b:Int)(f:0<=x/\x<36028797018963968)(d:0<=b/\b<256):bits .or .i64 (x*256) b=x*256+b:=by
 obtain⟨x,rfl⟩:=nL f.1;obtain⟨y,rfl⟩:=nL d.1;have e:(x:Int)*256=((x*256:Nat):Int):=by omega
 have key:(BitVec.ofInt 64 ((x*256:Nat):Int) ||| BitVec.ofInt 64 (y:Int)).toNat=x*256+y:=by
  rw[rD,qk,qk];have a:((y:Int)%((2^64:Nat):Int)).toNat=y:=by omega
  have c:(((x*256:Nat):Int)%((2^64:Nat):Int)).toNat=2^8*x:=by omega
  rw[a,c,<- pQ (by omega:y<2^8)];omega
 rw[e];show IntKind.i64.wrap ((BitVec.ofInt 64 ((x*256:Nat):Int) ||| BitVec.ofInt 64 (y:Int)).toNat:Nat)=_;rw[key,IntKind.wrap_i64];omega
def Di(h:List Int):Nat->Int
 | 0=>0
 | k+1=>Di h k*256+h.getD k 0
theorem Kr{h:List Int}(a:∀ x∈h,0<=x/\x<256)(k:Nat):0<=Di h k/\Di h k<256^k:=by
 induction k with
 | zero=>simp[Di]
 | succ k ih =>
  have:=Aj a k;rw[Di,qH];omega
theorem Mo(l:List Int)(a:Nat)(h:a+4<=l.length):Di ((l.take (a+4)).drop a) 4=Ac l a:=by
 show(((0*256+((l.take (a+4)).drop a).getD 0 0)*256+((l.take (a+4)).drop a).getD 1 0)*256+((l.take (a+4)).drop a).getD 2 0)*256+((l.take (a+4)).drop a).getD 3 0=_;rw[Dq,Dq,Dq,Dq,BF _ _ _ (by omega),BF _ _ _ (by omega),BF _ _ _ (by omega),BF _ _ _ (by omega)];unfold Ac;rw[py];omega
theorem IX(v:Value)(l:List Int)(b:Nat)(w:World)(h:Sl w v l)(o:b+4<=l.length)(f:Int)(g:f=(b:Int)) :
  Calls prog 162 #[v,.int .i64 f] w λe w'=>e=.returned (.int .i64 (Ac l b))/\w'=w:=by
 have s:Hid (Di ((l.take (b+4)).drop b) 4=Ac l b):=Mo l b o;have d:=h.len;have H:0<=f:=by omega
 have I:f<=140737488351232:=by omega
 obtain⟨a,c,rfl⟩:=h.shape;obtain⟨D,F,y,k⟩:=h.ta b o f (f+4) g (by omega);have m:Hid (∀ x∈(l.take (b+4)).drop b,0<=x/\x<256):=k.byte;have t:Hid (((l.take (b+4)).drop b).length=4):=by unfold Hid;rw[nc,X'];omega
 generalize (l.take (b+4)).drop b=L at s k m t;generalize l.length=N at y d ⊢;clear h o g d;go_enter func162,ntmps162
 go_wp2_with fail
 go_loopw [5,14] (λv iv wr=>∃ j:Nat,j<=4/\iv=.int .i64 (j:Int)/\v=.int .i64 (Di L j)/\wr=w) (λ_ iv _=>(4-intOf iv).toNat)
 case atStart=>exact⟨0,by omega,rfl,rfl,rfl⟩
 case round =>
  obtain⟨j,G,rfl,rfl,rfl⟩:=hrel;by_cases C:j<4
  .have hii:(j:Int)<4:=by omega
   have p:=Kr m.out j;have r:Di L j<16777216:=by
    have:(256:Int)^j<=256^3:=by
     rcases(by omega:j=0\/j=1\/j=2\/j=3)with rfl|rfl|rfl|rfl<;>decide
    omega
   have u:=Aj m.out j;obtain⟨E,od,rfl,z,A⟩:=k.sF j (by have:=t.out;omega);have i:=Rn (Di L j) (L.getD j 0) ⟨p.1,by omega⟩ u;have n:Hid (Di L j*256+L.getD j 0=Di L (j+1)):=rfl;have q:=p.1;clear p k y;generalize Di L j=X at q r i n;generalize L.getD j 0=B at u A i n;go_wp2
   go_roundw
   case rel=>exact⟨j+1,by omega,by go_num,by rw[<- n.out],trivial⟩
   case measure=>simp[intOf];omega
  .obtain rfl:j=4:=by omega
   rw[show((4:Nat):Int)=4 from rfl,s.out];go_wp2
   go_ret;exact⟨rfl,rfl⟩
def SC(l:List Int)(j:Nat):List Int:=(List.range 5).map λi=>if i<j then Ac l (4*i)else 0
def rowOf(m:List Int):Array Value:=(m.map (Value.int .i64)).toArray
theorem Y4(l:List Int)(j:Nat)(a:j<5):(rowOf (SC l j)).setIfInBounds j (.int .i64 (Ac l (4*j)))=rowOf (SC l (j+1)):=by
 rcases(by omega:j=0\/j=1\/j=2\/j=3\/j=4)with rfl|rfl|rfl|rfl|rfl
 all_goals rfl
theorem LJ(v:Value)(l:List Int)(w:World)(h:Sl w v l)(ht:NTab w) :
  Calls prog 128 #[v] w λe w'=>e=.returned (.tuple #[.agg (KJ l),.int .i64 (Cx l)])/\Bw w w':=by
 have G:=h.len;obtain⟨a,cp,rfl⟩:=h.shape;by_cases E:l.length=20
 .have i:Hid (Cx l=Bo (Ac l 0) (Ac l 4) (Ac l 8) (Ac l 12) (Ac l 16)):=if_neg (λg=>g E);have Z:=h;have HL:Hid (l.length=20):=E;rw[E]at Z ⊢
  clear h E G;have b0:Bw w (w.alloc (.cells (cmA 0 0 0 0 0) 49)):=(Below.refl _ _).alloc (A' _) _;have z0:(w.alloc (.cells (cmA 0 0 0 0 0) 49)).heap.size=w.heap.size+1:=by simp
  have B:=heap_alloc_new w (.cells (cmA 0 0 0 0 0) 49);have N:Below (w.heap.size+1) (w.alloc (.cells (cmA 0 0 0 0 0) 49)) ((w.alloc (.cells (cmA 0 0 0 0 0) 49)).alloc (.cells (cmA 0 0 0 0 0) 49)):=(Below.refl _ _).alloc (by omega) _;have C:=heap_alloc_new (w.alloc (.cells (cmA 0 0 0 0 0) 49)) (.cells (cmA 0 0 0 0 0) 49);rw[z0]at C
  replace B:=(N.block w.heap.size (by omega)).trans B;have J:=b0.trans (N.mono (om _));have z1:((w.alloc (.cells (cmA 0 0 0 0 0) 49)).alloc (.cells (cmA 0 0 0 0 0) 49)).heap.size=w.heap.size+1+1:=by simp
  have Y:(w.alloc (.cells zV5 49)).alloc (.cells zV5 49)=(w.alloc (.cells (cmA 0 0 0 0 0) 49)).alloc (.cells (cmA 0 0 0 0 0) 49):=rfl;clear b0 N z0;generalize (w.alloc (.cells (cmA 0 0 0 0 0) 49)).alloc (.cells (cmA 0 0 0 0 0) 49)=W at B C J z1 Y;go_enter func128,ntmps128
  go_wp2_with fail
  clear Y;refine(H8 (w.heap.size+1) W).mono ?_;rintro e w2 ⟨rfl,H⟩;replace B:=(H.block w.heap.size (by omega)).trans B;replace C:=(H.block (w.heap.size+1) (by omega)).trans C;have d2:=J.trans (H.mono J.size);have o:Hid _:=B;have q:Hid (w2.heap[w.heap.size+1]?=some (.cells (rowOf (SC l 0)) 49)):=C;clear B C H J z1;have y:=Rv (w.heap.size+1);go_wp2_with fail
  go_loopw [13] (λiv wr=>∃ j:Nat,j<=5/\iv=.int .i64 (j:Int)/\wr.heap[w.heap.size]?=some (.cells (cmA 0 0 0 0 0) 49)/\wr.heap[w.heap.size+1]?=some (.cells (rowOf (SC l j)) 49)/\Bw w wr) (λiv _=>(5-intOf iv).toNat)
  case atStart=>exact⟨0,by omega,rfl,o.out,q.out,d2⟩
  case round =>
   obtain⟨j,hj,rfl,r,m,d⟩:=hrel;clear o q;by_cases z:j<5
   .have hji:(j:Int)<5:=by omega
    have a1:=y j z;have u:∃ x,wr.cell? ⟨w.heap.size+1,j,none⟩=some (.int .i64 x):=⟨(SC l j).getD j 0,(cell_of_row _ _ j _ _ _ m).trans (by simp[rowOf,SC,z])⟩;obtain⟨x,hx⟩:=u;have a0:=frozen_of_row wr _ j _ _ m;have o:Hid _:=r;have q:Hid _:=m;have R:=Y4 l j z;clear y r m;go_wp2_with fail
    refine(IX (.slice a 20 cp) l (4*j) wr (Z.af d) (by rw[HL.out];omega) _ (by omega)).mono ?_;rintro e Q ⟨rfl,rfl⟩;have A:(Q.setCell ⟨w.heap.size+1,j,none⟩ (.int .i64 (Ac l (4*j)))).heap[w.heap.size]?=some (.cells (cmA 0 0 0 0 0) 49):=(heap_setCell_other _ _ _ _ (by simp)).trans o.out;have M:(Q.setCell ⟨w.heap.size+1,j,none⟩ (.int .i64 (Ac l (4*j)))).heap[w.heap.size+1]?=some (.cells (rowOf (SC l (j+1))) 49):=by
     rw[heap_setCell_same _ _ _ _ _ _ q.out,R]
    have q2:Bw w (Q.setCell ⟨w.heap.size+1,j,none⟩ (.int .i64 (Ac l (4*j)))):=d.setCell (p:=⟨w.heap.size+1,j,none⟩) (om _) _;have S:Hid _:=A;have T:Hid _:=M;clear R A M o q;generalize Ac l (4*j)=X at S T q2 ⊢;go_wp2
    go_roundw
    case rel=>exact⟨j+1,by omega,by go_num,S.out,T.out,q2⟩
    case measure=>simp[intOf];omega
   .obtain rfl:j=5:=by omega
    rw[show((5:Nat):Int)=5 from rfl];have b:wr.heap[w.heap.size+1]?=some (.cells (cmA (Ac l 0) (Ac l 4) (Ac l 8) (Ac l 12) (Ac l 16)) 49):=m;clear m y;have f:Hid (Cx l=0->KJ l=cmA (Ac l 0) (Ac l 4) (Ac l 8) (Ac l 12) (Ac l 16)):=λh=>if_pos h;have t:Hid (¬ Cx l=0->KJ l=cmA 0 0 0 0 0):=λh=>if_neg h;have V:=ht.af d;generalize Ac l 0=k at i f b;generalize Ac l 4=c at i f b;generalize Ac l 8=s at i f b;generalize Ac l 12=n at i f b;generalize Ac l 16=v at i f b;have L:=Ha k c s n v;have F:=Ha 0 0 0 0 0;have O:=(Q'.1 b).1;go_wp2_with (refine wpList_load_row rfl 49 _ rfl (w.heap.size+1) rfl 49 _ (0,0) _ b underlying49 rfl L ?_)
    refine(Es k c s n v wr V).mono ?_;rintro e w6 ⟨rfl,I⟩;have U:=d.trans (I.mono d.size);have A:=(I.block w.heap.size (by omega)).trans r;have M:=(I.block (w.heap.size+1) O).trans b;clear r b I V d;by_cases K:Bo k c s n v=0
    .have HZ:Hid (Cx l=0):=i.out.trans K;have D:Hid (KJ l=cmA k c s n v):=f.out HZ.out;rw[K];clear K i f t;go_wp2_with (first|(refine wpList_load_row rfl 49 _ rfl (w.heap.size+1) rfl 49 _ (0,0) _ M underlying49 rfl L ?_)|(refine wpList_store_row rfl 49 (.tmp 2) (.tmp 30) rfl w.heap.size (cmA k c s n v) rfl rfl 49 _ A L rfl (UD k c s n v) ?_))
     have P:=setRow_heap w6 w.heap.size _ (cmA k c s n v) 49 _ A;refine bodyPost_ret (Ks rfl _ _ w.heap.size 49 _ (0,0) _ rfl P underlying49 rfl L) rfl ?_;rw[HZ.out,D.out];exact⟨rfl,C6 U (A' _) _⟩
    .have HZ:Hid (Cx l=Bo k c s n v):=i.out;have D:Hid (KJ l=cmA 0 0 0 0 0):=t.out (by rw[i.out];exact K);clear i f t;go_wp2_with (refine wpList_store_row rfl 49 (.tmp 2) (.tmp 28) rfl w.heap.size (cmA 0 0 0 0 0) rfl rfl 49 _ A F rfl (UD 0 0 0 0 0) ?_)
     have P:=setRow_heap w6 w.heap.size _ (cmA 0 0 0 0 0) 49 _ A;refine bodyPost_ret (Ks rfl _ _ w.heap.size 49 _ (0,0) _ rfl P underlying49 rfl F) rfl ?_;rw[HZ.out,D.out];exact⟨rfl,C6 U (A' _) _⟩
 .have h1':¬ (l.length:Int)=20:=by omega
  have i:Hid (Cx l=1):=if_pos E;have D:Hid (KJ l=cmA 0 0 0 0 0):=if_neg (by rw[i.out];omega);have bb:Bw w (w.alloc (.cells (cmA 0 0 0 0 0) 49)):=(Below.refl _ _).alloc (A' _) _;have bc:=Bc.made w 0 0 0 0 0;go_enter func128,ntmps128
  go_wp2
  refine bodyPost_ret (Ks rfl _ _ w.heap.size 49 _ (0,0) _ rfl (heap_alloc_new _ _) underlying49 rfl (Ha 0 0 0 0 0)) rfl ?_;rw[i.out,D.out];exact⟨rfl,bb⟩
theorem Jp(c r u:Int):(tkA c r u).all (·.oneCell')=true:=by simp[tkA,Value.oneCell']
theorem RQ(v:Value)(l:List Int)(w:World)(h:Sl w v l)(x:6<=l.length) :
  Calls prog 161 #[v] w λe w'=>e=.returned (.agg (tkA (l.getD 0 0) (l.getD 1 0) (Ac l 2)))/\Bw w w':=by
 have d:=h.len;obtain⟨a,t,rfl⟩:=h.shape;have i:Bw w (w.alloc (.cells (tkA 0 0 0) 59)):=(Below.refl _ _).alloc (A' _) _;have j:=heap_alloc_new w (.cells (tkA 0 0 0) 59);have f:=h.af i;have o:w.alloc (.cells #[.int .i64 0,.int .i64 0,.int .i64 0] 59)=w.alloc (.cells (tkA 0 0 0) 59):=rfl;generalize w.alloc (.cells (tkA 0 0 0) 59)=W0 at i j f o;obtain⟨r,od,rfl,u,k⟩:=f.sF 0 (by omega);obtain⟨s,A,m,_,q⟩:=f.sF 1 (by omega);simp only[Y',Addr.mk.injEq,and_true]at m;obtain⟨rfl,rfl⟩:=m;rw[py]at k
 have C:=Aj h.byte 0;have D:=Aj h.byte 1;have y:(0:Int)<(l.length:Int):=by omega
 have z:(1:Int)<(l.length:Int):=by omega
 have n:Calls prog 162 #[.slice (some ⟨r,od,none⟩) l.length t,.int .i64 2] W0.drew λe w'=>e=.returned (.int .i64 (Ac l 2))/\w'=W0.drew :=
  IX _ l 2 _ (f.af (Below.refl _ _).drew) (by omega) 2 rfl
 have g:Hid _:=n;clear n;generalize l.getD 0 0=b0 at k C;generalize l.getD 1 0=b1 at q D;generalize Ac l 2=b2 at g;generalize l.length=N at d x y z g ⊢;clear h f;have p:=Jq b0 b1 b2;go_enter func161,ntmps161
 go_wp2_with fail
 refine Av 11 (by kernel_rfl) (by kernel_rfl) ?_;simp only[ou,oF,oH,pg]
 repeat (go_big_quiet_step (fail))
 go_big_quiet_want
 go_big_quiet_op
 refine⟨_,g.out,?_⟩
 go_big_quiet_on
 repeat (go_big_quiet_step (fail))
 refine wpQuiet_nil ?_;clear o;have b:W0.drew.heap[w.heap.size]?=some (.cells (tkA 0 0 0) 59):=j;have c:Bw w W0.drew:=i.drew;clear j i k q g;generalize W0.drew=W at b c ⊢;go_wp2_with (refine wpList_store_row rfl 59 (.tmp 2) (.tmp 13) rfl w.heap.size (tkA b0 b1 b2) rfl rfl 59 _ b p rfl (Jp b0 b1 b2) ?_)
 have B:=setRow_heap W w.heap.size _ (tkA b0 b1 b2) 59 _ b;exact bodyPost_ret (v:=.agg (tkA b0 b1 b2)) (results_cell_row rfl _ _ w.heap.size 59 _ (0,0) _ rfl B underlying59 rfl p) rfl ⟨rfl,C6 c (A' _) _⟩
def E9(key l:List Int):Int :=
 if key.length≠32\/l.length≠22 then 1
 else if(E7 key (l.take 6)).take 16≠l.drop 6 then 6
 else NW (l.getD 0 0) (l.getD 1 0) (Ac l 2)
def NJ(key l:List Int):Array Value:=if E9 key l=0 then tkA (l.getD 0 0) (l.getD 1 0) (Ac l 2)else tkA 0 0 0
theorem OD(h:key.length≠32\/l.length≠22):E9 key l=1:=if_pos h
theorem aL(a:key.length=32)(b:l.length=22)(h:¬ (E7 key (l.take 6)).take 16=l.drop 6):E9 key l=6:=by
 unfold E9;rw[if_neg (by omega),if_pos h]
theorem aM(a:key.length=32)(b:l.length=22)(h:(E7 key (l.take 6)).take 16=l.drop 6):E9 key l=NW (l.getD 0 0) (l.getD 1 0) (Ac l 2):=by
 unfold E9;rw[if_neg (by omega),if_neg (λg=>g h)]
theorem Vj(h:E9 key l=0):NJ key l=tkA (l.getD 0 0) (l.getD 1 0) (Ac l 2):=if_pos h
theorem IZ(h:¬ E9 key l=0):NJ key l=tkA 0 0 0:=if_neg h
theorem Ty(l:List Int):Ac (l.take 6) 2=Ac l 2:=by
 unfold Ac;rw[BF _ _ _ (by omega),BF _ _ _ (by omega),BF _ _ _ (by omega),BF _ _ _ (by omega)]
theorem WV(vk vb:Value)(key l:List Int)(w:World)(z:Sl w vk key)(x:Sl w vb l)(ht:AJ w) :
  Calls prog 127 #[vk,vb] w λe w'=>e=.returned (.tuple #[.agg (NJ key l),.int .i64 (E9 key l)])/\Bw w w':=by
 have lk:=z.len;have ll:=x.len;obtain⟨ak,ck,rfl⟩:=z.shape;obtain⟨U,Y,rfl⟩:=x.shape;have i:Bw w (w.alloc (.cells (tkA 0 0 0) 59)):=(Below.refl _ _).alloc (A' _) _;have L:=heap_alloc_new w (.cells (tkA 0 0 0) 59);have d:=Jq 0 0 0;by_cases o:key.length=32
 .by_cases h2:l.length=22
  .have H1:Hid (key.length=32):=o;have t:Hid (l.length=22):=h2;rw[o]at z ⊢
   rw[h2]at x ⊢
   clear lk ll o h2;have v:w.alloc (.cells #[.int .i64 0,.int .i64 0,.int .i64 0] 59)=w.alloc (.cells (tkA 0 0 0) 59):=rfl;generalize w.alloc (.cells (tkA 0 0 0) 59)=W at i L v;obtain⟨S,V,C,s6⟩:=x.rN 6 (by have:=t.out;omega);have r6:∀ W,(Instr.slice 34 (.slice U 22 Y) none (some (.int .i64 6)) none).run prog W=.ok (.slice S 6 V) W:=C;obtain⟨T,X,D,s7⟩:=x.from 6 (by have:=t.out;omega);have r7:∀ W,(Instr.slice 34 (.slice U 22 Y) (some (.int .i64 6)) none none).run prog W=.ok (.slice T 16 X) W:=D;clear C D;have R:Hid ((l.take 6).length=6):=by unfold Hid;rw[X',t.out];rfl
   go_enter func127,ntmps127
   go_wp2_with fail
   clear v;refine(RJ _ _ key (l.take 6) W (z.af i) (s6.af i) (by rw[H1.out];omega) (by rw[R.out];omega) (ht.af i)).mono ?_;rintro e M ⟨v1,rfl,s1,N⟩;have P:=i.trans (N.mono i.size);have q1:=(N.block w.heap.size (Q'.1 L).1).trans L;have E:=s7.af P;clear N i L;go_wp2_with fail
   refine(Jh v1 (.slice T 16 X) _ _ M s1 E).mono ?_;rintro e w2 ⟨rfl,m,rfl⟩;have n:Bw w (M.drewN m):=Aq P m;have s:(M.drewN m).heap[w.heap.size]?=some (.cells (tkA 0 0 0) 59):=q1;clear q1 P s1 E;generalize M.drewN m=W2 at n s ⊢;by_cases p:(E7 key (l.take 6)).take 16=l.drop 6
   .have HE:=aM H1.out t.out p;have b:Hid (E9 key l=0->NJ key l=tkA (l.getD 0 0) (l.getD 1 0) (Ac l 2)):=Vj;have j:Hid (¬ E9 key l=0->NJ key l=tkA 0 0 0):=IZ;have F:Hid ((l.take 6).getD 0 0=l.getD 0 0/\(l.take 6).getD 1 0=l.getD 1 0/\Ac (l.take 6) 2=Ac l 2):=⟨BF _ _ _ (by omega),BF _ _ _ (by omega),Ty l⟩;rw[M' p];clear p;go_wp2_with fail
    refine(RQ (.slice S 6 V) (l.take 6) W2 (s6.af n) (by rw[R.out];omega)).mono ?_;rintro e g ⟨rfl,O⟩;rw[F.out.1,F.out.2.1,F.out.2.2];have Q:=n.trans (O.mono n.size);have f:=(O.block w.heap.size (Q'.1 s).1).trans s;clear O s n F;generalize l.getD 0 0=c at HE b ⊢;generalize l.getD 1 0=r at HE b ⊢;generalize Ac l 2=u at HE b ⊢;have y:=Jq c r u;have H:Bw g (g.alloc (.cells (tkA 0 0 0) 59)):=(Below.refl _ _).alloc (A' _) _;have K:=heap_alloc_new g (.cells (tkA 0 0 0) 59);have v:g.alloc (.cells #[.int .i64 0,.int .i64 0,.int .i64 0] 59)=g.alloc (.cells (tkA 0 0 0) 59):=rfl;generalize g.alloc (.cells (tkA 0 0 0) 59)=W4 at H K v;have A:w.heap.size<g.heap.size:=(Q'.1 f).1
    go_upto_region 10 with(refine wpList_store_row rfl 59 (.tmp 9) (.tmp 38) rfl g.heap.size (tkA c r u) rfl rfl 59 _ K y rfl (Jp c r u) ?_)
    clear v;have k:=setRow_heap W4 g.heap.size _ (tkA c r u) 59 _ K;replace f:=((H.block w.heap.size A).trans f);replace f:=(setRow_other W4 g.heap.size w.heap.size (tkA c r u) (by omega)).trans f;have J:=C6 (Q.trans (H.mono Q.size)) (show w.heap.size<=g.heap.size by omega) (tkA c r u);generalize W4.setRow g.heap.size (tkA c r u)=W5 at f k J ⊢;clear K H Q;generalize g.heap.size=G at k A ⊢;go_wp2_with (refine wpList_load_row rfl 59 _ rfl G rfl 59 _ (0,0) _ k underlying59 rfl y ?_)
    refine(JG c r u W5).mono ?_;rintro e w6 ⟨rfl,I⟩;have Z:=J.trans (I.mono J.size);replace f:=(I.block w.heap.size (Q'.1 f).1).trans f;replace k:=(I.block G (Q'.1 k).1).trans k;clear I J;by_cases q:Dy c r u
    .have a:Hid (E9 key l=0):=HE.trans (Lr q);have h:Hid (NJ key l=tkA c r u):=b.out a.out;rw[M' q];clear HE b j q;go_wp2_with (first|(refine wpList_load_row rfl 59 _ rfl G rfl 59 _ (0,0) _ k underlying59 rfl y ?_)|(refine wpList_store_row rfl 59 (.tmp 4) (.tmp 43) rfl w.heap.size (tkA c r u) rfl rfl 59 _ f y rfl (Jp c r u) ?_))
     have B:=setRow_heap w6 w.heap.size _ (tkA c r u) 59 _ f;refine bodyPost_ret (Ks rfl _ _ w.heap.size 59 _ (0,0) _ rfl B underlying59 rfl y) rfl ?_;rw[a.out,h.out];exact⟨rfl,C6 Z (A' _) _⟩
    .have a:Hid (E9 key l=2):=HE.trans (Vz q);have h:Hid (NJ key l=tkA 0 0 0):=j.out (by rw[a.out];omega);rw[D' q];clear HE b j q;go_wp2_with (refine wpList_store_row rfl 59 (.tmp 4) (.tmp 42) rfl w.heap.size (tkA 0 0 0) rfl rfl 59 _ f d rfl (Jp 0 0 0) ?_)
     have B:=setRow_heap w6 w.heap.size _ (tkA 0 0 0) 59 _ f;refine bodyPost_ret (Ks rfl _ _ w.heap.size 59 _ (0,0) _ rfl B underlying59 rfl d) rfl ?_;rw[a.out,h.out];exact⟨rfl,C6 Z (A' _) _⟩
   .have a:Hid (E9 key l=6):=aL H1.out t.out p;have h:Hid (NJ key l=tkA 0 0 0):=IZ (by rw[a.out];omega);rw[D' p];clear p;go_wp2_with (refine wpList_store_row rfl 59 (.tmp 4) (.tmp 36) rfl w.heap.size (tkA 0 0 0) rfl rfl 59 _ s d rfl (Jp 0 0 0) ?_)
    have B:=setRow_heap W2 w.heap.size _ (tkA 0 0 0) 59 _ s;refine bodyPost_ret (Ks rfl _ _ w.heap.size 59 _ (0,0) _ rfl B underlying59 rfl d) rfl ?_;rw[a.out,h.out];exact⟨rfl,C6 n (A' _) _⟩
  .have h2':¬ (l.length:Int)=22:=by omega
   have a:Hid (E9 key l=1):=OD (.inr h2);have h:Hid (NJ key l=tkA 0 0 0):=IZ (by rw[a.out];omega);rw[o]at z ⊢
   clear o;go_enter func127,ntmps127
   go_wp2
   refine bodyPost_ret (Ks rfl _ _ w.heap.size 59 _ (0,0) _ rfl (heap_alloc_new _ _) underlying59 rfl d) rfl ?_;rw[a.out,h.out];exact⟨rfl,i⟩
 .have h1':¬ (key.length:Int)=32:=by omega
  have a:Hid (E9 key l=1):=OD (.inl o);have h:Hid (NJ key l=tkA 0 0 0):=IZ (by rw[a.out];omega);go_enter func127,ntmps127
  go_wp2
  refine bodyPost_ret (Ks rfl _ _ w.heap.size 59 _ (0,0) _ rfl (heap_alloc_new _ _) underlying59 rfl d) rfl ?_;rw[a.out,h.out];exact⟨rfl,i⟩
end
end
section
section
def Rl(l:List Int):Int:=if l=[]then 13 else if 7<l.getD 0 0 then 2 else CL (Hq (l.getD 0 0)) 0 0 noB (l.drop 1)
def P8(l:List Int):List Int:=if Rl l=0 then KB (Hq (l.getD 0 0)) (l.drop 1)else[]
def unT(l:List Int):List Int:=(P8 l).take 22
def unQ(l:List Int):List Int:=(P8 l).drop 22
def unB(l:List Int):Prop:=Rl l=0/\(P8 l).length=42/\E9 Hp (unT l)=0
instance (l:List Int):Decidable (unB l):=by unfold unB;exact inferInstance
def unE(l:List Int):Int:=if Rl l≠0 then Rl l else if(P8 l).length≠42 then 3 else if E9 Hp (unT l)≠0 then E9 Hp (unT l)else Cx (unQ l)
variable{i:Nat}{l:List Int}{now:Int}
theorem RR(h:unE l=0):unB l/\Cx (unQ l)=0:=by
 unfold unE at h;split at h
 .rename_i g;exact absurd h g
 .rename_i g1
  split at h
  .cases h
  .rename_i g2
   split at h
   .rename_i g;exact absurd h g
   .rename_i g3
    exact⟨⟨mX.1 g1,mX.1 g2,mX.1 g3⟩,h⟩
theorem mf(h:unE l=0):0<l.length:=by
 obtain⟨⟨a,_⟩,_⟩:=RR h;cases l with
 | nil=>cases a
 | cons x r=>simp
def opE(l:List Int)(now:Int):Int :=
 if unE l≠0 then unE l
 else if Ac (unQ l) 0≠0/\Ac (unQ l) 4≠l.getD 0 0 then 11
 else Fg ((unT l).getD 0 0) ((unT l).getD 1 0) (Ac (unT l) 2) (Ac (unQ l) 0) (Ac (unQ l) 4) (Ac (unQ l) 8) (Ac (unQ l) 12) (Ac (unQ l) 16) now
def opA(l:List Int)(now:Int):Array Value:=if opE l now=0 then cmA (Ac (unQ l) 0) (Ac (unQ l) 4) (Ac (unQ l) 8) (Ac (unQ l) 12) (Ac (unQ l) 16)else cmA 0 0 0 0 0
theorem P6(h:opE l now≠0):opA l now=cmA 0 0 0 0 0:=if_neg h
theorem ai(h:opE l now=0):opA l now=cmA (Ac (unQ l) 0) (Ac (unQ l) 4) (Ac (unQ l) 8) (Ac (unQ l) 12) (Ac (unQ l) 16):=if_pos h
def Nod.kc(p:Nod)(i:Nat):Nod × List Let :=
 if(AZ p.vo.p p.cl (p.br.take 40)).1=[]then({ p with cl:=(AZ p.vo.p p.cl (p.br.take 40)).2 },[])
 else if p.vo.p.n=(i:Int)then(Nod.eb { p with cl:=(AZ p.vo.p p.cl (p.br.take 40)).2 } (AZ p.vo.p p.cl (p.br.take 40)).1,[])
 else({ p with cl:=(AZ p.vo.p p.cl (p.br.take 40)).2 },[{ BJ 6 with bu:=p.ae.length,fv:=(AZ p.vo.p p.cl (p.br.take 40)).1,src:=i,dst:=p.vo.p.n.toNat }])
noncomputable def sa(i:Nat):List Cmd->Nod->List Tol->Nod × List Tol
 | [],p,ts=>(p,ts)
 | c::l,p,ts =>
  if doE p.ni c≠0 then(p,ts)
  else sa i l (Nod.hZ { p with ni:=doS p.ni c,done:=p.done+1 } c) (if(p.cl c).isSome=true then ts++[⟨i,c.c,c.s,doC p.ni c,doA p.ni c⟩]else ts)
def Nod.oh(p:Nod)(i:Nat)(ls:List Let):Nod × List Let:=if p.sy<(p.d.length:Int)/\Db p.d p.sy≠0 then(p,ls)else ov i p.bw { p.rZ with bw:=[] } ls
def Nod.bN(p:Nod)(i:Nat)(ls:List Let):Nod × List Let:=if p.leads then(E6 p i 5,ls++Dn p i 5)else(p,ls)
noncomputable def Nod.piece(p:Nod)(i:Nat)(ls:List Let)(ts:List Tol):Nod × List Let × List Tol :=
 let a:=sa i (p.ae.drop p.done) p ts
 let b:=a.1.kc i
 let c:=b.1.cF.oh i (ls++b.2)
 let d:=c.1.bN i c.2
 (d.1,d.2,a.2)
noncomputable def Nod.sm(p:Nod)(i:Nat)(e:Int)(c:Cmd)(ts:List Tol):Nod × List Tol :=
 if p.up=false then(p,ts)
 else if e≠0 then({ p with bad:=p.bad+1 },ts)
 else if c∈p.ae.take p.done then(p,ts++[⟨i,c.c,c.s,doC p.ni c,doA p.ni c⟩])
 else(p.want c,ts)
def Hr(l:List Int)(now:Int):Cmd:=if opE l now=0 then⟨Ac (unQ l) 0,Ac (unQ l) 4,Ac (unQ l) 8,Ac (unQ l) 12,Ac (unQ l) 16⟩else VO
theorem jl(l:List Int)(a:Int):opA l a=cmC (Hr l a):=by unfold opA Hr;split<;>rfl
noncomputable def Nod.sj(p:Nod)(i:Nat)(d:List Int)(ts:List Tol):Nod × List Tol:=p.sm i (opE d (p.done:Int)) (Hr d (p.done:Int)) ts
def Meet.set(M:Meet)(i:Nat)(p:Nod)(ls:List Let)(ts:List Tol):Meet:=⟨upN M.ab i p,ls,ts⟩
noncomputable def Meet.act(M:Meet)(x:Lac):Meet :=
 let i:=x.n.toNat
 if x.k=1 then M.set i ((M.ab i).sj i x.d M.ew).1 M.bt ((M.ab i).sj i x.d M.ew).2
 else if x.k=2 then M.set i (if(M.ab i).up then(M.ab i).lead i else M.ab i) M.bt M.ew
 else if x.k=3 then M.set i (if(M.ab i).up then((M.ab i).piece i M.bt M.ew).1 else M.ab i) (if(M.ab i).up then((M.ab i).piece i M.bt M.ew).2.1 else M.bt) (if(M.ab i).up then((M.ab i).piece i M.bt M.ew).2.2 else M.ew)
 else if x.k=4\/x.k=5\/x.k=6 then M.move x.k x.a.toNat
 else if x.k=7 then M.rY
 else if x.k=8 then M.set i (if(M.ab i).up then(M.ab i).lp x.p else M.ab i) M.bt M.ew
 else if x.k=9 then M.set i (if(M.ab i).up then M.ab i else(M.ab i).start) M.bt M.ew
 else M
noncomputable def Meet.dW(M:Meet)(l:List Lac):Meet:=l.foldl Meet.act M
theorem fx(r:List Int):Ar (Ec r).2.p/\BU (Ec r).2.vs:=by
 have h:∀ k,Ar (itR r k).2.p/\BU (itR r k).2.vs:=by
  intro k;induction k with
  | zero=>exact⟨.inr ⟨rfl,rfl⟩,BU.nil⟩
  | succ k ih =>
   rw[itR];unfold Ko;split
   .exact ih
   .rename_i c m hs
    have d:∃ b,DK (itR r k).2 b=some c:=by
     unfold Cc at hs;split at hs
     .cases hs
     .split at hs
      .cases hs
      .split at hs
       .cases hs
       .obtain⟨x,hx,e⟩:=oM.1 hs;injection e with e1 e2
        subst e1;exact⟨_,hx⟩
    obtain⟨b,a⟩:=d;unfold DK at a;split at a
    .split at a
     .rename_i h1
      injection a with a;subst a
      exact⟨.inl (Co h1).2.1,ih.2⟩
     .cases a
    .split at a
     .split at a
      .split at a
       .rename_i h1
        injection a with a;subst a
        exact⟨.inl (As h1).2.1.2.1,Gz ih.2 (As h1).2.1⟩
       .cases a
      .cases a
     .cases a
 exact h r.length
theorem fw(d:List Int)(s:Int):Ar (GA d s).p/\BU (GA d s).vs:=by
 unfold GA;split
 .exact fx d
 .exact⟨.inr ⟨rfl,rfl⟩,BU.nil⟩
theorem CI{l m:Let}{k:Nat}(h:m∈BZ i l k):∃ to,to<k/\m={ l with src:=i,dst:=to }:=by
 unfold BZ at h;obtain⟨to,a,rfl⟩:=ny.1 h;exact⟨to,oK.1 (qi.1 a).1,rfl⟩
theorem JO(a:i<5)(l:Let):(BZ i l 5).length<=4:=by
 unfold BZ;rw[nw];rcases rU a with rfl|rfl|rfl|rfl|rfl<;>decide
end
section
variable{n i:Nat}{p:Nod}
theorem NOk.lr(h:NOk n p)(a:i<5){q:Pend}(c:POk p.ae.length q):NOk n (p.lr i q)/\(p.lr i q).bw=p.bw/\p.ae.length<=(p.lr i q).ae.length/\RY p i q/\(∀ m∈p.rT i q,LOk m)/\(p.rT i q).length<=q.wt:=by
 have g:=h.ag;have one:∀ {l:Let},LOk l->∀ m∈[l],LOk m:=λj m d=>by rw[G'.1 d];exact j
 cases q with
 | began b vs =>
  unfold Nod.lr Nod.rT;refine⟨?_,?_,?_,ra (h.he i).len (by decide),?_,?_⟩
  .simp only;split
   .exact h
   .exact h.sf i c
  .simp only;split<;>rfl
  .simp only;split<;>exact A' _
  .simp only;split
   .exact λm d=>by cases d
   .rename_i h1
    intro m d;obtain⟨to,e,rfl⟩:=CI d;exact⟨by show 0<7;decide,a,e,by show Ar b;rw[<- nP h1];exact h.vp,BU.nil,by show 0<=40;decide,λh=>by cases h⟩
  .simp only;split
   .exact nB _
   .exact JO a _
 | prom to b vs=>exact⟨h,rfl,A' _,trivial,one ⟨by show 1<7;decide,a,c.1,c.2.1,c.2.2,g,λh=>by cases h⟩,A' _⟩
 | voted to v=>exact⟨h,rfl,A' _,trivial,one ⟨by show 4<7;decide,a,c,Ar.b0,BU.nil,by show 0<=40;decide,λh=>by cases h⟩,A' _⟩
 | eo to b=>exact⟨h,rfl,A' _,trivial,one ⟨by show 2<7;decide,a,c.1,c.2,BU.nil,by show 0<=40;decide,λh=>by cases h⟩,A' _⟩
 | prop v =>
  have f:=h.count i v;refine⟨f.1,f.2.1,f.2.2,g,λm d=>?_,JO a _⟩;obtain⟨to,e,rfl⟩:=CI d;exact⟨by show 3<7;decide,a,e,Ar.b0,BU.nil,by show 0<=40;decide,λh=>by cases h⟩
 | askNews to=>exact⟨h,rfl,A' _,trivial,one ⟨by show 6<7;decide,a,c,Ar.b0,BU.nil,by show 0<=40;decide,λh=>by cases h⟩,A' _⟩
 | start =>
  refine⟨h,rfl,A' _,trivial,λm d=>?_,JO a _⟩;obtain⟨to,e,rfl⟩:=CI d;exact⟨by show 6<7;decide,a,e,Ar.b0,BU.nil,by show 0<=40;decide,λh=>by cases h⟩
 | tell to bu=>exact⟨h,rfl,A' _,c.2,one ⟨by show 5<7;decide,a,c.1,Ar.b0,BU.nil,by show(p.ae.drop bu).length<=40;rw[nc];omega,λ_=>by show bu+(p.ae.drop bu).length<=40;rw[nc];have:=c.2;omega⟩,A' _⟩
theorem YB(k:i<5)(l:List Pend)(p:Nod)(a:List Let)(h:NOk n p)(c:∀ q∈l,POk p.ae.length q)(z:a.length+Az l<90000000)(b:∀ m∈a,LOk m) :
  NOk n (ov i l p a).1/\(ov i l p a).1.bw=p.bw/\(∀ m∈(ov i l p a).2,LOk m)/\(ov i l p a).2.length<=a.length+Az l/\GW i l p a:=by
 induction l generalizing p a with
 | nil=>exact⟨h,rfl,b,A' _,trivial⟩
 | cons q l ih =>
  obtain⟨d,e,f,g,j,y⟩:=h.lr k (c q O');have A:Az (q::l)=q.wt+Az l:=rfl;obtain⟨t,u,v,w,x⟩:=ih (p.lr i q) (a++p.rT i q) d (λr s=>(c r (I' _ s)).mono f) (by rw[H'];omega) (λm o=>by
   rcases U'.1 o with h|h
   .exact b m h
   .exact j m h)
  refine⟨t,u.trans e,v,?_,g,by omega,x⟩;show(ov i l (p.lr i q) (a++p.rT i q)).2.length<=_;rw[H']at w;omega
theorem NOk.rZ(h:NOk n p):NOk n { p.rZ with bw:=[] }:=by
 unfold Nod.rZ;split
 .exact{ h with pe:=λq a=>by cases a }
 .exact{ h with pe:=λq a=>by cases a }
theorem Un(p:Nod):p.rZ.ae=p.ae:=by unfold Nod.rZ;split<;>rfl
theorem NOk.oh(h:NOk n p)(d:i<5){ls:List Let}(c:ls.length+Az p.bw<90000000)(b:∀ m∈ls,LOk m) :
  NOk n (p.oh i ls).1/\(∀ m∈(p.oh i ls).2,LOk m)/\(p.oh i ls).2.length+Az (p.oh i ls).1.bw<=ls.length+Az p.bw/\GW i p.bw { p.rZ with bw:=[] } ls:=by
 have a:=YB d p.bw { p.rZ with bw:=[] } ls h.rZ (λq e=>by show POk p.rZ.ae.length q;rw[Un];exact h.pe q e) c b;unfold Nod.oh;split
 .exact⟨h,b,A' _,a.2.2.2.2⟩
 .exact⟨a.1,a.2.2.1,by rw[a.2.1];exact a.2.2.2.1,a.2.2.2.2⟩
theorem XY(b:Bal)(f:Cmd->Option Bal)(l:List Cmd):(AZ b f l).1.length<=l.length:=by
 induction l generalizing f with
 | nil=>exact A' _
 | cons c l ih =>
  rw[AZ];split
  .have:=ih (Ca f c (some b));simp only[nD];omega
  .have:=ih f;simp only[nD];omega
theorem VH(b:Bal)(f:Cmd->Option Bal)(l:List Cmd)(c:Cmd)(h:((AZ b f l).2 c).isSome=true):(f c).isSome=true\/c∈l:=by
 induction l generalizing f with
 | nil=>exact .inl h
 | cons d l ih =>
  rw[AZ]at h
  split at h
  .rcases ih _ h with h1|h1
   .unfold Ca at h1;split at h1
    .rename_i e;exact .inr (e▸O')
    .exact .inl h1
   .exact .inr (I' _ h1)
  .rcases ih _ h with h1|h1
   .exact .inl h1
   .exact .inr (I' _ h1)
theorem NOk.asks(h:NOk n p):NOk n { p with cl:=(AZ p.vo.p p.cl (p.br.take 40)).2 } :=
 { h with ask:=λc a=>(VH _ _ _ c a).elim (h.ask c) nu }
theorem NOk.kc(h:NOk n p)(c:i<5):NOk n (p.kc i).1/\(p.kc i).1.bw=p.bw/\(p.kc i).1.ae=p.ae/\(∀ m∈(p.kc i).2,LOk m)/\(p.kc i).2.length<=1:=by
 have b:(AZ p.vo.p p.cl (p.br.take 40)).1.length<=40:=mV (XY _ _ _) (by rw[X'];omega);unfold Nod.kc;split
 .exact⟨h.asks,rfl,rfl,λm a=>(by cases a),nB _⟩
 .split
  .have:=h.asks.eb (AZ p.vo.p p.cl (p.br.take 40)).1;exact⟨this.1,this.2.1,this.2.2,λm a=>(by cases a),nB _⟩
  .have hr:=h.vp.um;refine⟨h.asks,rfl,rfl,λm a=>?_,A' _⟩;rw[G'.1 a];exact⟨by show 6<7;decide,c,by show p.vo.p.n.toNat<5;omega,Ar.b0,BU.nil,b,λh=>by cases h⟩
theorem NOk.cF(h:NOk n p):NOk n p.cF/\Az p.cF.bw<=Az p.bw+4/\p.cF.ae=p.ae:=by
 unfold Nod.cF;split
 .exact⟨h,by omega,rfl⟩
 .split
  .exact⟨h,by omega,rfl⟩
  .rename_i c _
   split
   .exact⟨h,by omega,rfl⟩
   .have hv:=h.cn ⟨(p.ae.length:Int),p.bn.gC,c⟩;have a:NOk n { (p.cn ⟨(p.ae.length:Int),p.bn.gC,c⟩).1 with bn:={ p.bn with next:=p.ae.length+1 } }:={ hv.1 with qu:=h.qu,he:=h.he };refine⟨a.wait trivial,?_,hv.2.2.1⟩;show Az ((p.cn ⟨(p.ae.length:Int),p.bn.gC,c⟩).1.bw++[_])<=_;rw[FP,hv.2.1];exact A' _
theorem NOk.bN(h:NOk n p)(e:i<5)(a:List Let)(d:∀ m∈a,LOk m):NOk n (p.bN i a).1/\(p.bN i a).1.bw=p.bw/\(∀ m∈(p.bN i a).2,LOk m)/\(p.bN i a).2.length<=a.length+5:=by
 have g:=h.ag;have f:∀ k,k<=5->∀ m∈Dn p i k,LOk m:=by
  intro k;induction k with
  | zero=>exact λ_ m b=>by cases b
  | succ k ih =>
   intro j m b;rw[Dn]at b
   rcases U'.1 b with h1|h1
   .exact ih (by omega) m h1
   .split at h1
    .rename_i c
     have c:=nG c;rw[G'.1 h1];exact⟨by show 5<7;decide,e,by show k<5;omega,Ar.b0,BU.nil,by show(p.ae.drop _).length<=40;rw[nc];omega,λ_=>by show p.bn.bN k+(p.ae.drop _).length<=40;rw[nc];omega⟩
    .cases h1
 unfold Nod.bN;split
 .refine⟨{ h with qu:=h.qu,he:=h.he },rfl,λm b=>?_,by show(a++Dn p i 5).length<=_;rw[H'];have:=Vx p i 5;omega⟩;rcases U'.1 b with h1|h1
  .exact d m h1
  .exact f 5 (A' _) m h1
 .exact⟨h,rfl,d,rC _ _⟩
theorem NOk.hZ(h:NOk n p)(c:Cmd):NOk n (p.hZ c)/\(p.hZ c).br.length+(if(p.cl c).isSome=true then 1 else 0)<=p.br.length:=by
 unfold Nod.hZ;split
 .rename_i h1
  have b:=h.ask c h1;have e:(p.br.erase c).length=p.br.length-1:=List.length_erase_of_mem b;have f:0<p.br.length:=List.length_pos_of_mem b;refine⟨{ h with wa:=?_,ask:=λd a=>?_ },by show(p.br.erase c).length+1<=_;omega⟩
  .show(p.br.erase c).length<=n;have:=h.wa;omega
  .unfold Ca at a;simp only at a;split at a
   .cases a
   .rename_i hne;exact(List.mem_erase_of_ne hne).2 (h.ask d a)
 .exact⟨h,A' _⟩
theorem GP(p:Nod)(c:Cmd):(p.hZ c).up=p.up/\(p.hZ c).bw=p.bw/\(p.hZ c).ae=p.ae/\(p.hZ c).done=p.done/\(p.hZ c).ni=p.ni:=by
 unfold Nod.hZ;split<;>exact⟨rfl,rfl,rfl,rfl,rfl⟩
theorem Y7(i:Nat)(l:List Cmd)(p:Nod)(a:List Tol)(h:NOk n p)(j:p.done+l.length<=p.ae.length) :
  NOk n (sa i l p a).1/\(sa i l p a).1.bw=p.bw/\(sa i l p a).1.ae=p.ae/\(sa i l p a).2.length+(sa i l p a).1.br.length<=a.length+p.br.length:=by
 induction l generalizing p a with
 | nil=>exact⟨h,rfl,rfl,A' _⟩
 | cons c l ih =>
  rw[sa];split
  .exact⟨h,rfl,rfl,A' _⟩
  .rw[nD]at j
   have g:NOk n { p with ni:=doS p.ni c,done:=p.done+1 }:={ h with dn:=by show p.done+1<=p.ae.length;omega };have e:=g.hZ c;have b:=GP { p with ni:=doS p.ni c,done:=p.done+1 } c;obtain⟨k,m,o,q⟩:=ih (Nod.hZ { p with ni:=doS p.ni c,done:=p.done+1 } c) (if(p.cl c).isSome=true then a++[⟨i,c.c,c.s,doC p.ni c,doA p.ni c⟩]else a) e.1 (by rw[b.2.2.2.1,b.2.2.1];show p.done+1+l.length<=p.ae.length;omega);refine⟨k,m.trans b.2.1,o.trans b.2.2.1,mV q ?_⟩;have d:=e.2;simp only at d;by_cases f:(p.cl c).isSome=true
   .rw[if_pos f]at d ⊢
    rw[H'];show a.length+1+_<=_;omega
   .rw[if_neg f]at d ⊢;omega
theorem NOk.piece(h:NOk n p)(f:i<5){ls:List Let}{ts:List Tol}(r:ls.length+Az p.bw<80000000)(k:∀ m∈ls,LOk m) :
  NOk n (p.piece i ls ts).1/\(∀ m∈(p.piece i ls ts).2.1,LOk m)/\(p.piece i ls ts).2.1.length+Az (p.piece i ls ts).1.bw<=ls.length+Az p.bw+10/\(p.piece i ls ts).2.2.length+(sa i (p.ae.drop p.done) p ts).1.br.length<=ts.length+p.br.length:=by
 have b:=Y7 i (p.ae.drop p.done) p ts h (by rw[nc];have:=h.dn;omega);have a:=b.1.kc f;have d:=a.1.cF;have e:=d.1.oh f (ls:=ls++((sa i (p.ae.drop p.done) p ts).1.kc i).2) (by rw[H'];have:=d.2.1;have:=a.2.2.2.2;rw[a.2.1,b.2.1]at *;omega) (λm l=>by
  rcases U'.1 l with h|h
  .exact k m h
  .exact a.2.2.2.1 m h)
 have c:=e.1.bN f _ e.2.1;refine⟨c.1,c.2.2.1,?_,b.2.2.2⟩;have o:=c.2.2.2;have g:=e.2.2.1;have j:=d.2.1;have q:=a.2.2.2.2;rw[a.2.1,b.2.1]at j
 rw[H']at g
 show(Nod.bN _ i _).2.length+Az (Nod.bN _ i _).1.bw<=_;rw[c.2.1];omega
end
end
section
open Go.RowKit
theorem Us{g:Gh}{w:World}(L:∀ b,w.heap.size<=b->g.t b=.z/\g.k b=0) :
  Calls prog 24 #[] w λe w'=>∃ (b:Nat) (g':Gh),e=.returned (.map (some b))/\TkAt g' w' b 7/\Jw g' w'/\Cg w.heap.size [.n 70 0] g w g' w':=by
 refine gI (fn:=f24) [.n 70 0] g func24 L (qR [] 6 [] λW T X c1=>kJ 0 (by kernel_rfl) (by kernel_rfl) ?_);intro a U Y M v q V;have F:=q w.heap.size [];refine Im 1 (b:=a) v (by decide) (by kernel_rfl) (by kernel_rfl) (by kernel_rfl) ?_;intro Z x r;have G:=r w.heap.size [.n 70 0] (G'.2 rfl);refine Im 2 (b:=a) x (by decide) (by kernel_rfl) (by kernel_rfl) (by kernel_rfl) ?_;intro w6 y s;have H:=s w.heap.size [.n 70 0] (G'.2 rfl);refine Im 3 (b:=a) y (by decide) (by kernel_rfl) (by kernel_rfl) (by kernel_rfl) ?_;intro w8 A u;have I:=u w.heap.size [.n 70 0] (G'.2 rfl);refine Im 4 (b:=a) A (by decide) (by kernel_rfl) (by kernel_rfl) (by kernel_rfl) ?_;intro O B d;have l:=d w.heap.size [.n 70 0] (G'.2 rfl);refine Im 5 (b:=a) B (by decide) (by kernel_rfl) (by kernel_rfl) (by kernel_rfl) ?_;intro P C h;have m:=h w.heap.size [.n 70 0] (G'.2 rfl);refine Im 6 (b:=a) C (by decide) (by kernel_rfl) (by kernel_rfl) (by kernel_rfl) ?_;intro Q D i;have o:=i w.heap.size [.n 70 0] (G'.2 rfl);refine Im 7 (b:=a) D (by decide) (by kernel_rfl) (by kernel_rfl) (by kernel_rfl) ?_;intro R E j;have p:=j w.heap.size [.n 70 0] (G'.2 rfl);refine qR [] 3 [] λN J S c=>qE (.map (some a)) λK=>⟨a,_,rfl,(E.ch c),K.new,((((((((((c1.nil [.n 70 0]).n F).trans G).trans H).trans I).trans l).trans m).trans o).trans p).n c)⟩
theorem LF{g:Gh}{w:World}{p q y:Nat}{nb:Nat->Nat}{M:Meet}(h:MS p q y nb g w M){w0:World}(hB:Base w0 g w)(hT:Tabs w0)(v:Nat)(l:Let)(hl:CP g w v l)(H:LOk l){n:Nat}(s:NOk n (M.ab l.dst))(u:(M.ab l.dst).bw.length<100000000) :
  Calls prog 67 #[pt p 0,pt v 0] w (MP p q y nb g w (.tuple #[]) (M.nn l)):=by
 have m:=hl;obtain⟨O,src,dst,A,cn,i,o,c⟩:=l;have hs:src<5:=H.src;have j:dst<5:=H.dst;have a7:O<7:=H.kd;have b6:c.length<=40:=H.wh;simp only at s u;obtain⟨x,hN⟩:=h.ab dst j;have b5:=s.ag;refine gI (fn:=f67) TM g func67 h.new (Cr ⟨p,_,.z,false⟩ (λ_=>⟨h.box.r,h.box.z,λh=>(by cases h),λh=>absurd rfl h⟩) (by kernel_rfl) ?_);obtain⟨vs,wh,a8,d2,d3⟩:=hl;refine Cr ⟨v,.cells (FF (Let.mk O src dst A cn i o c) vs wh) 142,.z,false⟩ (λ_=>⟨a8.r,a8.z,λh=>(by cases h),λh=>absurd rfl h⟩) (by kernel_rfl) ?_;refine qR [] 9 [10,0,2,4,6,8,1,10,12] λs1 g1 w1 c1=>?_;refine QI 7 (pt p dst) false (λW hW=>(by rcases rU j with rfl|rfl|rfl|rfl|rfl<;>kernel_rfl)) (by kernel_rfl) ?_;refine qU 8 (pt (nb dst) 0) (λW hW=>(D4 underlying70 rfl (Vf (AV.at (hW rfl) 0 p (.cells (mtA nb y q) 73) .z (by kernel_rfl)) j))) (qR [] 7 [18] λs3 g3 w3 a=>?_);have b4:=hN.ch (c1.trans a);refine qN b4 (qR [] 2 [2] λs4 g4 w4 b=>?_);by_cases h1:(M.ab dst).up=true
 .refine qI ((M.ab dst).up) true h1 ?_;have J:=h.tk.ch ((c1.trans a).trans b) (by simp);refine II q _ 70 0 J.row J.t J.k (by kernel_rfl) ?_;rw[show M.nn (Let.mk O src dst A cn i o c)=M.set dst ((M.ab dst).take (Let.mk O src dst A cn i o c)) M.bt M.ew from if_pos h1];refine qR [] 9 [11,0,2,4,6,0,8,10,12,14,1] λs5 g5 w5 d=>qU 8 (tkV O) (λW hW=>(rTk (AV.at (hW rfl) 3 q (.map (tkL 7).toArray 7) (.n 70 0) (by kernel_rfl)) a7)) (qR [] 2 [18,20] λs6 I L e=>?_);rcases bD a7 with rfl|rfl|rfl|rfl|rfl|rfl|rfl
  .refine Af λK=>?_;have N7:MS p q y nb I L M:=(h.sc ((((c1.trans a).trans b).trans d).trans e) K.new);refine qG 11 TM [true,true,false,false] ((N7).call j (Jn ((N7).ns j) (hB.ch (((((c1.nil TM).n a).n b).n d).n e) F4) hT v _ (m.ch ((((c1.trans a).trans b).trans d).trans e) (by simp)) rfl u)) ?_;rintro N w7 ⟨g7,rfl,M7,c7⟩;refine⟨_,g7,rfl,c7,M7.new,?_⟩;replace c7:=c7.ret (B:=w.heap.size);refine qR [] 1 [] λs8 g8 w8 c8=>qE (.tuple #[]) λK=>⟨_,rfl,(M7.sc c8 K.new),(((((((c1.nil TM).n a).n b).n d).n e).trans (c7)).n c8)⟩
  .refine Af λK=>?_;have N9:MS p q y nb I L M:=(h.sc ((((c1.trans a).trans b).trans d).trans e) K.new);refine qG 11 TM [true,true,false,false] ((N9).call j (KX ((N9).ns j) (hB.ch (((((c1.nil TM).n a).n b).n d).n e) F4) hT v _ (m.ch ((((c1.trans a).trans b).trans d).trans e) (by simp)) rfl hs (by show((M.ab dst).ae++c.drop ((M.ab dst).ae.length-0)).length<=40;rw[H',nc];omega) b6 (ra (s.he src).len (by decide)))) ?_;rintro N w9 ⟨g9,rfl,M9,c9⟩;refine⟨_,g9,rfl,c9,M9.new,?_⟩;replace c9:=c9.ret (B:=w.heap.size);refine qR [] 1 [] λd4 b7 e1 a0=>qE (.tuple #[]) λK=>⟨_,rfl,(M9.sc a0 K.new),(((((((c1.nil TM).n a).n b).n d).n e).trans (c9)).n a0)⟩
  .refine Af λK=>?_;have U:MS p q y nb I L M:=(h.sc ((((c1.trans a).trans b).trans d).trans e) K.new);refine qG 11 TM [true,true,false,false] ((U).call j (KY ((U).ns j) v _ (m.ch ((((c1.trans a).trans b).trans d).trans e) (by simp)))) ?_;rintro N e2 ⟨a9,rfl,P,C⟩;refine⟨_,a9,rfl,C,P.new,?_⟩;replace C:=C.ret (B:=w.heap.size);refine qR [] 1 [] λd5 b8 e3 a1=>qE (.tuple #[]) λK=>⟨_,rfl,(P.sc a1 K.new),(((((((c1.nil TM).n a).n b).n d).n e).trans (C)).n a1)⟩
  .refine Af λK=>?_;have V:MS p q y nb I L M:=(h.sc ((((c1.trans a).trans b).trans d).trans e) K.new);refine qG 11 TM [true,true,false,false] ((V).call j (JX ((V).ns j) (hB.ch (((((c1.nil TM).n a).n b).n d).n e) F4) hT v _ (m.ch ((((c1.trans a).trans b).trans d).trans e) (by simp)) rfl u (by have:=s.vs.len;omega))) ?_;rintro N e4 ⟨b0,rfl,Q,D⟩;refine⟨_,b0,rfl,D,Q.new,?_⟩;replace D:=D.ret (B:=w.heap.size);refine qR [] 1 [] λd6 b9 e5 a2=>qE (.tuple #[]) λK=>⟨_,rfl,(Q.sc a2 K.new),(((((((c1.nil TM).n a).n b).n d).n e).trans (D)).n a2)⟩
  .refine Af λK=>?_;have X:MS p q y nb I L M:=(h.sc ((((c1.trans a).trans b).trans d).trans e) K.new);refine qG 11 TM [true,true,false,false] ((X).call j (PT ((X).ns j) (hB.ch (((((c1.nil TM).n a).n b).n d).n e) F4) hT v _ (m.ch ((((c1.trans a).trans b).trans d).trans e) (by simp)) hs b5)) ?_;rintro N e6 ⟨b1,rfl,R,E⟩;refine⟨_,b1,rfl,E,R.new,?_⟩;replace E:=E.ret (B:=w.heap.size);refine qR [] 1 [] λd7 c0 e7 a3=>qE (.tuple #[]) λK=>⟨_,rfl,(R.sc a3 K.new),(((((((c1.nil TM).n a).n b).n d).n e).trans (E)).n a3)⟩
  .refine Af λK=>?_;have Y:MS p q y nb I L M:=(h.sc ((((c1.trans a).trans b).trans d).trans e) K.new);refine qG 11 TM [true,true,false,false] ((Y).call j (PS ((Y).ns j) v _ (m.ch ((((c1.trans a).trans b).trans d).trans e) (by simp)) rfl u (by omega) (by show c.length<_;omega))) ?_;rintro N e8 ⟨b2,rfl,S,F⟩;refine⟨_,b2,rfl,F,S.new,?_⟩;replace F:=F.ret (B:=w.heap.size);refine qR [] 1 [] λd8 c2 e9 a4=>qE (.tuple #[]) λK=>⟨_,rfl,(S.sc a4 K.new),(((((((c1.nil TM).n a).n b).n d).n e).trans (F)).n a4)⟩
  .refine Af λK=>?_;have Z:MS p q y nb I L M:=(h.sc ((((c1.trans a).trans b).trans d).trans e) K.new);refine qG 11 TM [true,true,false,false] ((Z).call j (MU ((Z).ns j) v _ (m.ch ((((c1.trans a).trans b).trans d).trans e) (by simp)) rfl u (by show c.length<_;omega) s.qu)) ?_;rintro N f0 ⟨b3,rfl,T,G⟩;refine⟨_,b3,rfl,G,T.new,?_⟩;replace G:=G.ret (B:=w.heap.size);refine qR [] 1 [] λd9 d0 f1 a5=>qE (.tuple #[]) λK=>⟨_,rfl,(T.sc a5 K.new),(((((((c1.nil TM).n a).n b).n d).n e).trans (G)).n a5)⟩
 .refine qI ((M.ab dst).up) false (by simpa using h1) (qR [] 1 [] λe0 d1 f2 a6=>qE (.tuple #[]) λK=>?_);rw[show M.nn (Let.mk O src dst A cn i o c)=M from if_neg h1];exact⟨_,rfl,(h.sc (((c1.trans a).trans b).trans a6) K.new),((((c1.nil TM).n a).n b).n a6)⟩
section
variable{P:Program}{B:Nat}{T:List Tg}{g:Gh}{w:World}
section
variable{x:S3}{xs:List Value}{τ:Tg}
theorem OwnS.tA{e:TypeId}{d:Nat}(h:OwnS g w τ false e d x xs){k:Nat}(f:k<=x.n)(i:0<x.n):OwnS g w τ false e d ⟨x.a,k,x.c⟩ (xs.take (k*d)):=by
 have l:=h.len;have j:k*d<=x.n*d:=pj _ f;refine⟨by rw[X'];show min _ _=k*d;omega,?_⟩;rcases h.ex with⟨h1,h2,h3⟩|⟨b,cur,h1,h2,h3,h4,h5,h6,h7,h8⟩
 .omega
 .refine .inr ⟨b,cur,h1,h2,mV f h3,h4,h5,?_,h7,h8⟩;show cur.toList.take (k*d)=xs.take (k*d);rw[<- h6,pH,oG j]
theorem kn(t A e:TypeId)(i:TypeInfo)(I:P.underlying t=some (.slice e))(E:P.info? e=some i)(s:τ∈T)(z:OwnS g w τ false e i.size x xs)(a:Addr)(m c:Nat)(news:List Value)(G:0<x.c)(r:news.length=m*i.size)(l:∀ j u,news[j]?=some u->w.cell? (a.add j)=some u)(C:∀ u∈news,u.oneCell'=true)(f:x.n+m<=x.c) :
  ∃ w',(Builtin.append_ #[t,t] A #[x.v,.slice (some a) m c]).run P w=.ok (S3.v ⟨x.a,x.n+m,x.c⟩) w'/\OwnS g w' τ false e i.size ⟨x.a,x.n+m,x.c⟩ (xs++news)/\Cg B T g w g w'/\w'.heap.size=w.heap.size:=by
 obtain⟨K,y,J⟩:=x;have h:(xs++news).length=(y+m)*i.size:=by rw[H',z.len,r,qo]
 rcases z.ex with⟨h2,h3,h4⟩|⟨b,cur,h2,h3,h4,h5,h6,h7,h8,h9⟩
 .simp only at h4 f G;omega
 .simp only at h2 h4 h5 h6 h7 f;subst h2;have p:y*i.size+news.length<=cur.size:=by rw[r,h6,<- qo];exact pj _ f
  have H:=run_append_room (P:=P) w t A e i I E b y J cur h3 a m c news r l C f p;have o:g.k b=0:=by simpa using h9
  refine⟨_,H,⟨h,.inr ⟨b,_,rfl,setRow_heap w b cur _ e _ h3,f,h5,?_,?_,h8,by rw[o];rfl⟩⟩,⟨rfl,rfl,rfl,by simp,λ_ _=>.inl rfl,λ_ _=>A' _,λ_ _ _ _=>rfl,λd D q _=>setRow_other w b d _ (λe=>q (by rw[e,h8];exact s)),λd D j F=>?_⟩,by simp⟩
  .simp only[pl,H',X',nc,oI];omega
  .rw[h7,<- h];exact rh
  .exact World.cell?_of_block (w:=w) (setRow_other w b d _ (λe=>by rw[e,o]at F;omega))
theorem kv(t J e:TypeId)(z:Value)(f:Nat)(H:P.underlying t=some (.slice e))(I:∀ w,(zeroValue e).run P w=.ok z w)(r:z.cells.size=f)(A:0<f)(C:∀ j,j<f->(z.cells[j]!).oneCell'=true)(D:τ∈T)(E:OwnS g w τ false e f x xs){b:Nat}(s:x.a=some ⟨b,0,none⟩)(k c:Nat)(K:0<k)(i:x.n+k<=x.c) :
  ∃ w',(Builtin.clear_ #[t] J #[.slice (some ⟨b,x.n*f,none⟩) k c]).run P w=.ok (.tuple #[]) w'/\OwnS g w' τ false e f x xs/\Cg B T g w g w'/\w'.heap.size=w.heap.size:=by
 rcases E.ex with⟨h2,h3,h4⟩|⟨b',cur,h2,h3,h4,h5,h6,h7,h8,h9⟩
 .rw[h2]at s;cases s
 .rw[s]at h2
  simp only[Y',Addr.mk.injEq,and_true]at h2;subst h2;have u:g.k b=0:=by simpa using h9
  have l:(Builtin.zeroCells z.cells k).toList.length=k*f:=by rw[oI,size_zeroCells,r]
  have h:x.n*f+0+(Builtin.zeroCells z.cells k).toList.length<=cur.size:=by rw[l,h6,py,<- qo];exact pj _ i
  have o:∀ v∈(Builtin.zeroCells z.cells k).toList,v.oneCell'=true:=by
   intro v q;simp only[Builtin.zeroCells,Array.toList_map,ny]at q;obtain⟨j,_,rfl⟩:=q;exact C _ (by rw[r];exact Nat.mod_lt _ A)
  have p:=run_storeCells_at (P:=P) b (x.n*f) e (Builtin.zeroCells z.cells k).toList 0 cur w h3 h o;simp only[py]at p;obtain⟨m,rfl⟩:∃ m,k=m+1:=⟨k-1,by omega⟩;refine⟨_,by simp only[Builtin.clear_,oc,oC,Sem.run_bind,run_underlying H,Result.andThen_ok,I,p];rfl,⟨E.len,.inr ⟨b,_,s,setRow_heap w b cur _ e _ h3,h4,h5,?_,?_,h8,h9⟩⟩,⟨rfl,rfl,rfl,by simp,λ_ _=>.inl rfl,λ_ _=>A' _,λ_ _ _ _=>rfl,λd F y _=>setRow_other w b d _ (λe=>y (by rw[e,h8];exact D)),λd F j G=>?_⟩,by simp⟩
  .rw[l]at h ⊢
   simp only[pl,H',X',nc,oI,l];simp only[py]at h;omega
  .have hle:x.n*f<=cur.toList.length:=by rw[oI,h6];exact pj _ h4
   show(cur.toList.take (x.n*f)++_++_).take (x.n*f)=xs;rw[mU,nJ (by rw[X'];omega),pH,Nat.min_self,h7]
  .exact World.cell?_of_block (w:=w) (setRow_other w b d _ (λe=>by rw[e,u]at G;omega))
end
end
section
variable{fn:Func}{R:Ending->World->Prop}{B:Nat}{T:List Tg}{g:Gh}{w W:World}
section
theorem KF(b o k:Nat):(⟨b,o,none⟩:Addr).add k=⟨b,o+k,none⟩:=by
 unfold Addr.add;split
 .rename_i h;simp[]
 .rfl
theorem mF(b n c l h m:Nat)(a:l<=h)(d:h<=m)(e:m<=c)(f:l<m):(Instr.sliceAt 38 (.slice (some ⟨b,0,none⟩) n c) (some (iv (l:Int))) (some (iv (h:Int))) (some (iv (m:Int)))).run prog W=.ok (.slice (some ⟨b,l*5,none⟩) (h-l) (m-l)) W:=by
 rw[run_sliceAt_slice _ _ _ _ _ _ unC,run_slice_lhm (P:=prog) (w:=W) _ _ _ _ unC .i64 .i64 .i64 l h m (by omega) (by omega) (by omega) (by omega),sz5];simp[Result.andThen,sliced,KF];omega
theorem mE(b n c l h:Nat)(a:l<=h)(d:h<=c)(e:l<c):(Instr.sliceAt 38 (.slice (some ⟨b,0,none⟩) n c) (some (iv (l:Int))) (some (iv (h:Int))) none).run prog W=.ok (.slice (some ⟨b,l*5,none⟩) (h-l) (c-l)) W:=by
 rw[run_sliceAt_slice _ _ _ _ _ _ unC,run_slice_lh (P:=prog) (w:=W) _ _ _ _ unC .i64 .i64 l h (by omega) (by omega) (by omega),sz5];simp[Result.andThen,sliced,KF];omega
theorem mG(b n c h:Nat)(a:h<=c):(Instr.sliceAt 38 (.slice (some ⟨b,0,none⟩) n c) none (some (iv (h:Int))) none).run prog W=.ok (.slice (some ⟨b,0,none⟩) h c) W:=by
 rw[run_sliceAt_slice _ _ _ _ _ _ unC,run_slice_h (P:=prog) (w:=W) _ _ _ _ unC .i64 h (by omega) (by omega),sz5];simp[Result.andThen,sliced,KF]
theorem mH(b n c l:Nat)(a:l<=n):(Instr.sliceAt 38 (.slice (some ⟨b,0,none⟩) n c) (some (iv (l:Int))) none none).run prog W=.ok (.slice (some ⟨b,if c=l then 0 else l*5,none⟩) (n-l) (c-l)) W:=by
 rw[run_sliceAt_slice _ _ _ _ _ _ unC,run_slice_l (P:=prog) (w:=W) _ _ _ _ unC .i64 l (by omega) (by omega),sz5];simp[Result.andThen,sliced,KF];split<;>simp
variable{s:Xs}{x:S3}{xs:List Value}{τ:Tg}
theorem ky(l:Nat)(G:TypeId)(a:Addr)(m c:Nat)(news:List Value)(S:OwnS g w τ false 49 5 x xs)(e:D7 s l=some (Builtin.append_ #[38,38] G #[x.v,.slice (some a) m c]>>=λv=>pure (.value v)))(r:(nxt s l undef s.L).o.map Ob.l'=(nxt s l undef s.L).o.map Ob.r')(q:s.L.all (λy=>[τ].all λt=>y.t.ne t)=true)(N:0<x.c)(M:news.length=m*5)(H:∀ u∈news,u.oneCell'=true)(f:∀ j u,news[j]?=some u->w.cell? (a.add j)=some u)(h:x.n+m<=x.c)(K:∀ w',OwnS g w' τ false 49 5 ⟨x.a,x.n+m,x.c⟩ (xs++news)->(∀ B T,τ∈T->Cg B T g w g w')->w'.heap.size=w.heap.size->GG prog fn R B T (nxt s l (S3.v ⟨x.a,x.n+m,x.c⟩) s.L).s g w'):GG prog fn R B T s g w:=by
 refine LY l s.L r (Cp e) λE U i o z=>?_;obtain⟨d,J,k⟩:∃ d,prog.info? 49=some d/\d.size=5:=by
  have p:(prog.info? 49).map (·.size)=some 5:=by kernel_rfl
  cases hh:prog.info? 49 with
  | none=>rw[hh]at p;cases p
  | some v=>rw[hh]at p;exact⟨v,rfl,by simpa using p⟩
 obtain⟨w',O,A,I,C⟩:=kn (P:=prog) (B:=w.heap.size) (T:=[τ]) 38 G 49 d underlying38 J (G'.2 rfl) (by rw[k];exact S) a m c news N (by rw[k];exact M) f H h;rw[k]at A
 have D:∀ B T,τ∈T->Cg B T g w g w':=λB T q=>(I.ret (B:=B)).mono λt Q=>by rw[G'.1 Q];exact q
 refine⟨S3.v ⟨x.a,x.n+m,x.c⟩,w',g,.inl ?_,E.ch (D _ [τ] (G'.2 rfl)) (λb F=>E.new b (by rw[C]at F;exact F)) q,K w' A D C⟩;rw[DE e z,Sem.run_bind,O,Result.andThen_ok];rfl
theorem mo(w:World):(zeroValue 49).run prog w=.ok (.agg #[iv 0,iv 0,iv 0,iv 0,iv 0]) w:=by kernel_rfl
theorem mz(f:Nat)(A:TypeId){b:Nat}(h:x.a=some ⟨b,0,none⟩)(k c:Nat)(I:OwnS g w τ false 49 5 x xs)(d:D7 s f=some (Builtin.clear_ #[38] A #[.slice (some ⟨b,x.n*5,none⟩) k c]>>=λv=>pure (.value v)))(p:(nxt s f undef s.L).o.map Ob.l'=(nxt s f undef s.L).o.map Ob.r')(l:s.L.all (λy=>[τ].all λt=>y.t.ne t)=true)(m:0<k)(e:x.n+k<=x.c)(F:∀ w',OwnS g w' τ false 49 5 x xs->(∀ B T,τ∈T->Cg B T g w g w')->w'.heap.size=w.heap.size->GG prog fn R B T (nxt s f (.tuple #[]) s.L).s g w'):GG prog fn R B T s g w:=by
 refine LY f s.L p (Cp d) λz J i o q=>?_;obtain⟨w',G,C,D,r⟩:=kv (P:=prog) (B:=w.heap.size) (T:=[τ]) 38 A 49 (.agg #[iv 0,iv 0,iv 0,iv 0,iv 0]) 5 underlying38 mo rfl (by decide) (λj E=>by rcases rU E with rfl|rfl|rfl|rfl|rfl<;>rfl) (G'.2 rfl) I h k c m e;have u:∀ B T,τ∈T->Cg B T g w g w':=λB T l=>(D.ret (B:=B)).mono λt H=>by rw[G'.1 H];exact l
 refine⟨.tuple #[],w',g,.inl ?_,z.ch (u _ [τ] (G'.2 rfl)) (λb h=>z.new b (by rw[r]at h;exact h)) l,F w' C u r⟩;rw[DE d q,Sem.run_bind,G,Result.andThen_ok];rfl
end
end
theorem sz1{W:World}:(Go.sizeOf (prog.elem 65)).run prog W=.ok 1 W:=by kernel_rfl
theorem unL:prog.underlying 65=some (.slice (prog.elem 65)):=by kernel_rfl
section
variable{fn:Func}{R:Ending->World->Prop}{B:Nat}{T:List Tg}{g:Gh}{w W:World}
section
theorem lJ(b n c l h m:Nat)(a:l<=h)(d:h<=m)(e:m<=c)(f:l<m):(Instr.sliceAt 65 (.slice (some ⟨b,0,none⟩) n c) (some (iv (l:Int))) (some (iv (h:Int))) (some (iv (m:Int)))).run prog W=.ok (.slice (some ⟨b,l*1,none⟩) (h-l) (m-l)) W:=by
 rw[run_sliceAt_slice _ _ _ _ _ _ unL,run_slice_lhm (P:=prog) (w:=W) _ _ _ _ unL .i64 .i64 .i64 l h m (by omega) (by omega) (by omega) (by omega),sz1];simp[Result.andThen,sliced,KF];omega
theorem lI(b n c l h:Nat)(a:l<=h)(d:h<=c)(e:l<c):(Instr.sliceAt 65 (.slice (some ⟨b,0,none⟩) n c) (some (iv (l:Int))) (some (iv (h:Int))) none).run prog W=.ok (.slice (some ⟨b,l*1,none⟩) (h-l) (c-l)) W:=by
 rw[run_sliceAt_slice _ _ _ _ _ _ unL,run_slice_lh (P:=prog) (w:=W) _ _ _ _ unL .i64 .i64 l h (by omega) (by omega) (by omega),sz1];simp[Result.andThen,sliced,KF];omega
theorem lL(b n c h:Nat)(a:h<=c):(Instr.sliceAt 65 (.slice (some ⟨b,0,none⟩) n c) none (some (iv (h:Int))) none).run prog W=.ok (.slice (some ⟨b,0,none⟩) h c) W:=by
 rw[run_sliceAt_slice _ _ _ _ _ _ unL,run_slice_h (P:=prog) (w:=W) _ _ _ _ unL .i64 h (by omega) (by omega),sz1];simp[Result.andThen,sliced,KF]
theorem lM(b n c l:Nat)(a:l<=n):(Instr.sliceAt 65 (.slice (some ⟨b,0,none⟩) n c) (some (iv (l:Int))) none none).run prog W=.ok (.slice (some ⟨b,if c=l then 0 else l*1,none⟩) (n-l) (c-l)) W:=by
 rw[run_sliceAt_slice _ _ _ _ _ _ unL,run_slice_l (P:=prog) (w:=W) _ _ _ _ unL .i64 l (by omega) (by omega),sz1];simp[Result.andThen,sliced,KF];split<;>simp
variable{s:Xs}{x:S3}{xs:List Value}{τ:Tg}
theorem iM(l:Nat)(G:TypeId)(a:Addr)(m c:Nat)(news:List Value)(S:OwnS g w τ false 143 1 x xs)(e:D7 s l=some (Builtin.append_ #[65,65] G #[x.v,.slice (some a) m c]>>=λv=>pure (.value v)))(r:(nxt s l undef s.L).o.map Ob.l'=(nxt s l undef s.L).o.map Ob.r')(q:s.L.all (λy=>[τ].all λt=>y.t.ne t)=true)(N:0<x.c)(M:news.length=m*1)(H:∀ u∈news,u.oneCell'=true)(f:∀ j u,news[j]?=some u->w.cell? (a.add j)=some u)(h:x.n+m<=x.c)(K:∀ w',OwnS g w' τ false 143 1 ⟨x.a,x.n+m,x.c⟩ (xs++news)->(∀ B T,τ∈T->Cg B T g w g w')->w'.heap.size=w.heap.size->GG prog fn R B T (nxt s l (S3.v ⟨x.a,x.n+m,x.c⟩) s.L).s g w'):GG prog fn R B T s g w:=by
 refine LY l s.L r (Cp e) λE U i o z=>?_;obtain⟨d,J,k⟩:∃ d,prog.info? 143=some d/\d.size=1:=by
  have p:(prog.info? 143).map (·.size)=some 1:=by kernel_rfl
  cases hh:prog.info? 143 with
  | none=>rw[hh]at p;cases p
  | some v=>rw[hh]at p;exact⟨v,rfl,by simpa using p⟩
 obtain⟨w',O,A,I,C⟩:=kn (P:=prog) (B:=w.heap.size) (T:=[τ]) 65 G 143 d underlying65 J (G'.2 rfl) (by rw[k];exact S) a m c news N (by rw[k];exact M) f H h;rw[k]at A
 have D:∀ B T,τ∈T->Cg B T g w g w':=λB T q=>(I.ret (B:=B)).mono λt Q=>by rw[G'.1 Q];exact q
 refine⟨S3.v ⟨x.a,x.n+m,x.c⟩,w',g,.inl ?_,E.ch (D _ [τ] (G'.2 rfl)) (λb F=>E.new b (by rw[C]at F;exact F)) q,K w' A D C⟩;rw[DE e z,Sem.run_bind,O,Result.andThen_ok];rfl
theorem jX(w:World):(zeroValue 143).run prog w=.ok (.pointer none) w:=by kernel_rfl
theorem kz(f:Nat)(C:TypeId){b:Nat}(l:x.a=some ⟨b,0,none⟩)(k c:Nat)(J:OwnS g w τ false 143 1 x xs)(d:D7 s f=some (Builtin.clear_ #[65] C #[.slice (some ⟨b,x.n*1,none⟩) k c]>>=λv=>pure (.value v)))(q:(nxt s f undef s.L).o.map Ob.l'=(nxt s f undef s.L).o.map Ob.r')(m:s.L.all (λy=>[τ].all λt=>y.t.ne t)=true)(p:0<k)(e:x.n+k<=x.c)(G:∀ w',OwnS g w' τ false 143 1 x xs->(∀ B T,τ∈T->Cg B T g w g w')->w'.heap.size=w.heap.size->GG prog fn R B T (nxt s f (.tuple #[]) s.L).s g w'):GG prog fn R B T s g w:=by
 refine LY f s.L q (Cp d) λA K i o r=>?_;obtain⟨w',H,D,E,u⟩:=kv (P:=prog) (B:=w.heap.size) (T:=[τ]) 65 C 143 (.pointer none) 1 underlying65 jX rfl (by decide) (λj F=>match j,F with|0,_=>rfl|j+1,h=>absurd h (by omega)) (G'.2 rfl) J l k c p e;have z:∀ B T,τ∈T->Cg B T g w g w':=λB T m=>(E.ret (B:=B)).mono λt I=>by rw[G'.1 I];exact m
 refine⟨.tuple #[],w',g,.inl ?_,A.ch (z _ [τ] (G'.2 rfl)) (λb l=>A.new b (by rw[u]at l;exact l)) m,G w' D z u⟩;rw[DE d r,Sem.run_bind,H,Result.andThen_ok];rfl
end
end
theorem Q4{g:Gh}{w:World}{b n c:Nat}{l:List Nat}(o:OwnS g w (.n 51 0) false 143 1 ⟨some ⟨b,0,none⟩,n,c⟩ (l.map (pt · 0)))(J:∀ b,w.heap.size<=b->g.t b=.z/\g.k b=0)(j:Nat)(Y:j<l.length)(W:l.length<100000000) :
  Calls prog 66 #[.slice (some ⟨b,0,none⟩) n c,iv (j:Int),iv ((j+1:Nat):Int)] w λe w'=>∃ (x':S3) (g':Gh),e=.returned x'.v/\OwnS g' w' (.n 51 0) false 143 1 x' ((l.eraseIdx j).map (pt · 0))/\(∀ b,w'.heap.size<=b->g'.t b=.z/\g'.k b=0)/\Cg w.heap.size [.n 51 0] g w g' w':=by
 have Z:n=l.length:=by have:=o.len;simp at this;omega
 have X:n<=c:=by rcases o.ex with⟨h,_⟩|⟨_,_,_,_,h,_⟩;cases h;exact h
 refine gI (fn:=f66) [.n 51 0] g func66 J (qR [] 11 [] λs1 R w1 c1=>qV 5 (.slice (some ⟨b,j*1,none⟩) (j+1-j) (n-j)) (lJ b n c j (j+1) n (by omega) (by omega) (by omega) (by omega)) (qR [] 8 [] λs2 S w2 y=>qI (((j:Int)==((j+1:Nat):Int))) false (by simp;omega) (qR [] 11 [8,0,2] λs3 T w3 A=>qT 2 (.slice (some ⟨b,0,none⟩) j c) (λ_=>(lL b n c j (by omega))) (qR [] 2 [6,8] λs4 U w4 B=>qT 5 (.slice (some ⟨b,if c=j+1 then 0 else(j+1)*1,none⟩) (n-(j+1)) (c-(j+1))) (λ_=>(lM b n c (j+1) (by omega))) ?_))));have d:=o.ch (((c1.trans y).trans A).trans B) (by simp) (by simp);have p:=d.tA (k:=j) (by show j<=n;omega) (by show 0<n;omega);refine iM 6 (x:=⟨some ⟨b,0,none⟩,j,c⟩) 65 ⟨b,if c=j+1 then 0 else(j+1)*1,none⟩ (n-(j+1)) (c-(j+1)) ((l.drop (j+1)).map (pt · 0)) p (by kernel_rfl) (by kernel_rfl) (by kernel_rfl) (by show 0<c;omega) (by simp;omega) (by intro u L;obtain⟨q,_,rfl⟩:=ny.1 L;rfl) (λq u r=>?_) (by show j+(n-(j+1))<=c;omega) ?_
 .have hlt:j+1<l.length:=by have h:=(V'.1 r).1;simp at h;omega
  rw[if_neg (by omega),KF];rw[List.map_drop,nY]at r
  obtain⟨Q,D,_,I⟩:=d.cell r;simp only[Y',Addr.mk.injEq,and_true]at D;subst D;rw[show(j+1)*1+q=j+1+q by omega];exact I
 intro w6 s i M;have F:=i w.heap.size [.n 51 0] (G'.2 rfl);rw[show(l.map (pt · 0)).take (j*1)++(l.drop (j+1)).map (pt · 0)=(l.eraseIdx j).map (pt · 0)from by rw[Nat.mul_one,<- qP,<- nE,qq]]at s
 refine qR [] 8 [14] λs7 V w7 C=>qV 4 (.slice (some ⟨b,(j+(n-(j+1)))*1,none⟩) (n-(j+(n-(j+1)))) (c-(j+(n-(j+1))))) (lI b (j+(n-(j+1))) c (j+(n-(j+1))) n (by omega) (by omega) (by omega)) (kz 5 (x:=⟨some ⟨b,0,none⟩,(j+(n-(j+1))),c⟩) (b:=b) 0 rfl (n-(j+(n-(j+1)))) (c-(j+(n-(j+1)))) (s.ch C) (by kernel_rfl) (by kernel_rfl) (by kernel_rfl) (by omega) (by show(j+(n-(j+1)))+(n-(j+(n-(j+1))))<=c;omega) ?_);intro w9 E m N;have G:=m w.heap.size [.n 51 0] (G'.2 rfl);refine qR [] 6 [] λO H P a=>qE (S3.v ⟨some ⟨b,0,none⟩,(j+(n-(j+1))),c⟩) λK=>⟨_,_,rfl,(E.ch a),K.new,((((((((c1.nil [.n 51 0]).n y).n A).n B).trans F).n C).trans G).n a)⟩
end
section
section
variable{M:Meet}{i k m n:Nat}{p:Nod}
theorem NOk.mono(h:NOk n p)(a:n<=m):NOk m p:={ h with wa:=mV h.wa a }
theorem NOk.zero(n:Nat):NOk n CZ:=⟨nB _,A' _,nB _,nB _,λc h=>(by cases h),⟨mT _,by decide⟩,Ar.b0,BU.nil,λ_=>BU.nil,λq h=>(by cases h)⟩
theorem NOk.bare(n:Nat)(p:Nod)(up:Bool)(d:List Int)(g:Int){a:Acc}(b:Ar a.p)(e:BU a.vs)(l:List Pend)(f:∀ q∈l,POk 0 q):NOk n (p.bare up d g a l):=⟨nB _,A' _,nB _,nB _,λc h=>(by cases h),⟨mT _,by show(0:Int)<=65536;decide⟩,b,e,λ_=>BU.nil,f⟩
theorem NOk.lp(h:NOk n p)(k:Int):NOk n (p.lp k)/\Az (p.lp k).bw<=Az p.bw/\(p.lp k).br.length<=p.br.length/\(p.lp k).bad=p.bad:=by
 unfold Nod.lp;split
 .exact⟨h,A' _,A' _,rfl⟩
 .exact⟨NOk.bare n p _ _ _ Ar.b0 BU.nil [] (λq a=>(by cases a)),nB _,nB _,rfl⟩
theorem NOk.start(h:NOk n p):NOk n p.start/\Az p.start.bw<=Az p.bw+4/\p.start.br.length<=p.br.length/\p.start.bad=p.bad:=by
 have b:=fw p.d p.sy;have a:∀ q∈[Pend.start],POk 0 q:=λq a=>by rw[G'.1 a];trivial
 unfold Nod.start;split
 .exact⟨h,rC _ _,A' _,rfl⟩
 .split
  .exact⟨NOk.bare n p _ _ _ b.1 b.2 _ a,by show 4<=_;omega,nB _,rfl⟩
  .exact⟨NOk.bare n p _ _ _ b.1 b.2 _ a,by show 4<=_;omega,nB _,rfl⟩
theorem FR(p:Nod)(b:Bal):(p.au b).1.br=p.br/\(p.au b).1.bad=p.bad/\(p.au b).1.cl=p.cl/\(p.au b).1.done=p.done/\(p.au b).1.dT=p.dT:=by
 unfold Nod.au;split
 .exact⟨rfl,rfl,rfl,rfl,rfl⟩
 .split
  .exact⟨rfl,rfl,rfl,rfl,rfl⟩
  .split<;>exact⟨rfl,rfl,rfl,rfl,rfl⟩
theorem NOk.lead(h:NOk n p)(i:Nat):NOk n (p.lead i)/\Az (p.lead i).bw<=Az p.bw+4/\(p.lead i).br=p.br/\(p.lead i).bad=p.bad:=by
 unfold Nod.lead;simp only;split
 .exact⟨h,rC _ _,rfl,rfl⟩
 .have hp:=h.au ⟨max p.dT p.vo.p.r+1,(i:Int)⟩;have a:=FR p ⟨max p.dT p.vo.p.r+1,(i:Int)⟩;have b:NOk n { (p.au ⟨max p.dT p.vo.p.r+1,(i:Int)⟩).1 with bn:=⟨⟨max p.dT p.vo.p.r+1,(i:Int)⟩,λ_=>false,λ_=>DW,λ_=>p.ae.length,0,[]⟩ }:={ hp.1 with qu:=nB _,he:=λ_=>BU.nil };refine⟨b.wait hp.2.2.2.1,?_,a.1,a.2.1⟩;show Az ((p.au _).1.bw++[_])<=_;rw[FP,hp.2.1];exact A' _
theorem NOk.want(h:NOk n p)(c:Cmd):NOk (n+1) (p.want c)/\(p.want c).br.length<=p.br.length+1/\(p.want c).bw=p.bw/\(p.want c).bad=p.bad:=by
 unfold Nod.want;split
 .exact⟨h.mono (om _),om _,rfl,rfl⟩
 .refine⟨{ h with wa:=?_,ask:=λd a=>?_ },by simp,rfl,rfl⟩
  .have:=h.wa;simp;omega
  .unfold Ca at a;simp only at a ⊢;split at a
   .rename_i e;exact U'.2 (.inr (G'.2 e))
   .exact U'.2 (.inl (h.ask d a))
theorem NOk.sj(h:NOk n p)(i:Nat)(e:Int)(c:Cmd)(a:List Tol):NOk (n+1) (p.sm i e c a).1/\(p.sm i e c a).1.bw=p.bw/\(p.sm i e c a).2.length+(p.sm i e c a).1.br.length<=a.length+p.br.length+1/\(p.sm i e c a).1.bad<=p.bad+1:=by
 have b:=h.mono (om n);unfold Nod.sm;split
 .exact⟨b,rfl,om _,om _⟩
 .split
  .exact⟨{ b with },rfl,om _,A' _⟩
  .split
   .exact⟨b,rfl,by simp;omega,om _⟩
   .have:=h.want c;exact⟨this.1,this.2.2.1,by have:=this.2.1;simp only;omega,by rw[this.2.2.2];exact om _⟩
theorem OV(p:Nod)(v:Vt):(p.cn v).1.br=p.br/\(p.cn v).1.bad=p.bad:=by
 unfold Nod.cn;split
 .exact⟨rfl,rfl⟩
 .split
  .exact⟨rfl,rfl⟩
  .split<;>exact⟨rfl,rfl⟩
theorem K4(p:Nod)(to:Nat)(e:Int):(p.eo to e).br=p.br/\(p.eo to e).bad=p.bad:=by unfold Nod.eo;split<;>exact⟨rfl,rfl⟩
theorem F9(p:Nod)(j:Nat)(v:Vt):(p.count j v).br=p.br/\(p.count j v).bad=p.bad/\(p.count j v).bw=p.bw:=by
 unfold Nod.count;split
 .exact⟨rfl,rfl,rfl⟩
 .split<;>exact⟨rfl,rfl,rfl⟩
theorem FE(p:Nod)(l:List Cmd):(p.eb l).br=p.br/\(p.eb l).bad=p.bad:=by unfold Nod.eb;split<;>exact⟨rfl,rfl⟩
theorem X2(p:Nod)(l:Let):(p.take l).br=p.br/\(p.take l).bad=p.bad:=by
 unfold Nod.take;split
 .split
  .exact K4 _ _ _
  .exact⟨(FR p l.gC).1,(FR p l.gC).2.1⟩
 .simp only;split<;>exact⟨rfl,rfl⟩
 .exact⟨rfl,rfl⟩
 .split
  .exact K4 _ _ _
  .exact OV p l.cn
 .exact⟨(F9 p _ _).1,(F9 p _ _).2.1⟩
 .split<;>exact⟨rfl,rfl⟩
 .simp only;split
  .exact FE p l.fv
  .exact FE p l.fv
 .exact⟨rfl,rfl⟩
theorem Xf(p:Nod)(i:Nat)(q:Pend):(p.lr i q).br=p.br/\(p.lr i q).bad=p.bad:=by
 cases q with
 | began b vs=>unfold Nod.lr;simp only;split<;>exact⟨rfl,rfl⟩
 | prop v=>exact⟨(F9 p i v).1,(F9 p i v).2.1⟩
 | _=>exact⟨rfl,rfl⟩
theorem SH(i:Nat)(l:List Pend)(p:Nod)(a:List Let):(ov i l p a).1.br=p.br/\(ov i l p a).1.bad=p.bad:=by
 induction l generalizing p a with
 | nil=>exact⟨rfl,rfl⟩
 | cons q l ih =>
  have b:=ih (p.lr i q) (a++p.rT i q);have c:=Xf p i q;exact⟨b.1.trans c.1,b.2.trans c.2⟩
theorem dB(i:Nat)(l:List Cmd)(p:Nod)(a:List Tol):(sa i l p a).1.bad=p.bad:=by
 induction l generalizing p a with
 | nil=>rfl
 | cons c l ih =>
  rw[sa];split
  .rfl
  .rw[ih];unfold Nod.hZ;split<;>rfl
theorem TL(p:Nod)(i:Nat)(a:List Let)(b:List Tol):(p.piece i a b).1.br=(sa i (p.ae.drop p.done) p b).1.br/\(p.piece i a b).1.bad=p.bad:=by
 have c:∀ q:Nod,(q.kc i).1.br=q.br/\(q.kc i).1.bad=q.bad:=by
  intro q;unfold Nod.kc;split
  .exact⟨rfl,rfl⟩
  .split
   .exact FE _ _
   .exact⟨rfl,rfl⟩
 have d:∀ q:Nod,q.cF.br=q.br/\q.cF.bad=q.bad:=by
  intro q;unfold Nod.cF;split
  .exact⟨rfl,rfl⟩
  .split
   .exact⟨rfl,rfl⟩
   .split
    .exact⟨rfl,rfl⟩
    .exact OV q _
 have e:∀ (q:Nod) (a:List Let),(q.oh i a).1.br=q.br/\(q.oh i a).1.bad=q.bad:=by
  intro q a;unfold Nod.oh;split
  .exact⟨rfl,rfl⟩
  .have:=SH i q.bw { q.rZ with bw:=[] } a;have g:q.rZ.br=q.br/\q.rZ.bad=q.bad:=by unfold Nod.rZ;split<;>exact⟨rfl,rfl⟩
   exact⟨this.1.trans g.1,this.2.trans g.2⟩
 have f:∀ (q:Nod) (a:List Let),(q.bN i a).1.br=q.br/\(q.bN i a).1.bad=q.bad:=by
  intro q a;unfold Nod.bN;split<;>exact⟨rfl,rfl⟩
 have h:=dB i (p.ae.drop p.done) p b;unfold Nod.piece;simp only;rw[(f _ _).1,(e _ _).1,(d _).1,(c _).1,(f _ _).2,(e _ _).2,(d _).2,(c _).2];exact⟨rfl,h⟩
def pw(M:Meet):Nat:=Az (M.ab 0).bw+Az (M.ab 1).bw+Az (M.ab 2).bw+Az (M.ab 3).bw+Az (M.ab 4).bw
def ww(M:Meet):Nat:=(M.ab 0).br.length+(M.ab 1).br.length+(M.ab 2).br.length+(M.ab 3).br.length+(M.ab 4).br.length
theorem aN(M:Meet)(a:i<5)(p:Nod)(b:List Let)(c:List Tol):pw (M.set i p b c)+Az (M.ab i).bw=pw M+Az p.bw:=by
 unfold pw Meet.set;rcases rU a with rfl|rfl|rfl|rfl|rfl<;>simp[upN]<;>omega
theorem cT(M:Meet)(a:i<5)(p:Nod)(b:List Let)(c:List Tol):ww (M.set i p b c)+(M.ab i).br.length=ww M+p.br.length:=by
 unfold ww Meet.set;rcases rU a with rfl|rfl|rfl|rfl|rfl<;>simp[upN]<;>omega
theorem Rw(M:Meet)(a:i<5):Az (M.ab i).bw<=pw M:=by
 unfold pw;rcases rU a with rfl|rfl|rfl|rfl|rfl<;>omega
theorem mh(M:Meet)(a:i<5):(M.ab i).br.length<=ww M:=by
 unfold ww;rcases rU a with rfl|rfl|rfl|rfl|rfl<;>omega
structure MOk(n:Nat)(M:Meet):Prop where
 ab:∀ i,i<5->NOk n (M.ab i)
 bt:∀ l∈M.bt,LOk l
 wt:M.bt.length+pw M<=10*n
 ew:M.ew.length+ww M<=n
 bad:∀ i,i<5->(M.ab i).bad<=n
theorem MOk.zero:MOk 0 Ap:=⟨λ_ _=>NOk.zero 0,λl h=>(by cases h),A' _,A' _,λ_ _=>A' _⟩
theorem MOk.mono(h:MOk n M)(b:n<=m):MOk m M:=⟨λi a=>(h.ab i a).mono b,h.bt,by have:=h.wt;omega,by have:=h.ew;omega,λi a=>mV (h.bad i a) b⟩
theorem MOk.set(h:MOk n M)(a:i<5){ls:List Let}{ts:List Tol}(c:NOk (n+1) p)(d:∀ l∈ls,LOk l)(g:ls.length+Az p.bw<=M.bt.length+Az (M.ab i).bw+10)(k:ts.length+p.br.length<=M.ew.length+(M.ab i).br.length+1)(m:p.bad<=(M.ab i).bad+1):MOk (n+1) (M.set i p ls ts):=by
 have e:=aN M a p ls ts;have f:=cT M a p ls ts;have:=h.wt;have:=h.ew;refine⟨λj b=>?_,d,by show ls.length+_<=_;omega,by show ts.length+_<=_;omega,λj b=>?_⟩
 .show NOk (n+1) (upN M.ab i p j);unfold upN;split
  .exact c
  .exact(h.ab j b).mono (om _)
 .show(upN M.ab i p j).bad<=n+1;unfold upN;split
  .have:=h.bad i a;omega
  .have:=h.bad j b;omega
structure COk(n k:Nat)(M:Meet):Prop where
 ab:∀ i,i<5->NOk n (M.ab i)
 wt:k+M.bt.length+pw M<=10*n
 ew:M.ew.length+ww M<=n
 bad:∀ i,i<5->(M.ab i).bad<=n
 bt:∀ l∈M.bt,LOk l
theorem COk.nn(h:COk n (k+1) M){l:Let}(a:LOk l):COk n k (M.nn l)/\(M.nn l).bt=M.bt:=by
 have i:=h.wt;unfold Meet.nn;split
 .have ht:=(h.ab l.dst a.dst).take a;have c:=X2 (M.ab l.dst) l;have e:=aN M a.dst ((M.ab l.dst).take l) M.bt M.ew;have d:=cT M a.dst ((M.ab l.dst).take l) M.bt M.ew;have f:pw (M.put l.dst ((M.ab l.dst).take l))=pw (M.set l.dst ((M.ab l.dst).take l) M.bt M.ew):=rfl;have g:ww (M.put l.dst ((M.ab l.dst).take l))=ww (M.set l.dst ((M.ab l.dst).take l) M.bt M.ew):=rfl;have:=h.ew;rw[c.1]at d
  refine⟨⟨λj b=>?_,by show k+M.bt.length+_<=_;have:=ht.2.1;omega,by show M.ew.length+_<=_;omega,λj b=>?_,h.bt⟩,rfl⟩
  .show NOk n (upN M.ab l.dst _ j);unfold upN;split
   .exact ht.1
   .exact h.ab j b
  .show(upN M.ab l.dst _ j).bad<=n;unfold upN;split
   .rw[c.2];exact h.bad _ a.dst
   .exact h.bad j b
 .exact⟨⟨h.ab,by omega,h.ew,h.bad,h.bt⟩,rfl⟩
theorem COk.all(a:List Let)(h:COk n a.length M)(b:∀ l∈a,LOk l):COk n 0 (a.foldl (λM l=>M.nn l) M):=by
 induction a generalizing M with
 | nil=>exact h
 | cons l a ih=>exact ih ((h.nn (b l O')).1) λm c=>b m (I' _ c)
theorem COk.ok(h:COk n k M):MOk n M:=⟨h.ab,h.bt,by have:=h.wt;omega,h.ew,h.bad⟩
theorem MOk.rY(h:MOk n M):MOk n M.rY :=
 (COk.all M.bt (M:={ M with bt:=[] }) ⟨h.ab,by show M.bt.length+0+pw M<=_;exact h.wt,h.ew,h.bad,λl a=>(by cases a)⟩ h.bt).ok
theorem MOk.move(h:MOk n M)(k:Int)(a:Nat):MOk (n+1) (M.move k a):=by
 have i:=h.wt;have b:=h.mono (om n);unfold Meet.move;split
 .exact b
 .rename_i l hl
  have c:LOk l:=h.bt l (nH hl);have f:∀ m∈M.bt.eraseIdx (a%M.bt.length),LOk m:=λm g=>h.bt m (p8 g);have e:(M.bt.eraseIdx (a%M.bt.length)).length<=M.bt.length:=List.length_eraseIdx_le _ _;have d:COk (n+1) 1 (if k≠6 then{ M with bt:=M.bt.eraseIdx (a%M.bt.length) }else M):=by
   split
   .exact⟨b.ab,by show 1+(M.bt.eraseIdx _).length+pw M<=_;omega,b.ew,b.bad,f⟩
   .exact⟨b.ab,by omega,b.ew,b.bad,h.bt⟩
  simp only;split
  .exact(d.nn c).1.ok
  .exact d.ok
theorem MOk.act(h:MOk n M)(i:n<=1000000){x:Lac}(g:LacOk x):MOk (n+1) (M.act x):=by
 have a:x.n.toNat<5:=by
  cases hu:FZ x.k with
  | true=>have:=g.n hu;omega
  | false=>have:=g.n0 hu;omega
 have e:=h.ab _ a;have c:=e.mono (om n);unfold Meet.act;simp only;split
 .have hs:=e.sj x.n.toNat (opE x.d ((M.ab x.n.toNat).done:Int)) (Hr x.d ((M.ab x.n.toNat).done:Int)) M.ew;exact h.set a hs.1 h.bt (by unfold Nod.sj;rw[hs.2.1];omega) (by unfold Nod.sj;omega) (by unfold Nod.sj;omega)
 .split
  .split
   .have hl:=c.lead x.n.toNat;exact h.set a hl.1 h.bt (by omega) (by rw[hl.2.2.1];omega) (by rw[hl.2.2.2];omega)
   .exact h.set a c h.bt (by omega) (by omega) (by omega)
  .split
   .by_cases hu:(M.ab x.n.toNat).up=true
    .rw[if_pos hu,if_pos hu,if_pos hu];have b:=c.piece a (ls:=M.bt) (ts:=M.ew) (by have:=Rw M a;have:=h.wt;omega) h.bt;have f:=TL (M.ab x.n.toNat) x.n.toNat M.bt M.ew;exact h.set a b.1 b.2.1 b.2.2.1 (by rw[f.1];have:=b.2.2.2;omega) (by rw[f.2];omega)
    .rw[if_neg hu,if_neg hu,if_neg hu];exact h.set a c h.bt (by omega) (by omega) (by omega)
   .split
    .exact h.move _ _
    .split
     .exact h.rY.mono (om _)
     .split
      .split
       .have hc:=c.lp x.p;exact h.set a hc.1 h.bt (by omega) (by omega) (by rw[hc.2.2.2];omega)
       .exact h.set a c h.bt (by omega) (by omega) (by omega)
      .split
       .split
        .exact h.set a c h.bt (by omega) (by omega) (by omega)
        .have hc:=c.start;exact h.set a hc.1 h.bt (by omega) (by omega) (by rw[hc.2.2.2];omega)
       .exact h.mono (om _)
end
end
section
open Go.RowKit
section
variable{M:Meet}{W w w0:World}{b j mb n ob tb:Nat}{g:Gh}{l:List Let}{nb:Nat->Nat}{x:S3}
theorem lH{P:Program}{x y:Operand}(a b:Nat)(h:P.underlying 3=some (.int .i64))(f:a<9223372036854775808)(g:0<b)(e:b<9223372036854775808):(do Go.eqGuard .rem 3 x y (iv (a:Int)) (iv (b:Int));Go.binOp .rem 3 (iv (a:Int)) (iv (b:Int)):Sem Value).run P W=.ok (iv ((a%b:Nat):Int)) W:=by
 have d:Int.tmod (a:Int) (b:Int)=((a%b:Nat):Int):=rfl;have c:¬ b=0:=by omega
 simp only[Go.eqGuard,go_sem,Op.intDiv];simp[c,d]
theorem gQ{c:Nat}(j:Nat)(a:j<n):(Instr.indexAt 65 (.slice (some ⟨b,0,none⟩) n c) (iv (j:Int))).run prog W=.ok (pt b j) W :=
 NL (P:=prog) (e:=143) (z:=1) underlying65 (by kernel_rfl) (by kernel_rfl) a _ (by omega)
theorem jx(d:x.a=some ⟨b,0,none⟩)(j:Nat)(c:j<x.n):(Instr.indexAt 65 x.v (iv (j:Int))).run prog W=.ok (pt b j) W:=by
 unfold S3.v;rw[d];exact gQ j c
theorem FzL.cell{e:List Value}(h:FzL g w x e)(i:x.a=some ⟨b,0,none⟩){u:Value}(k:e[j]?=some u):w.cell? ⟨b,j,none⟩=some u:=by
 obtain⟨c,d,_,_,f⟩:=h.at_ j u k;rw[i]at d
 simp only[Y',Addr.mk.injEq,and_true]at d;subst d;exact f
theorem MS.outs{a:Gh}{b:World}{B:Nat}(h:MS mb tb ob nb g w M)(c:Cg B [.n 50 0,.n 51 0] g w a b){lt e:S3}{d:List Let}(k:OutAt a b ob lt e d M.ew)(j:Jw a b):MS mb tb ob nb a b { M with bt:=d } :=
 ⟨h.box.ch c,h.tk.ch c,λi f=>let ⟨x,hx⟩:=h.ab i f;⟨x,hx.ch c (by simp) (λr l=>by simp;omega)⟩,⟨lt,e,k⟩,j⟩
theorem Lets.erase{d:List Nat}(h:Lets g w d l)(j:Nat):Lets g w (d.eraseIdx j) (l.eraseIdx j):=by
 refine⟨by rw[List.length_eraseIdx,List.length_eraseIdx,h.len],λk b m c a=>?_⟩;rw[List.getElem?_eraseIdx]at c a
 split at c
 .rename_i hk;rw[if_pos hk]at a;exact h.at_ _ _ _ c a
 .rename_i hk;rw[if_neg hk]at a;exact h.at_ _ _ _ c a
theorem YH{c:Let}(h:l[j]?=some c):l.drop j=c::l.drop (j+1):=by
 obtain⟨a,b⟩:=V'.1 h;rw[<- b];exact nO a
theorem ZT(k:Int)(a:Nat)(h:M.bt.length=0):M.move k a=M:=by
 unfold Meet.move;rw[Z' h];rfl
theorem eG{k:Int}{a:Nat}{l:Let}(h:M.bt[a%M.bt.length]?=some l):M.move k a=(if k≠5 then(if k≠6 then{ M with bt:=M.bt.eraseIdx (a%M.bt.length) }else M).nn l else if k≠6 then{ M with bt:=M.bt.eraseIdx (a%M.bt.length) }else M):=by
 unfold Meet.move;rw[h]
theorem Mk(h:MS mb tb ob nb g w M)(hB:Base w0 g w)(hT:Tabs w0)(k:Int)(a:Nat)(ha:a<=1048576)(hm:MOk n M)(hn:n<=1000000) :
  Calls prog 29 #[pt mb 0,iv k,iv (a:Int)] w (MP mb tb ob nb g w (.tuple #[]) (M.move k a)):=by
 obtain⟨lt,tl,hO⟩:=h.out;obtain⟨bs,hL,o⟩:=hO.bt;have X:lt.n=M.bt.length:=by have:=hL.len;have:=o.len;simp at *;omega
 have b7:=hm.wt;refine gI (fn:=f29) TM g func29 h.new (Cr ⟨mb,_,.z,false⟩ (λ_=>⟨h.box.r,h.box.z,λh=>(by cases h),λh=>absurd rfl h⟩) (by kernel_rfl) ?_);refine qO hO (qR [] 18 [0,1] λs1 g1 w1 c1=>?_);by_cases h1:lt.n=0
 .refine qI (((lt.n:Int)==0)) true (by simp;omega) (qE (.tuple #[]) λK=>?_);rw[ZT k a (by omega)];exact⟨_,rfl,(h.sc c1 K.new),(c1.nil TM)⟩
 .refine qI (((lt.n:Int)==0)) false (by simp;omega) ?_;obtain⟨j,hj⟩:∃ j,j=a%M.bt.length:=⟨_,rfl⟩;have H:j<M.bt.length:=by rw[hj];exact Nat.mod_lt _ (by omega)
  obtain⟨l,hl⟩:∃ l,M.bt[j]?=some l:=⟨_,E' H⟩;obtain⟨I,V⟩:∃ I,bs[j]?=some I:=⟨_,E' (by rw[o.len];exact H)⟩;have q:=hm.bt l (nH hl);have U:=o.at_ j I l V hl;obtain⟨b,hb,a7,a6⟩:=hL.cell (j:=j) (u:=pt I 0) (by rw[nR,V];rfl);rw[eG (hj▸hl)];rw[<- hj];obtain⟨la,lq,lc⟩:=lt;simp only at hb X;subst hb;refine qR [] 5 [] λs3 g3 w3 i=>?_;have a8 {x y:Operand}:∀ {W:World},(do Go.eqGuard .rem 3 x y (iv (a:Int)) (iv (lq:Int));Go.binOp .rem 3 (iv (a:Int)) (iv (lq:Int)):Sem Value).run prog W=.ok (iv (j:Int)) W:=λ{W}=>by rw[hj,<- X];exact lH a lq underlying3 (by omega) (by omega) (by omega)
  refine qV 2 (iv (j:Int)) (a8 (x:=(.tmp 19)) (y:=(.tmp 20))) (qR [] 12 [0,1] λs4 g4 w4 m=>qV 8 (pt b j) (gQ (b:=b) (n:=lq) (c:=lc) j (by omega)) (qV 9 (pt I 0) (D4 underlying143 rfl ((Below.cell (Cg.af ((c1.trans i).trans m) (λ_ _=>P')) (p:=⟨b,j,none⟩) a7).trans a6)) (qR [] 8 [] λs6 g6 w6 s=>?_)));by_cases Z:k≠6
  .refine qI ((k != 6)) true (by simpa using Z) ?_;have G:k≠6:=by simpa using Z
   rw[if_pos G];refine qR [] 14 [17,0,2,4,6,0,8,10,12,14,0,16,18,20,1,22,24] λs7 g7 w7 J=>qT 13 (iv ((j+1:Nat):Int)) (λ_=>(AU 46 (j:Int) underlying3 (by omega))) (Af λK=>qG 14 [.n 51 0] [true,true] (Q4 (hL.ch ((((c1.trans i).trans m).trans s).trans J) (by simp) (by simp)) K.new j (by rw[o.len];exact H) (by rw[o.len];omega)) ?_);rintro e' w9 ⟨y9,g9,rfl,a9,n9,F⟩;refine⟨_,g9,rfl,F,n9,?_⟩;replace F:=F.ret (B:=w.heap.size);refine qR [.n 50 0] 9 [30,32,35,1,1] λb8 T Y d=>Af λK=>?_;have C9:Cg w.heap.size [.n 50 0,.n 51 0] g w T Y:=(((((((c1.nil [.n 50 0,.n 51 0]).n i).n m).n s).n J).trans (F.mono (by simp))).trans (d.mono (by simp)));obtain⟨o1,o2,o3⟩:=K.sC 1 ob (.cells #[S3.v y9,S3.v tl] 67) 50 0 (by kernel_rfl);have O:MS mb tb ob nb T Y { M with bt:=M.bt.eraseIdx j }:=h.outs C9 ⟨o1,o2,o3,⟨bs.eraseIdx j,(a9.ch d),(o.erase j).ch C9⟩,hO.ew.ch C9⟩ K.new;by_cases E:k≠5
   .refine qI ((k != 5)) true (by simpa using E) ?_;rw[if_pos (show k≠5 from by simpa using E)];refine qR [] 3 [] λb9 a2 b0 t=>Af λK=>?_;have a0:MS mb tb ob nb a2 b0 ({ M with bt:=M.bt.eraseIdx j }):=(O.sc t K.new);refine qG 2 TM [true,false] (LF a0 (hB.ch ((((((((c1.nil TM).n i).n m).n s).n J).trans (F.mono (by simp[TM,TN]))).trans (d.mono (by simp[TM,TN]))).n t) F4) hT I l (U.ch ((((((((c1.nil TM).n i).n m).n s).n J).trans (F.mono (by simp[TM,TN]))).trans (d.mono (by simp[TM,TN]))).n t) F4) q (hm.ab l.dst q.dst) (by have:=Ei (M.ab l.dst).bw;have:=Rw M q.dst;show(M.ab l.dst).bw.length<_;omega)) ?_;rintro e' d2 ⟨a3,rfl,L,A⟩;refine⟨_,a3,rfl,A,L.new,?_⟩;replace A:=A.ret (B:=w.heap.size);refine qR [] 1 [] λc0 b2 d3 P=>qE (.tuple #[]) λK=>⟨_,rfl,(L.sc P K.new),((((((((((c1.nil TM).n i).n m).n s).n J).trans (F.mono (by simp[TM,TN]))).trans (d.mono (by simp[TM,TN]))).n t).trans (A)).n P)⟩
   .refine qI ((k != 5)) false (by simpa using E) (qR [] 1 [] λc2 b3 d4 Q=>?_);rw[if_neg (show ¬ k≠5 from by simpa using E)];refine qE (.tuple #[]) λK=>⟨_,rfl,(O.sc Q K.new),((((((((c1.nil TM).n i).n m).n s).n J).trans (F.mono (by simp[TM,TN]))).trans (d.mono (by simp[TM,TN]))).n Q)⟩
  .refine qI ((k != 6)) false (by simpa using Z) ?_;have G:¬ k≠6:=by simpa using Z
   rw[if_neg G];refine qR [] 6 [] λc5 b4 d5 e=>?_;by_cases E:k≠5
   .refine qI ((k != 5)) true (by simpa using E) ?_;rw[if_pos (show k≠5 from by simpa using E)];refine qR [] 3 [] λc8 a4 b1 C=>Af λK=>?_;have a1:MS mb tb ob nb a4 b1 M:=(h.sc (((((c1.trans i).trans m).trans s).trans e).trans C) K.new);refine qG 2 TM [true,false] (LF a1 (hB.ch ((((((c1.nil TM).n i).n m).n s).n e).n C) F4) hT I l (U.ch ((((((c1.nil TM).n i).n m).n s).n e).n C) F4) q (hm.ab l.dst q.dst) (by have:=Ei (M.ab l.dst).bw;have:=Rw M q.dst;show(M.ab l.dst).bw.length<_;omega)) ?_;rintro e' d6 ⟨a5,rfl,N,D⟩;refine⟨_,a5,rfl,D,N.new,?_⟩;replace D:=D.ret (B:=w.heap.size);refine qR [] 1 [] λd0 b5 d7 R=>qE (.tuple #[]) λK=>⟨_,rfl,(N.sc R K.new),((((((((c1.nil TM).n i).n m).n s).n e).n C).trans (D)).n R)⟩
   .refine qI ((k != 5)) false (by simpa using E) (qR [] 1 [] λd1 b6 d8 S=>?_);rw[if_neg (show ¬ k≠5 from by simpa using E)];refine qE (.tuple #[]) λK=>⟨_,rfl,(h.sc (((((c1.trans i).trans m).trans s).trans e).trans S) K.new),((((((c1.nil TM).n i).n m).n s).n e).n S)⟩
theorem Qx(h:MS mb tb ob nb g w M)(hB:Base w0 g w)(hT:Tabs w0)(u:MOk n M)(hn:n<=1000000) :
  Calls prog 30 #[pt mb 0] w (MP mb tb ob nb g w (.tuple #[]) M.rY):=by
 obtain⟨lt,tl,I⟩:=h.out;obtain⟨y,U,i⟩:=I.bt;have a1:lt.n=M.bt.length:=by have:=U.len;have:=i.len;simp at *;omega
 have P:=u.wt;refine gI (fn:=f30) TM g func30 h.new (Cr ⟨mb,_,.z,false⟩ (λ_=>⟨h.box.r,h.box.z,λh=>(by cases h),λh=>absurd rfl h⟩) (by kernel_rfl) ?_);refine qO I (m5 U (by kernel_rfl) λgF X hF=>qR [.n 50 0] 28 [0,1,0,1,1] λs1 Y w1 c1=>Af λG=>Ce 28 [(0,pt mb 0),(18,S3.v lt),(19,iv (lt.n:Int)),(20,iv 0)] [true,false] [⟨mb,.cells (mtA nb ob tb) 73,.z,false⟩] (λk E F e L=>∃ (j:Nat) (A:Meet),k=M.bt.length-j/\j<=M.bt.length/\e=[(0,pt mb 0),(18,S3.v lt),(19,iv (lt.n:Int)),(20,iv (j:Int))]/\L=[⟨mb,.cells (mtA nb ob tb) 73,.z,false⟩]/\MS mb tb ob nb E F A/\(M.bt.drop j).foldl (λM l=>M.nn l) A=M.rY/\COk n (M.bt.length-j) A/\FzL E F lt (y.map (pt · 0))/\Lets E F y M.bt/\Cg w.heap.size TM g w E F) (by kernel_rfl) (by kernel_rfl) (by kernel_rfl) (by kernel_rfl) M.bt.length (λK=>?_) ?_)
 .have C9:Cg w.heap.size [.n 50 0,.n 51 0] g w Y w1:=((X.mono (by simp)).trans (c1.mono (by simp)));obtain⟨o1,o2,o3⟩:=G.sC 1 ob (.cells #[S3.v s30,S3.v tl] 67) 50 0 (by kernel_rfl);exact⟨0,{ M with bt:=[] },rfl,nB _,rfl,rfl,h.outs C9 ⟨o1,o2,o3,⟨[],OwnS.nil _ _ _ _ _ _,⟨rfl,λk b m h=>(by cases h)⟩⟩,I.ew.ch C9⟩ K.new,rfl,⟨u.ab,by show M.bt.length+0+pw M<=_;exact P,u.ew,u.bad,λl s=>(by cases s)⟩,(hF.fz.ch c1),i.ch C9,C9.mono (by simp[TM,TN])⟩
 .rintro k gr wr _ zr _ ⟨j,A,rfl,hj,rfl,rfl,hM,hI,hA,hFz,hLt,hC⟩ J hJ;have a0:=hFz.n;refine qR [] 5 [] λs2 g2 w2 a=>?_;by_cases T:j<M.bt.length
  .refine qI ((decide ((j:Int)<(lt.n:Int)))) true (M' (by omega)) ?_;obtain⟨l,s⟩:∃ l,M.bt[j]?=some l:=⟨_,E' T⟩;obtain⟨o,t⟩:∃ o,y[j]?=some o:=⟨_,E' (by rw[i.len];exact T)⟩;have c:=u.bt l (nH s);have H:=hLt.at_ j o l t s;have x:(y.map (pt · 0))[j]?=some (pt o 0):=by rw[nR,t];rfl
   obtain⟨b,V,_⟩:=hFz.at_ j (pt o 0) x;obtain⟨Q,O⟩:∃ Q,M.bt.length-j=Q+1:=⟨M.bt.length-j-1,by omega⟩;rw[O]at hA
   have N:=hA.nn c;rw[YH s,rL]at hI
   refine qR [] 5 [] λs3 g3 w3 d=>qV 0 (pt b j) (jx V j (by omega)) (qV 1 (pt o 0) (D4 underlying143 rfl (((hFz.ch a).ch d).cell V x)) (qR [] 5 [] λs5 Z w5 p=>Af λK=>?_));have W:MS mb tb ob nb Z w5 A:=(hM.sc ((a.trans d).trans p) K.new);refine qG 2 TM [true] (LF W (hB.ch ((((hC.n a).n d).n p)) F4) hT o l (H.ch (((a.nil TM).n d).n p) F4) c (hA.ab l.dst c.dst) (by have:=hA.wt;have:=Ei (A.ab l.dst).bw;have:=Rw A c.dst;omega)) ?_;rintro e' w6 ⟨g6,rfl,R,q⟩;refine⟨_,g6,rfl,q,R.new,?_⟩;replace q:=q.ret (B:=w.heap.size);refine qR [] 3 [] λs7 g7 w7 C=>qV 0 (iv ((j:Int)+1)) (AU 20 (j:Int) underlying3 (by omega)) (qR [] 2 [] λs8 g8 w8 D=>qB [true] λz G K=>hJ (M.bt.length-(j+1)) _ _ _ z _ (by omega) ⟨j+1,A.nn l,rfl,by omega,rfl,rfl,(R.sc (C.trans D) G.new),hI,(by rw[show M.bt.length-(j+1)=Q by omega];exact N.1),((((((hFz.ch a).ch d).ch p).ch q).ch C).ch D),hLt.ch ((((((a.nil TM).n d).n p).trans (q)).n C).n D) F4,((((((hC.n a).n d).n p).trans q).n C).n D)⟩ K)
  .refine qI ((decide ((j:Int)<(lt.n:Int)))) false (D' (by omega)) (qR [] 1 [] λs9 g9 w9 S=>?_);obtain rfl:j=M.bt.length:=by omega
   rw[oW]at hI
   rw[<- hI];refine qE (.tuple #[]) λK=>⟨_,rfl,(hM.sc (a.trans S) K.new),((hC.n a).n S)⟩
end
end
end Go.Proofs.YtogibonjmbhliabGreatDoor
