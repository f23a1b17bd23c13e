/- Part 7 of the walk. -/
import Derived.Test.YtdjfdfpkkenjbabGreatDoorShelfR
import Derived.Shelf.Vars
import Derived.Test.YtdjfdfpkkenjbabGreatDoorZ6
set_option maxRecDepth 100000
set_option maxHeartbeats 4000000
open Go.Proofs.Tryz
set_option linter.unusedVariables false
namespace Go.Proofs.YtdjfdfpkkenjbabGreatDoor
section
open Go.RowKit
section
structure Ss(w:World)(v:Value)(l:List (List Int)):Prop where
 ex:∃ b off cap,v=.slice (some ⟨b,off,none⟩) l.length cap/\b<w.heap.size/\l.length<=cap/\∀ i,i<l.length->w.cell? ⟨b,off+i,none⟩=some (.string (strOfNums (l.getD i [])))
 len:l.length<=4000000000
variable{F:Nat->Lac}{Y:Nat->Value}{a c k:Int}{b base cap e i m n off:Nat}{d s x:List Int}{l ps r:List (List Int)}{v:Value}{w w':World}
theorem Ss.ab(h:Ss w v l)(f:Bw w w'):Ss w' v l:=by
 obtain⟨⟨b,a,c,e,d,g,j⟩,k⟩:=h;exact⟨⟨b,a,c,e,X' d f.size,g,λi m=>(f.cell (p:=⟨b,a+i,none⟩) d).trans (j i m)⟩,k⟩
theorem Ss.shape(h:Ss w v l):∃ b off cap,v=.slice (some ⟨b,off,none⟩) l.length cap/\b<w.heap.size/\l.length<=cap:=by
 obtain⟨⟨b,off,cap,e,a,c,_⟩,_⟩:=h;exact⟨b,off,cap,e,a,c⟩
theorem Ss.at(h:Ss w (.slice (some ⟨b,off,none⟩) n cap) l)(i:Nat)(f:i<l.length):w.cell? ⟨b,off+i,none⟩=some (.string (strOfNums (l.getD i []))):=by
 obtain⟨⟨g,c,a,e,j,k,d⟩,m⟩:=h;simp only[Value.slice.injEq,P',Addr.mk.injEq]at e;obtain⟨⟨rfl,rfl,_⟩,rfl,rfl⟩:=e;exact d i f
theorem Ik(a:i<l.length):l.getD i []=l[i]:=by simp[List.getD,List.getElem?_eq_getElem a]
theorem Ss.drop(h:Ss w (.slice (some ⟨b,off,none⟩) n cap) l)(k:Nat)(q:k<=l.length):Ss w (.slice (some ⟨b,off+k,none⟩) (l.length-k) (cap-k)) (l.drop k):=by
 obtain⟨⟨m,c,a,e,d,o,f⟩,p⟩:=h;simp only[Value.slice.injEq,P',Addr.mk.injEq]at e;obtain⟨⟨rfl,rfl,_⟩,rfl,rfl⟩:=e;refine⟨⟨b,off+k,cap-k,by rw[mJ],d,by rw[mJ];omega,λi j=>?_⟩,by rw[mJ];omega⟩;rw[mJ]at j
 have g:=f (k+i) (by omega);rw[nP,g,Ik (by omega),Ik (by rw[mJ];omega),List.getElem_drop]
theorem Us:prog.elem 90=9:=by kernel_rfl
theorem aF(w:World):(Go.sizeOf 9).run prog w=.ok 1 w:=by
 have h:(prog.info? 9).map (·.size)=some 1:=by kernel_rfl
 cases hi:prog.info? 9 with
 | none=>rw[hi]at h;cases h
 | some i =>
  rw[hi]at h
  simp at h;simp[sizeOf,typeInfo,hi,h]
theorem Jo(b c n a i:Nat)(d:i<n)(w:World):(Instr.indexAt 90 (.slice (some ⟨b,c,none⟩) n a) (.int .i64 (i:Int))).run prog w=.ok (.pointer (some ⟨b,c+i,none⟩)) w:=by
 rw[run_indexAt_slice (P:=prog) w 90 _ n a .i64 _ underlying90,if_pos ⟨by omega,by omega⟩,Us,aF];simp[Result.andThen,Addr.add_mid]
theorem Tx(b a n c:Nat)(d:0<n)(w:World):(Instr.indexAt 90 (.slice (some ⟨b,a,none⟩) n c) (.int .i64 0)).run prog w=.ok (.pointer (some ⟨b,a,none⟩)) w:=Jo b a n c 0 d w
theorem Ty(b a n c:Nat)(d:1<n)(w:World):(Instr.indexAt 90 (.slice (some ⟨b,a,none⟩) n c) (.int .i64 1)).run prog w=.ok (.pointer (some ⟨b,a+1,none⟩)) w:=Jo b a n c 1 d w
theorem Mj(s:List Int):(splitB s).length<=s.length+1:=by
 induction s with
 | nil=>simp[splitB]
 | cons c r ih =>
  rw[splitB];split
  .simp;omega
  .obtain⟨y,t,e⟩:=np (BP r);rw[e]at ih ⊢
   simp at ih ⊢;omega
def u8(c:Int):UInt8:=UInt8.ofNat c.toNat
theorem IC(l:List Int):(strOfNums l).data.toList=l.map u8:=by rw[strOfNums_data];rfl
theorem Pr{b:Int}(f:0<=a/\a<256)(g:0<=b/\b<256):u8 a=u8 b↔a=b:=by
 constructor
 .intro h;have e:(UInt8.ofNat a.toNat).toNat=(UInt8.ofNat b.toNat).toNat:=by unfold u8 at h;rw[h]
  have c:(UInt8.ofNat a.toNat).toNat=a.toNat:=by simp;omega
  have d:(UInt8.ofNat b.toNat).toNat=b.toNat:=by simp;omega
  omega
 .intro h;rw[h]
theorem lP(c:Int):c.toNat.toUInt8=u8 c:=rfl
def D8:List Int->Int->Int
 | [],_=>-1
 | b::l,c=>if b=c then 0 else if D8 l c=-1 then -1 else D8 l c+1
theorem Y8{l:List Int}(i:∀ x∈l,0<=x/\x<256){c:Int}(g:0<=c/\c<256):Lib.indexByte (l.map u8) (u8 c)=D8 l c:=by
 induction l with
 | nil=>rfl
 | cons b l d =>
  have f:=i b (by simp);have d:=d (λx j=>i x (by simp[j]));rw[mT,Lib.indexByte,D8,d];by_cases e:b=c
  .rw[if_pos (by rw[beq_iff_eq];exact(Pr f g).2 e),if_pos e]
  .rw[if_neg (by rw[beq_iff_eq];exact λh=>e ((Pr f g).1 h)),if_neg e];by_cases a:D8 l c=-1
   .rw[if_pos (by rw[beq_iff_eq];exact a),if_pos a]
   .rw[if_neg (by rw[beq_iff_eq];exact a),if_neg a]
theorem Ez(l:List Int)(b:∀ x∈l,0<=x/\x<256)(c:Int)(a:0<=c/\c<256)(w:World) :
  Calls prog 26 #[.string (strOfNums l),.int .u8 c] w λe w'=>e=.returned (.int .i64 (D8 l c))/\w'=w:=by
 have h:=Tryz.strings_IndexByte (strOfNums l) c w;rw[IC,lP,Y8 b a]at h
 exact h
def XX:List Int:=[48,49,50,51,52,53,54,55,56,57,97,98,99,100,101,102]
def Nu:List Int:=[48,49,50,51,52,53,54,55,56,57]
theorem ko(c:Int)(a:0<=c/\c<256):D8 XX c=hxV c:=by
 have key:∀ n:Nat,n<256->D8 XX (n:Int)=hxV (n:Int):=by decide +kernel
 have:=key c.toNat (by omega)
 rwa [nT a.1]at this
def dgV(c:Int):Int:=if 48<=c/\c<=57 then c-48 else -1
theorem km(c:Int)(a:0<=c/\c<256):D8 Nu c=dgV c:=by
 have key:∀ n:Nat,n<256->D8 Nu (n:Int)=dgV (n:Int):=by decide +kernel
 have:=key c.toNat (by omega)
 rwa [nT a.1]at this
theorem U8{l:List Int}(h:c∉l):D8 l c=-1:=by
 induction l with
 | nil=>rfl
 | cons b l ih =>
  simp only[mK,not_or]at h;rw[D8,if_neg (λe=>h.1 e.symm),ih h.2,if_pos rfl]
theorem U7(h:c∉x)(r:List Int):D8 (x++c::r) c=x.length:=by
 induction x with
 | nil=>rw[nF,D8,if_pos rfl];rfl
 | cons b l ih =>
  simp only[mK,not_or]at h;rw[nW,D8,if_neg (λe=>h.1 e.symm),ih h.2,if_neg (by omega)];simp
def Ca:Nat->List Int->List (List Int)
 | 0,s=>[s]
 | k+1,s=>match splitB s with
  | []=>[s]
  | [_]=>[s]
  | x::_::_=>x::Ca k (s.drop (x.length+1))
theorem Jy(h:splitB s=x::r)(b:r≠[]):s=x++32::Ef r/\32∉x/\splitB (s.drop (x.length+1))=r:=by
 have a:=Gd s;have c:32∉x:=Jw s x (by rw[h];simp);obtain⟨y,t,rfl⟩:=np b;rw[h,Ef]at a
 refine⟨a.symm,c,?_⟩;have e:s.drop (x.length+1)=Ef (y::t):=by rw[<- a];simp
 rw[e];exact DC (by simp) (λz d=>Jw s z (by rw[h];simp[d]))
theorem G4(h:splitB s=[x]):x=s/\32∉s:=by
 have a:=Gd s;rw[h]at a
 have b:32∉x:=Jw s x (by rw[h];simp);simp only[Ef]at a;subst a;exact⟨rfl,b⟩
theorem DV(k:Nat)(s:List Int)(h:(splitB s).length<=k+1):Ca k s=splitB s:=by
 induction k generalizing s with
 | zero =>
  obtain⟨x,r,e⟩:=np (BP s);rw[e]at h ⊢
  have b:r=[]:=by simpa using h
  subst b;rw[(G4 e).1];rfl
 | succ k ih =>
  rw[Ca]
  match hs:splitB s with
  | []=>exact absurd hs (BP s)
  | [x]=>rw[(G4 hs).1]
  | x::y::t =>
   have a:=(Jy hs (by simp)).2.2;simp only;rw[ih _ (by rw[a];rw[hs]at h;simpa using h),a]
theorem Kg(k:Nat)(s:List Int)(h:k+1<=(splitB s).length):(Ca k s).length=k+1:=by
 induction k generalizing s with
 | zero=>rfl
 | succ k ih =>
  rw[Ca]
  match hs:splitB s with
  | []=>exact absurd hs (BP s)
  | [x]=>rw[hs]at h;simp at h
  | x::y::t =>
   have a:=(Jy hs (by simp)).2.2;simp only[mR];rw[ih _ (by rw[a];rw[hs]at h;simpa using h)]
theorem QY(k:Nat)(s:List Int){x:List Int}{r:List (List Int)}(h:splitB s=x::r):∃ r',Ca (k+1) s=x::r':=by
 rw[Ca,h]
 match r,h with
 | [],h=>exact⟨[],by rw[(G4 h).1]⟩
 | y::t,h=>exact⟨_,rfl⟩
theorem VP{l:List Int}(f:∀ x∈l,0<=x/\x<256){c:Int}(h:0<=c/\c<256):Lib.index (l.map u8) [u8 c]=D8 l c:=by
 induction l with
 | nil=>rfl
 | cons b l d =>
  have g:=f b (by simp);have d:=d (λx j=>f x (by simp[j]));rw[mT,Lib.index,D8,d];have i:([u8 c]:List UInt8).isPrefixOf (u8 b::l.map u8)=decide (b=c):=by
   rw[pG,decide_eq_true_iff];simp only[List.isPrefixOf,qi,beq_iff_eq];rw[Pr h g];exact eq_comm
  rw[i];by_cases e:b=c
  .rw[if_pos e,if_pos (by simpa using e)]
  .rw[if_neg e,if_neg (by simpa using e)];by_cases a:D8 l c=-1
   .rw[if_pos (by rw[beq_iff_eq];exact a),if_pos a]
   .rw[if_neg (by rw[beq_iff_eq];exact a),if_neg a]
theorem S2{l:List Int}(b:∀ x∈l,0<=x/\x<256){c:Int}(a:0<=c/\c<256):Lib.indexB (strOfNums l) (strOfNums [c])=D8 l c:=by
 have h:=VP b a;rw[<- IC]at h
 exact h
theorem T6(k:Nat)(s:List Int)(d:∀ x∈s,0<=x/\x<256):Lib.splitB (strOfNums [32]) 0 k (strOfNums s)=(Ca k s).map strOfNums:=by
 induction k generalizing s with
 | zero=>rfl
 | succ k ih =>
  have b:=S2 d (c:=32) (by omega);rw[Ca]
  match hw:splitB s with
  | []=>exact absurd hw (BP s)
  | [x] =>
   rw[Lib.splitB_miss _ _ _ _ (by rw[b];exact U8 (G4 hw).2)];rfl
  | x::y::t =>
   obtain⟨a,g,j⟩:=Jy hw (by simp);have i:D8 s 32=((x.length:Nat):Int):=by
    conv=>lhs;rw[a]
    exact U7 g _
   rw[Lib.splitB_hit _ _ _ _ x.length (by rw[b,i])];simp only[mT];have e:(strOfNums s).extract 0 (x.length+0)=strOfNums x:=by
    rw[KS,a];simp
   have f:(strOfNums s).extract (x.length+(strOfNums [32]).size) (strOfNums s).size=strOfNums (s.drop (x.length+1)):=by
    rw[KS,AR,AR];simp
   rw[e,f,ih _ (λc h=>d c (qe h))]
theorem Ss.so{N:Nat}(c:l.length<=N)(a:l.length<=4000000000):Ss (w.alloc (.cells (Lib.cellsOf (l.map strOfNums) N) 9)) (.slice (some ⟨w.heap.size,0,none⟩) l.length N) l:=by
 refine⟨⟨w.heap.size,0,N,rfl,by simp,c,λi b=>?_⟩,a⟩;rw[cell_of_row _ _ _ _ _ _ (heap_alloc_new _ _)];unfold Lib.cellsOf;rw[nD,mP (by simp;omega)];simp[List.getD,List.getElem?_eq_getElem b]
theorem T7(s:List Int)(f:∀ x∈s,0<=x/\x<256)(i:s.length<=4000000)(w:World)(b:Hid (∃ m,w.cell? ⟨2,0,none⟩=some (.int .i64 m))) :
  Calls prog 28 #[.string (strOfNums s),.string (strOfNums [32]),.int .i64 6] w λe w'=>∃ v,e=.returned v/\Ss w' v (Ca 5 s)/\Bw w w':=by
 obtain⟨m,b⟩:=b.out;have h:=Tryz.strings_SplitN (strOfNums s) (strOfNums [32]) 6 m w (by rw[AR];omega) b (by rw[AR];simp) (by omega) (by omega);refine h.mono ?_;rintro e w' ⟨rfl,rfl⟩;rw[T6 _ _ f,AR,mU];have d:Ca (min 6 (s.length+1)-1) s=Ca 5 s:=by
  by_cases g:5<=s.length
  .rw[oF (by omega)]
  .have:=Mj s;rw[DV 5 s (by omega),DV _ s (by omega)]
 rw[d];have a:(Ca 5 s).length<=min 6 (s.length+1):=by
  have:=Mj s;by_cases c:(splitB s).length<=6
  .rw[DV 5 s c];omega
  .rw[Kg 5 s (by omega)];omega
 exact⟨_,rfl,Ss.so a (by omega),(Below.refl _ _).alloc (A' _) _⟩
theorem MH(s:List Int)(k:∀ x∈s,0<=x/\x<256)(l:s.length<=140737488351232)(w:World) :
  Calls prog 27 #[.string (strOfNums s),.string (strOfNums [10])] w λe w'=>(∃ b,s=b++[10]/\e=.returned (.tuple #[.string (strOfNums b),.bool true])/\w'=w)\/((∀ b,s≠b++[10])/\e=.returned (.tuple #[.string (strOfNums s),.bool false])/\w'=w):=by
 refine(Tryz.strings_CutSuffix (strOfNums s) (strOfNums [10]) w (by rw[AR];omega)).mono ?_;rintro e w' ⟨rfl,rfl⟩;rw[IC,IC];by_cases h:∃ b,s=b++[10]
 .obtain⟨b,rfl⟩:=h;left;refine⟨b,rfl,?_,rfl⟩;have f:Lib.hasSuffix ((b++[10]).map u8) ([10].map u8)=true:=by
   unfold Lib.hasSuffix;rw[qp];exact⟨b.map u8,by simp⟩
  rw[Lib.trimSuffix,if_pos f,f];have a:((b++[10]).map u8).take (((b++[10]).map u8).length-([10].map u8).length)=b.map u8:=by simp
  rw[a];rfl
 .right;have c:∀ b,s≠b++[10]:=λb e=>h ⟨b,e⟩;refine⟨c,?_,rfl⟩;have f:Lib.hasSuffix (s.map u8) ([10].map u8)=false:=by
   rw[oQ];intro a;unfold Lib.hasSuffix at a;rw[qp]at a
   obtain⟨t,d⟩:=a;by_cases e:s=[]
   .rw[e]at d;simp at d
   .have h3:=oI e;have g:u8 (s.getLast e)=u8 10:=by
     rw[<- h3]at d
     simp only[mS,mT,nJ]at d;have i:=List.append_inj' d rfl;simpa using i.2.symm
    have j:=(Pr (k _ (qM e)) (by omega)).1 g;rw[j]at h3
    exact c _ h3.symm
  rw[Lib.trimSuffix,f];rfl
def Drw(w w':World):Prop:=∃ m,w'=w.drewN m
theorem Drw.refl(w:World):Drw w w:=⟨0,rfl⟩
theorem Drw.more(h:Drw w w')(n:Nat):Drw w (w'.drewN n):=by
 obtain⟨m,rfl⟩:=h;exact⟨m+n,World.drewN_drewN w m n⟩
theorem ia(w:World):(Instr.slice 9 (.string { data:=#[48,49,50,51,52,53,54,55,56,57,97,98,99,100,101,102] }) none (some (.int .i64 10)) none).run prog w=.ok (.string (strOfNums Nu)) w:=by
 rfl
theorem OI(c:Int)(a:0<=c/\c<256)(w:World) :
  Calls prog 26 #[.string (strOfNums Nu),.int .u8 c] w λe w'=>e=.returned (.int .i64 (dgV c))/\w'=w:=by
 have h:=Ez Nu (by decide) c a w
 rwa [km c a]at h
theorem Im(c:Int)(a:0<=c/\c<256)(w:World) :
  Calls prog 26 #[.string { data:=#[48,49,50,51,52,53,54,55,56,57,97,98,99,100,101,102] },.int .u8 c] w λe w'=>e=.returned (.int .i64 (hxV c))/\w'=w:=by
 have h:=Ez XX (by decide) c a w
 rwa [ko c a]at h
theorem GL(s:List Int)(G:∀ x∈s,0<=x/\x<256)(hl:s.length<=4000000000)(B:Int)(F:0<=B)(W:B<10000000)(w:World) :
  Calls prog 46 #[.string (strOfNums s),.int .i64 B] w λe w'=>Drw w w'/\((BC s B/\e=.returned (.tuple #[.int .i64 (whV s),.bool true]))\/(¬ BC s B/\e=.returned (.tuple #[.int .i64 0,.bool false]))):=by
 have Y:=AR s;have a:Hid _:=Wi (s:=s) (B:=B) W;by_cases g:s=[]
 .have f:Hid (¬ BC s B):=λe=>(a.out.1 e).1 g;have H:=US g;have I:=(G7 s).2 g;clear g a;go_enter func46,ntmps46
  go_wp2
  go_ret2
  exact⟨Drw.refl _,.inr ⟨f.out,rfl⟩⟩
 have H:=UT g;have I:¬ (strOfNums s).toList=[]:=λe=>g ((G7 s).1 e);have O:0<s.length:=oY.2 g;have y:=ZW G O;obtain⟨c0,k⟩:∃ c,s.getD 0 0=c:=⟨_,rfl⟩;rw[k]at y
 have m:s[0]?=some c0:=by rw[<- k,nc,H' O];rfl
 by_cases j:c0=48/\1<s.length
 .obtain⟨rfl,A⟩:=j;have P:((48:Int)==48)=true:=rfl;have f:Hid (¬ BC s B):=λe=>by have:=(a.out.1 e).2.1 m;omega
  have hz1:(1:Int)<(s.length:Int):=by omega
  clear g m k a;go_enter func46,ntmps46
  go_wp2
  go_ret2
  exact⟨Drw.refl _,.inr ⟨f.out,rfl⟩⟩
 have T:Hid (s[0]?=some 48->s.length=1):=λe=>by
  rw[m]at e
  have:c0=48:=by simpa using e
  have:=λh=>j ⟨this,h⟩;omega
 have R:Hid (s≠[]):=g;have U:(((c0==48)=true)/\¬ (1:Int)<(s.length:Int))\/(c0==48)=false:=by
  by_cases e:c0=48
  .exact .inl ⟨by simpa using e,λh=>j ⟨e,by omega⟩⟩
  .exact .inr (by simpa using e)
 clear m k j g;rcases U with⟨hz0,hz1⟩|hz1
 all_goals
  go_enter func46,ntmps46
  go_wp2_with fail
  go_loopw [6,23] (λnv iv wr=>∃ i:Nat,i<=s.length/\iv=.int .i64 (i:Int)/\nv=.int .i64 (dv (s.take i))/\Hid ((∀ c∈s.take i,48<=c/\c<=57)/\dv (s.take i)<=B)/\Drw w wr) (λ_ iv _=>((s.length:Int)-intOf iv).toNat)
  case atStart=>exact⟨0,by omega,rfl,rfl,⟨λc n=>by simp at n,by simpa[dv]using F⟩,Drw.refl _⟩
  case round =>
   obtain⟨i,hin,rfl,rfl,q,N⟩:=hrel;by_cases b:i<s.length
   .have J:(i:Int)<(s.length:Int):=by omega
    have Q:=KQ G i b;have V:=ia;obtain⟨c,n⟩:∃ c,s.getD i 0=c:=⟨_,rfl⟩;rw[n]at Q
    have t:0<=c/\c<256:=by rw[<- n];exact Ae G i
    have v:c∈s:=by rw[<- n,As b];exact na b
    have S:Hid (c∈s):=v;have K:Hid (s.take (i+1)=s.take i++[c]):=by
     unfold Hid;rw[qx,H' b];rw[As b]at n
     rw[n];rfl
    have E:Hid (∀ nd,Calls prog 26 #[.string (strOfNums Nu),.int .u8 c] (wr.drewN nd) λe w'=>e=.returned (.int .i64 (dgV c))/\w'=wr.drewN nd):=λnd=>OI c t _;clear v n y t;obtain⟨d,l⟩:∃ d,dv (s.take i)=d:=⟨_,rfl⟩;have d0:0<=d:=by rw[<- l];exact ED q.out.1
    have d1:d<10000000:=by have:=q.out.2;omega
    have M:Hid (dv (s.take (i+1))=10*d+(c-48)):=by unfold Hid;rw[K.out,If,l]
    rw[l];clear l;obtain⟨u,C⟩:∃ u,dgV c=u:=⟨_,rfl⟩;have L:Hid (dgV c=u):=C;rw[C]at E
    have a0:u<10:=by
     rw[<- C];unfold dgV;split<;>omega
    clear C;go_wp2_with fail
    go_quiet ((go_at_call 26;exact Calls.quiet_of_same (E.out _)))
    have z:Drw w (wr.drewN nq):=N.more nq;generalize wr.drewN nq=WQ at z ⊢;clear nq E Q V;by_cases Z:u<0
    .have f:Hid (¬ BC s B):=λe=>by
      have A:=(a.out.1 e).2.2.1 c S.out;have r:=L.out;unfold dgV at r;rw[if_pos A]at r
      omega
     clear a;go_wp2
     go_ret2
     exact⟨z,.inr ⟨f.out,rfl⟩⟩
    .have hcu:48<=c/\c<=57/\u=c-48:=by
      have r:=L.out;unfold dgV at r;split at r<;>omega
     have D:Hid (∀ x∈s.take (i+1),48<=x/\x<=57):=λx hx=>by
      rw[K.out]at hx
      rcases Z'.1 hx with hx|hx
      .exact q.out.1 x hx
      .simp at hx;omega
     have o:Hid (dv (s.take (i+1))=10*d+u):=by unfold Hid;rw[M.out,hcu.2.2]
     clear hcu M;by_cases X:B<10*d+u
     .have f:Hid (¬ BC s B):=λe=>by
       obtain⟨_,_,A,r⟩:=a.out.1 e;have:=cO A (i+1);rw[o.out]at this
       omega
      clear a;go_wp2
      go_ret2
      exact⟨z,.inr ⟨f.out,rfl⟩⟩
     .have HD3:Hid ((∀ c∈s.take (i+1),48<=c/\c<=57)/\dv (s.take (i+1))<=B):=⟨D.out,by rw[o.out];omega⟩;clear a;go_wp2
      go_roundw
      case rel=>exact⟨i+1,by omega,by go_num,by rw[o.out],HD3,z⟩
      case measure=>simp[intOf];omega
   .obtain rfl:i=s.length:=by omega
    have J:¬ (s.length:Int)<(s.length:Int):=by omega
    rw[oZ]at q ⊢
    have p:BC s B:=a.out.2 ⟨R.out,T.out,q.out.1,q.out.2⟩;have f:Hid (BC s B/\whV s=dv s):=⟨p,Zl p⟩;clear p a;go_wp2
    go_ret2
    rw[f.out.2];exact⟨N,.inl ⟨f.out.1,rfl⟩⟩
theorem Q5(f:∀ x∈s,0<=x/\x<256)(g:s.length<=4000000000){B:Int}(a:0<=B)(d:B<10000000)(h:BC s B)(w:World) :
  Calls prog 46 #[.string (strOfNums s),.int .i64 B] w λe w'=>e=.returned (.tuple #[.int .i64 (whV s),.bool true])/\∃ m,w'=w.drewN m:=by
 refine(GL s f g B a d w).mono ?_;rintro e w' ⟨b,⟨_,rfl⟩|⟨c,_⟩⟩
 .exact⟨rfl,b⟩
 .exact absurd h c
theorem Q4(f:∀ x∈s,0<=x/\x<256)(g:s.length<=4000000000){B:Int}(a:0<=B)(d:B<10000000)(h:¬ BC s B)(w:World) :
  Calls prog 46 #[.string (strOfNums s),.int .i64 B] w λe w'=>e=.returned (.tuple #[.int .i64 0,.bool false])/\∃ m,w'=w.drewN m:=by
 refine(GL s f g B a d w).mono ?_;rintro e w' ⟨b,⟨c,_⟩|⟨_,rfl⟩⟩
 .exact absurd c h
 .exact⟨rfl,b⟩
def F6(d:List Int)(n:Nat):List Value:=d.map (Value.int .u8)++List.replicate (n-d.length) (.int .u8 0)
theorem VC(h:d.length<n)(c:Int):(F6 d n).set d.length (.int .u8 c)=F6 (d++[c]) n:=by
 unfold F6;obtain⟨m,a⟩:∃ m,n-d.length=m+1:=⟨n-d.length-1,by omega⟩;rw[a,List.replicate_succ,oD _ _ (by simp)];simp only[mU,Nat.sub_self,mM,mS,mT,nJ,I',mR,oT,nn];rw[show n-(d.length+1)=m by omega,mN,List.singleton_append]
theorem Sf(d:List Int):F6 d d.length=d.map (Value.int .u8):=by simp[F6]
theorem Sg(n:Nat):F6 [] n=List.replicate n (.int .u8 0):=by simp[F6]
theorem jY:prog.elem 41=5:=by kernel_rfl
theorem jk(w:World):(Go.sizeOf 5).run prog w=.ok 1 w:=by
 have h:=fO;cases hi:prog.info? 5 with
 | none=>rw[hi]at h;cases h
 | some i =>
  rw[hi]at h
  simp at h;simp[sizeOf,typeInfo,hi,h]
theorem WE(b n c:Nat)(i:Nat)(a:i<n)(w:World):(Instr.indexAt 41 (.slice (some ⟨b,0,none⟩) n c) (.int .i64 (i:Int))).run prog w=.ok (.pointer (some ⟨b,i,none⟩)) w:=by
 rw[run_indexAt_slice (P:=prog) w 41 _ n c .i64 _ underlying41,if_pos ⟨by omega,by omega⟩,jY,jk];simp[Result.andThen,Addr.add_mid]
theorem Vr{b:Int}(c:0<=a/\a<16)(d:0<=b/\b<16):bits .or .i64 (a*16) b=16*a+b:=by
 have key:∀ n:Nat,n<16->∀ m:Nat,m<16->bits .or .i64 ((n:Int)*16) (m:Int)=16*(n:Int)+(m:Int):=by decide +kernel
 have:=key a.toNat (by omega) b.toNat (by omega)
 rwa [nT c.1,nT d.1]at this
theorem Yo(h:d.length<n):(F6 d n)[d.length]?=some (.int .u8 0):=by
 unfold F6;rw[mQ (by simp),mU,Nat.sub_self,pE,if_pos (by omega)]
def gt(base:Nat)(s:List Int)(e:Ending)(w':World):Prop:=(∃ d v,D2 s=some d/\d.length<=2000/\e=.returned (.tuple #[v,.bool true])/\w'.ownsRow base 5 1 v d.length (d.map (Value.int .u8)))\/((∀ d,D2 s=some d->2000<d.length)/\e=.returned (.tuple #[.slice none 0 0,.bool false]))
theorem P6(s:List Int)(U:∀ x∈s,0<=x/\x<256)(hl:s.length<=4000000000)(w:World) :
  Calls prog 47 #[.string (strOfNums s)] w λe w'=>Bw w w'/\gt w.heap.size s e w':=by
 have b1:=AR s;by_cases t:s.length%2=0
 .have hov:((s.length:Int)%2 != 0)=false:=Yk (by omega);by_cases T:4000<s.length
  .have h4I:(4000:Int)<(s.length:Int):=by omega
   have C:Hid (∀ d,D2 s=some d->2000<d.length):=λd q=>by
    have:=congrArg List.length (EG q).1;rw[Dt]at this
    omega
   clear t T;go_enter func47,ntmps47
   go_wp2
   go_ret2
   exact⟨Below.refl _ _,.inr ⟨C.out,rfl⟩⟩
  .have h4I:¬ (4000:Int)<(s.length:Int):=by omega
   obtain⟨n,hn⟩:∃ n,s.length=2*n:=⟨s.length/2,by omega⟩;have HL:Hid (s.length=2*n):=hn;have V:(s.length:Int)/2=(n:Int):=by omega
   have E:n<=2000:=by omega
   clear hn t T;go_enter func47,ntmps47
   obtain⟨i0,hi,O,P,Q⟩:=info_parts Ap;go_wp2_with ((with_reducible (refine Bo ?_));refine wpList_make_full w rfl (.tmp 19) (.tmp 19) 41 rfl w.heap.size 5 i0 (.int .u8 0) 1 underlying41 hi O P _ _ _ _ n rfl rfl (by first|rfl|exact V) (by first|rfl|exact V) (by rw[Q];omega) (by unfold maxLen;omega) (A' _) ?_;intro w1 W g1)
   have HQ:Hid ((s.length:Int)/2=(n:Int)):=V;clear V;generalize (s.length:Int)/2=T1;generalize (s.length:Int)%2=T2;have d1:Bw w w1:=(Below.refl _ _).grown g1 (A' _) (by simp);have o2:Hid (w1.ownsRow w.heap.size 5 1 (.slice (some ⟨w.heap.size,0,none⟩) n n) n (F6 [] n)):=by
    unfold Hid;rw[Sg];have e:=toList_madeCells_one (.int .u8 0) n;rw[rp]at W
    simp only[Value.cells]at W
    rwa [e]at W
   clear W g1 hov h4I i0 hi O P Q
   go_loopw [23] (λjv wr=>∃ d:List Int,jv=.int .i64 (d.length:Int)/\Hid (d.length<=n/\Bm d=s.take (2*d.length)/\(∀ c∈d,0<=c/\c<256))/\Hid (wr.ownsRow w.heap.size 5 1 (.slice (some ⟨w.heap.size,0,none⟩) n n) n (F6 d n))/\Bw w wr) (λjv _=>((n:Int)-intOf jv).toNat)
   case atStart=>exact⟨[],rfl,⟨by simp,rfl,by simp⟩,o2,d1⟩
   case round =>
    clear o2 d1 w1;obtain⟨d,rfl,F,S,I⟩:=hrel;have G:=S.out;have a3:=F.out.1;clear S;obtain⟨j,hj⟩:∃ j,d.length=j:=⟨_,rfl⟩;have k:Hid (d.length=j):=hj;rw[hj]at a3 ⊢
    clear hj;by_cases D:j<n
    .have a4:(j:Int)<(n:Int):=by omega
     have u:2*j<s.length:=by have:=HL.out;omega
     have o:2*j+1<s.length:=by have:=HL.out;omega
     have i1:=KQ U (2*j) u;have i2:=KQ U (2*j+1) o;rw[show((2*j:Nat):Int)=2*(j:Int)by omega]at i1
     rw[show((2*j+1:Nat):Int)=2*(j:Int)+1 by omega]at i2
     obtain⟨c1,l⟩:∃ c,s.getD (2*j) 0=c:=⟨_,rfl⟩;obtain⟨z,m⟩:∃ c,s.getD (2*j+1) 0=c:=⟨_,rfl⟩;rw[l]at i1
     rw[m]at i2
     have A:0<=c1/\c1<256:=by rw[<- l];exact Ae U _
     have B:0<=z/\z<256:=by rw[<- m];exact Ae U _
     have R:Hid (c1∈s/\z∈s/\s.getD (2*j) 0=c1/\s.getD (2*j+1) 0=z):=⟨by rw[<- l,As u];exact na u,by rw[<- m,As o];exact na o,l,m⟩;have H:Hid (2*j+1<s.length):=o;clear l m u o;go_wp2_with fail
     refine(Im c1 A _).mono ?_;rintro e w' ⟨rfl,a6⟩;subst w';go_wp2_with fail
     refine(Im z B _).mono ?_;rintro e w' ⟨rfl,a6⟩;subst w';clear i1 i2 A B;obtain⟨f,v⟩:∃ c,hxV c1=c:=⟨_,rfl⟩;obtain⟨i,y⟩:∃ c,hxV z=c:=⟨_,rfl⟩;rw[v,y];have r:Hid (hxV c1=f/\hxV z=i):=⟨v,y⟩;have a9:f<16:=by rw[<- v];exact Y7 c1
     have b0:i<16:=by rw[<- y];exact Y7 z
     clear v y;by_cases a5:f<0
     .have C:Hid (∀ d,D2 s=some d->2000<d.length):=λd q=>by rw[Rp R.out.1 (by rw[r.out.1];exact a5)]at q;cases q
      go_wp2
      go_ret2
      exact⟨I,.inr ⟨C.out,rfl⟩⟩
     .by_cases E:i<0
      .have C:Hid (∀ d,D2 s=some d->2000<d.length):=λd q=>by rw[Rp R.out.2.1 (by rw[r.out.2];exact E)]at q;cases q
       go_wp2
       go_ret2
       exact⟨I,.inr ⟨C.out,rfl⟩⟩
      .have HS:Hid (Bm (d++[16*f+i])=s.take (2*(j+1))):=by
        have J:=F.out.2.1;rw[k.out]at J
        obtain⟨_,_,h2,h3⟩:=R.out;have T:=VO J H.out (by rw[h2,r.out.1];omega) (by rw[h3,r.out.2];omega)
        rwa [h2,h3,r.out.1,r.out.2]at T
       have L:=F.out.2.2;have Z:Hid (∀ c∈d++[16*f+i],0<=c/\c<256):=jS L (λc hc=>by simp at hc;omega);clear L F R r H;have ix:=WE w.heap.size n n j D;have a7:=Vr (a:=f) (b:=i) (by omega) (by omega);have a8:(16*f+i)%256=16*f+i:=by omega
       have cj:wr.cell? ⟨w.heap.size,j,none⟩=some (.int .u8 0):=by
        have h:=G.cells (g:=w.heap.size) rfl j (.int .u8 0) (by have:=Yo (d:=d) (n:=n) (by rw[k.out];exact D);rwa [k.out]at this);have K:(⟨w.heap.size,0,none⟩:Addr).add j=⟨w.heap.size,j,none⟩:=by unfold Addr.add;split<;>simp_all
        rwa [K]at h
       have fj:=G.frozenAt j;obtain⟨st,sg⟩:=G.stored j (.int .u8 (16*f+i));have a1:Hid ((wr.setCell ⟨w.heap.size,j,none⟩ (.int .u8 (16*f+i))).ownsRow w.heap.size 5 1 (.slice (some ⟨w.heap.size,0,none⟩) n n) n (F6 (d++[16*f+i]) n)):=by
        unfold Hid;rw[<- VC (by rw[k.out];exact D),k.out];exact st
       have X:Hid ((d++[16*f+i]).length<=n/\Bm (d++[16*f+i])=s.take (2*(d++[16*f+i]).length)/\(∀ c∈d++[16*f+i],0<=c/\c<256)):=by
        have N:(d++[16*f+i]).length=j+1:=by rw[I',k.out];rfl
        refine⟨by rw[N];omega,?_,Z.out⟩;rw[N];exact HS.out
       have a2:Bw w (wr.setCell ⟨w.heap.size,j,none⟩ (.int .u8 (16*f+i))):=I.setCell (p:=⟨w.heap.size,j,none⟩) (A' _) _;have a0:Hid ((((d++[16*f+i]).length:Nat):Int)=(j:Int)+1):=by unfold Hid;rw[I',k.out];simp
       clear st sg G I;go_wp2
       go_roundw
       case rel=>exact⟨d++[16*f+i],by rw[a0.out],X,a1,a2⟩
       case measure=>simp[intOf];omega
    .obtain rfl:j=n:=by omega
     have a4:¬ (j:Int)<(j:Int):=by omega
     have r:Hid (D2 s=some d):=by
      have J:=F.out.2.1;rw[k.out,<- HL.out,oZ]at J
      exact Y4 J F.out.2.2
     have S:Hid (wr.ownsRow w.heap.size 5 1 (.slice (some ⟨w.heap.size,0,none⟩) j j) d.length (d.map (Value.int .u8))):=by
      unfold Hid;rw[k.out,<- Sf d,k.out];exact G
     have M:d.length<=2000:=by rw[k.out];exact E
     have Y:Hid (d.length<=2000):=M;clear G M;go_wp2
     go_ret2
     exact⟨I,.inl ⟨d,_,r.out,Y.out,rfl,S.out⟩⟩
 .have hov:((s.length:Int)%2 != 0)=true:=Zi (by omega);have C:Hid (∀ d,D2 s=some d->2000<d.length):=λd q=>by rw[bk t]at q;cases q
  clear t;go_enter func47,ntmps47
  go_wp2
  go_ret2
  exact⟨Below.refl _ _,.inr ⟨C.out,rfl⟩⟩
def laA(k n a p:Int)(v:Value):Array Value:=#[.int .i64 k,.int .i64 n,.int .i64 a,.int .i64 p,v]
theorem LF:(prog.info? 43).map (·.size)=some 5:=by kernel_rfl
theorem gT:(prog.info? 41).map (·.size)=some 1:=by kernel_rfl
def laV(x:Lac)(y:Value):List Value:=[.int .i64 x.k,.int .i64 x.n,.int .i64 x.a,.int .i64 x.p,y]
def zLa:Value:=.agg #[.int .i64 0,.int .i64 0,.int .i64 0,.int .i64 0,.slice none 0 0]
theorem i6:(prog.info? 43).map (λi=>(i.zero,i.size,i.bytes))=some (some zLa,5,56):=by kernel_rfl
def mp:Lac:=⟨0,0,0,0,[]⟩
structure Sk(w:World)(x:Value)(F:Nat->Lac)(n:Nat):Prop where
 ex:∃ a cap,x=.slice a n cap/\(n=0\/∃ b off,a=some ⟨b,off,none⟩/\b<w.heap.size/\∀ i,i<n->∃ y,w.rangeAt b (off+5*i) (laV (F i) y)/\Sl w y (F i).d)
 len:n<=2513169434916
theorem Sk.ab{x:Value}(h:Sk w x F n)(e:Bw w w'):Sk w' x F n:=by
 obtain⟨⟨a,c,rfl,d⟩,f⟩:=h;refine⟨⟨a,c,rfl,?_⟩,f⟩;rcases d with d|⟨b,off,ha,hbs,hcell⟩
 .exact .inl d
 .refine .inr ⟨b,off,ha,X' hbs e.size,λi l=>?_⟩;obtain⟨y,g,k⟩:=hcell i l;exact⟨y,λj u m=>(e.cell (p:=⟨b,off+5*i+j,none⟩) hbs).trans (g j u m),k.ab e⟩
theorem Sk.shape{x:Value}(h:Sk w x F n):∃ a cap,x=.slice a n cap:=by
 obtain⟨⟨a,cap,e,_⟩,_⟩:=h;exact⟨a,cap,e⟩
theorem Sk.spot{a:Option Addr}(h:Sk w (.slice a n cap) F n)(i:Nat)(g:i<n):∃ b off xa xm xp,a=some ⟨b,off,none⟩/\b<w.heap.size/\w.rangeAt b (off+5*i) (laV (F i) (.slice xa xm xp))/\Sl w (.slice xa xm xp) (F i).d:=by
 obtain⟨⟨j,c,e,f⟩,_⟩:=h;simp only[Value.slice.injEq]at e;obtain⟨rfl,_,rfl⟩:=e;rcases f with rfl|⟨b,off,rfl,hb,hcell⟩
 .omega
 .obtain⟨y,h3,h4⟩:=hcell i g;obtain⟨xa,xp,rfl⟩:=h4.kn;exact⟨b,off,xa,_,xp,rfl,hb,h3,h4⟩
def laF(l:List Lac):Nat->Lac:=λi=>l.getD i mp
theorem FQ{l:List Lac}(h:i<l.length):laF l i=l[i]:=by simp[laF,List.getD,List.getElem?_eq_getElem h]
theorem Qj{l:List Lac}{x:Lac}(h:i<l.length):laF (l++[x]) i=laF l i:=by
 rw[FQ h,FQ (by simp;omega)];exact List.getElem_append_left h
theorem Qi(l:List Lac)(x:Lac):laF (l++[x]) l.length=x:=by simp[laF,List.getD]
def acL(F:Nat->Lac)(Y:Nat->Value):Nat->List Value
 | 0=>[]
 | n+1=>acL F Y n++laV (F n) (Y n)
theorem GX(F:Nat->Lac)(Y:Nat->Value)(n:Nat):(acL F Y n).length=5*n:=by
 induction n with
 | zero=>rfl
 | succ n ih=>rw[acL,I',ih];show _+5=_;omega
theorem bO(F:Nat->Lac)(Y:Nat->Value){n i j:Nat}{u:Value}(c:i<n)(a:(laV (F i) (Y i))[j]?=some u):(acL F Y n)[5*i+j]?=some u:=by
 have b:j<5:=(Q'.1 a).1;induction n with
 | zero=>omega
 | succ n ih =>
  rw[acL];by_cases e:i=n
  .subst e;rw[mQ (by rw[GX];omega),GX,show 5*i+j-5*i=j by omega];exact a
  .rw[mP (by rw[GX];omega)];exact ih (by omega)
theorem Vj{F':Nat->Lac}{Y':Nat->Value}(h:∀ i,i<n->Y i=Y' i)(g:∀ i,i<n->F i=F' i):acL F Y n=acL F' Y' n:=by
 induction n with
 | zero=>rfl
 | succ n ih=>rw[acL,acL,ih (λi a=>h i (by omega)) (λi a=>g i (by omega)),h n (by omega),g n (by omega)]
def laY(Y:Nat->Value)(n:Nat)(v:Value):Nat->Value:=λi=>if i=n then v else Y i
theorem YI(Y:Nat->Value)(n:Nat)(v:Value):laY Y n v n=v:=if_pos rfl
theorem YJ(Y:Nat->Value){n i:Nat}(v:Value)(h:i≠n):laY Y n v i=Y i:=if_neg h
theorem Xr(l:List Lac)(x:Lac)(Y:Nat->Value)(v:Value):acL (laF (l++[x])) (laY Y l.length v) (l.length+1)=acL (laF l) Y l.length++laV x v:=by
 rw[acL,YI,Qi,Vj (Y':=Y) (F':=laF l) (λi a=>YJ Y v (by omega)) (λi a=>Qj a)]
def Km(w:World)(F:Nat->Lac)(Y:Nat->Value)(n:Nat):Prop:=∀ i,i<n->w.ownsRow 0 5 1 (Y i) (F i).d.length ((F i).d.map (Value.int .u8))/\(F i).d.length<=140737488351232/\∀ x∈(F i).d,0<=x/\x<256
theorem Km.ab(h:Km w F Y n)(b:Bw w w'):Km w' F Y n:=λi a =>
 ⟨Ar (h i a).1 (λk c=>b.block k ((h i a).1.lt k c).2),(h i a).2⟩
theorem Km.grown(h:Km w F Y n){b e k m:Nat}{u:Value}{g:List Value}(f:w.ownsRow b e k u m g)(c:5≠e)(d:w.grownBy w' u.ownBlock):Km w' F Y n:=λi a =>
 ⟨Ki (h i a).1 d (Oi (h i a).1 f c),(h i a).2⟩
theorem Km.snoc{l:List Lac}{x:Lac}(h:Km w (laF l) Y l.length){v:Value}(a:w.ownsRow 0 5 1 v x.d.length (x.d.map (Value.int .u8))/\x.d.length<=140737488351232/\∀ c∈x.d,0<=c/\c<256):Km w (laF (l++[x])) (laY Y l.length v) (l.length+1):=λi b=>by
 by_cases e:i=l.length
 .subst e;rw[YI,Qi];exact a
 .rw[YJ Y v e,Qj (by omega)];exact h i (by omega)
theorem YK{c:List Value}(h:w.ownsRow base e m v n c)(i:0<n):∃ b cap,v=.slice (some ⟨b,0,none⟩) n cap/\b<w.heap.size/\base<=b/\∀ j u,c[j]?=some u->w.cell? ⟨b,j,none⟩=some u:=by
 rcases h.2 with⟨_,h0⟩|⟨q,cap,cur,rfl,hb,hg,_⟩
 .omega
 .refine⟨q,cap,rfl,(D'.1 hg).1,hb,λj u f=>?_⟩;have d:=h.cells (g:=q) rfl j u f;have a:(⟨q,0,none⟩:Addr).add j=⟨q,j,none⟩:=by unfold Addr.add;split<;>simp_all
  rwa [a]at d
theorem Sk.sX(h:w.ownsRow base 43 5 v n (acL F Y n))(d:Km w F Y n)(k:n<=2513169434916):Sk w v F n:=by
 refine⟨?_,k⟩;by_cases e:n=0
 .obtain⟨g,c,rfl⟩:=Bf h;exact⟨g,c,rfl,.inl e⟩
 .obtain⟨b,cap,rfl,hb,_,hr⟩:=YK h (by omega);refine⟨_,cap,rfl,.inr ⟨b,0,rfl,hb,λi a=>⟨Y i,λj u f=>?_,Sl.eD (d i a).1 (d i a).2.1 (d i a).2.2⟩⟩⟩;rw[nn];exact hr _ _ (bO F Y a f)
theorem il:prog.elem 23=43:=by kernel_rfl
theorem jn(w:World):(Go.sizeOf 43).run prog w=.ok 5 w:=by
 have h:(prog.info? 43).map (·.size)=some 5:=by kernel_rfl
 cases hi:prog.info? 43 with
 | none=>rw[hi]at h;cases h
 | some i =>
  rw[hi]at h
  simp at h;simp[sizeOf,typeInfo,hi,h]
theorem WH(b o n c:Nat)(i:Nat)(a:i<n)(w:World):(Instr.indexAt 23 (.slice (some ⟨b,o,none⟩) n c) (.int .i64 (i:Int))).run prog w=.ok (.pointer (some ⟨b,o+5*i,none⟩)) w:=by
 rw[run_indexAt_slice (P:=prog) w 23 _ n c .i64 _ underlying23,if_pos ⟨by omega,by omega⟩,il,jn];simp[Result.andThen,Addr.add_mid,Nat.mul_comm]
def jD(base:Nat)(k:Int)(ps:List (List Int))(e:Ending)(w':World):Prop:=(∃ x y,GoodPc k ps x/\e=.returned (.tuple #[.agg #[.int .i64 x.k,.int .i64 x.n,.int .i64 x.a,.int .i64 x.p,y],.bool true])/\w'.ownsRow base 5 1 y x.d.length (x.d.map (Value.int .u8)))\/((∀ x,¬ GoodPc k ps x)/\e=.returned (.tuple #[zLa,.bool false]))
def paA(k:Int)(g:Nat->Int):Array Value:=#[.int .i64 k,.int .i64 (g 0),.int .i64 (g 1),.int .i64 (g 2),.slice none 0 0]
theorem ed(k:Int)(g:Nat->Int){i:Nat}(h:i<3)(v:Int):(paA k g).setIfInBounds (i+1) (.int .i64 v)=paA k (λj=>if j=i then v else g j):=by
 rcases(by omega:i=0\/i=1\/i=2)with rfl|rfl|rfl<;>simp[paA]
theorem Zv(k:Int)(g:Nat->Int){i:Nat}(h:i<3):(paA k g)[i+1]?=some (.int .i64 (g i)):=by
 rcases(by omega:i=0\/i=1\/i=2)with rfl|rfl|rfl<;>simp[paA]
def gF(k:Int)(ps:List (List Int))(i:Nat):Nat->Int:=λj=>if j<i then Ci k ps j else 0
theorem cZ(h:i<3)(v:Int)(a:Ci k ps i=v):paA k (λj=>if j=i then v else gF k ps i j)=paA k (gF k ps (i+1)):=by
 unfold paA gF;rcases(by omega:i=0\/i=1\/i=2)with rfl|rfl|rfl<;>simp[a]
theorem cY(h:i<3)(a:Ci k ps i=0):paA k (gF k ps i)=paA k (gF k ps (i+1)):=by
 unfold paA gF;rcases(by omega:i=0\/i=1\/i=2)with rfl|rfl|rfl<;>simp[a]
theorem da(k:Int)(a:List (List Int)):paA k (gF k a 0)=#[.int .i64 k,.int .i64 0,.int .i64 0,.int .i64 0,.slice none 0 0]:=by simp[paA,gF]
theorem iq(k:Int)(a:List (List Int)):paA k (gF k a 3)=#[.int .i64 k,.int .i64 (Ci k a 0),.int .i64 (Ci k a 1),.int .i64 (Ci k a 2),.slice none 0 0]:=by simp[paA,gF]
theorem CG:(prog.info? 43).map (·.size)=some 5:=by kernel_rfl
theorem gR(j:Nat):0<=Eu j/\Eu j<10000000:=by
 unfold Eu;split
 .omega
 .split<;>omega
theorem Kp(k:Nat)(h1:1<=k)(h9:k<10)(v:Value)(a:List (List Int))(hb:∀ x∈a,∀ c∈x,0<=c/\c<256)(hl:∀ x∈a,x.length<=4000000)(hn:(a.length:Int)+1=npc (k:Int))(w:World)(hv:Ss w v a)(ht:LWTab w)(b5:LBTab w) :
  Calls prog 32 #[.int .i64 (k:Int),v] w λe w'=>Bw w w'/\jD w.heap.size (k:Int) a e w':=by
 obtain⟨gb,go,gc,rfl,gl,c7⟩:=hv.shape;have HV:Hid (Ss w (.slice (some ⟨gb,go,none⟩) a.length gc) a):=hv;have HB:Hid (∀ x∈a,∀ c∈x,0<=c/\c<256):=hb;have a8:Hid (∀ x∈a,x.length<=4000000):=hl;have HN:Hid ((a.length:Int)+1=npc (k:Int)):=hn;have HT:Hid (LWTab w/\LBTab w):=⟨ht,b5⟩;clear hv hb hl hn ht b5;obtain⟨m,hm⟩:∃ m,a.length=m:=⟨_,rfl⟩;have HM:Hid (a.length=m):=hm;rw[hm]at HV c7 ⊢
 have d8:m<=4000000000:=by have:=HV.out.len;omega
 clear hm;obtain⟨W0,J⟩:∃ W0,(w.alloc (.cells #[.int .i64 0,.int .i64 0,.int .i64 0,.int .i64 0,.slice none 0 0] 43)).alloc (.cells #[.int .i64 (k:Int),.int .i64 0,.int .i64 0,.int .i64 0,.slice none 0 0] 43)=W0:=⟨_,rfl⟩;have r0:W0.heap[w.heap.size]?=some (.cells #[.int .i64 0,.int .i64 0,.int .i64 0,.int .i64 0,.slice none 0 0] 43):=by rw[<- J];exact Mo _ _ _
 have q0:W0.heap[w.heap.size+1]?=some (.cells #[.int .i64 (k:Int),.int .i64 0,.int .i64 0,.int .i64 0,.slice none 0 0] 43):=by rw[<- J];exact Hu _ _ _
 have d0:Bw w W0:=by rw[<- J];exact J3 _ _ _
 have b4:Hid _:=J;clear J;go_enter func32,ntmps32
 go_wp2_with fail
 rw[b4.out];clear b4;refine(Ip (w.heap.size+1) W0).mono ?_;rintro e w1 ⟨rfl,b1⟩;have r1:=(b1.block _ (D'.1 r0).1).trans r0;have q1:=(b1.block _ (D'.1 q0).1).trans q0;have d1:=d0.trans (b1.mono d0.size);clear r0 q0 d0 b1;rw[<- da (k:Int) a]at q1
 have b2:Hid _:=r1;have b0:Hid _:=q1;clear r1 q1;have c5:(#[.int .i64 0,.int .i64 0,.int .i64 0,.int .i64 0,.slice none 0 0]:Array Value).all (·.oneCell')=true:=by simp[Value.oneCell']
 go_wp2_with fail
 go_loopw [7,17] (λnv iv wr=>∃ i s:Nat,i<=3/\iv=.int .i64 (i:Int)/\nv=.int .i64 (s:Int)/\Hid (s=Cr (k:Int) i/\∀ j,j<i->Cc j (k:Int)=true->BC (a.getD (Cr (k:Int) j) []) (Eu j))/\Hid (wr.heap[w.heap.size]?=some (.cells #[.int .i64 0,.int .i64 0,.int .i64 0,.int .i64 0,.slice none 0 0] 43))/\Hid (wr.heap[w.heap.size+1]?=some (.cells (paA (k:Int) (gF (k:Int) a i)) 43))/\Bw w wr) (λ_ iv _=>(3-intOf iv).toNat)
 case atStart=>exact⟨0,0,by omega,rfl,rfl,⟨(Vz _).symm,λj hj=>by omega⟩,b2,b0,d1⟩
 case round =>
  clear b2 b0 d1 w1;obtain⟨i,s,d7,rfl,rfl,r,X,O,E⟩:=hrel;by_cases f:i<3
  .have c9:(i:Int)<3:=by omega
   have b8:=Qq (w.heap.size+1) i f;have c4:=EQ k h9;have c3:=Od k i f;have tw:=HT.out.1.ab E;have tb:=HT.out.2.ab E;have G:=tw.has k i h9 f;obtain⟨b,q⟩:∃ b,Cc i (k:Int)=b:=⟨_,rfl⟩;rw[q]at G
   cases b with
   | false =>
    have b6:Ci (k:Int) a i=0:=by unfold Ci;rw[q];simp
    have W:Hid (wr.heap[w.heap.size+1]?=some (.cells (paA (k:Int) (gF (k:Int) a (i+1))) 43)):=by unfold Hid;rw[<- cY f b6];exact O.out
    have Z:Hid (s=Cr (k:Int) (i+1)/\∀ j,j<i+1->Cc j (k:Int)=true->BC (a.getD (Cr (k:Int) j) []) (Eu j)):=by
     refine⟨?_,λj hj hu=>?_⟩
     .rw[Nq f,q,r.out.1];simp
     .by_cases e:j=i
      .rw[e,q]at hu;cases hu
      .exact r.out.2 j (by omega) hu
    clear r O b6 q tw tb;go_wp2
    go_roundw
    case rel=>exact⟨i+1,s,by omega,by go_num,rfl,Z,X,W,E⟩
    case measure=>simp[intOf];omega
   | true =>
    have c8:Cr (k:Int) i<Cr (k:Int) 3:=cG f q;have K:s<a.length:=by
     have e1:=r.out.1;have L:=HN.out;rw[kD]at L
     split at L<;>omega
    have c0:s<m:=by rw[<- HM.out];exact K
    obtain⟨n,o⟩:∃ x,a.getD s []=x:=⟨_,rfl⟩;have l:n∈a:=by rw[<- o,Ik K];exact na K
    have u:=HB.out n l;have A:n.length<=4000000000:=by have:=a8.out n l;omega
    have P:wr.cell? ⟨gb,go+s,none⟩=some (.string (strOfNums n)):=by
     have h:=(HV.out.ab E).at s K
     rwa [o]at h
    have U:=Jo gb go m gc s c0;have c2:=WG i f;have cb:=tb.sE i f;obtain⟨a0,a1⟩:=gR i;obtain⟨B,a2⟩:∃ B,Eu i=B:=⟨_,rfl⟩;rw[a2]at cb a0 a1
    have t:Hid (a.getD (Cr (k:Int) i) []=n):=by unfold Hid;rw[<- r.out.1];exact o
    have a5:Hid (Eu i=B):=a2;have Y:Hid (Cc i (k:Int)=true):=q;have ff:∀ j,wr.frozen? ⟨w.heap.size+1,j,none⟩=false:=λj=>frozen_of_row _ _ j _ _ O.out;have ca:wr.cell? ⟨w.heap.size+1,i+1,none⟩=some (.int .i64 (gF (k:Int) a i i)):=(cell_of_row _ _ (i+1) _ _ _ O.out).trans (Zv _ _ f);clear o l a2 q tw tb c8 K;by_cases C:BC n B
    .have HC:Hid (∀ nd,Calls prog 46 #[.string (strOfNums n),.int .i64 B] (wr.drewN nd) λe w'=>e=.returned (.tuple #[.int .i64 (whV n),.bool true])/\∃ m,w'=(wr.drewN nd).drewN m):=λnd=>Q5 u A a0 a1 C _;have N:Hid (BC n B):=C;have a6:Hid (Ci (k:Int) a i=whV n):=by unfold Hid Ci;rw[Y.out,if_pos rfl,t.out]
     clear C u A;obtain⟨z,hz⟩:∃ z,whV n=z:=⟨_,rfl⟩;rw[hz]at HC a6
     clear hz;go_wp2_with fail
     go_quiet ((go_at_call 46;exact Calls.quiet_of (HC.out _)))
     have dQ:Bw w (wr.drewN nq):=Ak E nq;have D:(wr.drewN nq).heap[w.heap.size]?=_:=X.out;have F:(wr.drewN nq).heap[w.heap.size+1]?=_:=O.out;generalize wr.drewN nq=WQ at dQ D F ⊢;clear nq HC U c2 cb P ca ff X O G b8 c4 c3;have ca:WQ.cell? ⟨w.heap.size+1,i+1,none⟩=some (.int .i64 (gF (k:Int) a i i)):=(cell_of_row _ _ (i+1) _ _ _ F).trans (Zv _ _ f);have ff:WQ.frozen? ⟨w.heap.size+1,i+1,none⟩=false:=frozen_of_row _ _ (i+1) _ _ F;have W:Hid ((WQ.setCell ⟨w.heap.size+1,i+1,none⟩ (.int .i64 z)).heap[w.heap.size+1]?=some (.cells (paA (k:Int) (gF (k:Int) a (i+1))) 43)):=by
      unfold Hid;rw[heap_setCell_same _ _ (i+1) _ _ _ F,ed _ _ f,cZ f z a6.out]
     have c6:Hid ((WQ.setCell ⟨w.heap.size+1,i+1,none⟩ (.int .i64 z)).heap[w.heap.size]?=some (.cells #[.int .i64 0,.int .i64 0,.int .i64 0,.int .i64 0,.slice none 0 0] 43)):=(heap_setCell_other _ _ _ _ (by simp)).trans D;have d2:Bw w (WQ.setCell ⟨w.heap.size+1,i+1,none⟩ (.int .i64 z)):=dQ.setCell (p:=⟨w.heap.size+1,i+1,none⟩) (by simp) _;have Z:Hid (s+1=Cr (k:Int) (i+1)/\∀ j,j<i+1->Cc j (k:Int)=true->BC (a.getD (Cr (k:Int) j) []) (Eu j)):=by
      refine⟨?_,λj hj hu=>?_⟩
      .rw[Nq f,Y.out,r.out.1];simp
      .by_cases e:j=i
       .rw[e,t.out,a5.out];exact N.out
       .exact r.out.2 j (by omega) hu
     clear r D F dQ;go_wp2
     go_roundw
     case rel=>exact⟨i+1,s+1,by omega,by go_num,by go_num,Z,c6,W,d2⟩
     case measure=>simp[intOf];omega
    .have HC:Hid (∀ nd,Calls prog 46 #[.string (strOfNums n),.int .i64 B] (wr.drewN nd) λe w'=>e=.returned (.tuple #[.int .i64 0,.bool false])/\∃ m,w'=(wr.drewN nd).drewN m):=λnd=>Q4 u A a0 a1 C _;have M:Hid (∀ x,¬ GoodPc (k:Int) a x):=λx g=>C (by have h:=g.ok i f Y.out;rwa [t.out,a5.out]at h);clear C u A r;go_wp2_with fail
     go_quiet ((go_at_call 46;exact Calls.quiet_of (HC.out _)))
     have dQ:Bw w (wr.drewN nq):=Ak E nq;have D:(wr.drewN nq).heap[w.heap.size]?=_:=X.out;generalize wr.drewN nq=WQ at dQ D ⊢;clear nq HC U c2 cb P ca ff X O G b8 c4 c3;go_wp2_with ((with_reducible (refine Bo ?_));refine wpList_store_row rfl 43 (.tmp 4) (.tmp 41) rfl w.heap.size #[.int .i64 0,.int .i64 0,.int .i64 0,.int .i64 0,.slice none 0 0] rfl rfl 43 _ D CG rfl c5 ?_)
     refine bodyPost_ret (ES rfl _ _ w.heap.size 43 _ (0,0) _ rfl (setRow_heap _ w.heap.size _ (#[.int .i64 0,.int .i64 0,.int .i64 0,.int .i64 0,.slice none 0 0]) 43 _ D) underlying43 rfl CG) rfl ?_;exact⟨Aq dQ (A' _) _,.inr ⟨M.out,rfl⟩⟩
  .obtain rfl:i=3:=by omega
   have c9:¬ ((3:Nat):Int)<3:=by omega
   have D:=X.out;have F:=O.out;rw[iq]at F
   clear X O;go_wp2_with fail
   refine(Jh _ _).mono ?_;rintro e w' ⟨rfl,d9⟩;subst w';by_cases V:(k:Int)=1
   .rw[Yj V];have T:Aw (k:Int)=true/\AA (k:Int)=false/\AC (k:Int)=false:=by rw[V];simp[Aw,AA,AC]
    have a3:Cr (k:Int) 3=1:=by simp[Cr,T.1,T.2.1,T.2.2]
    have d6:s=1:=by rw[r.out.1,a3]
    subst d6;have c1:a.length=2:=by
     have L:=HN.out;rw[kD,a3,if_pos V]at L
     omega
    have d5:m=2:=by rw[<- HM.out];exact c1
    obtain⟨n,o⟩:∃ x,a.getD 1 []=x:=⟨_,rfl⟩;have l:n∈a:=by rw[<- o,Ik (by omega)];exact na _
    have u:=HB.out n l;have A:n.length<=4000000000:=by have:=a8.out n l;omega
    have P:wr.cell? ⟨gb,go+1,none⟩=some (.string (strOfNums n)):=by
     have h:=(HV.out.ab E).at 1 (by omega)
     rwa [o]at h
    have U:=Ty gb go m gc (by omega);have t:Hid (a.getD 1 []=n):=o;have a7:Hid ((k:Int)=1):=V;have N:=r.out.2;have a9:Hid _:=N;clear o l T a3 c1 d5 r V N;go_wp2_with fail
    have b9:=E.size;refine(P6 n u A _).mono ?_;rintro e w3 ⟨b3,b7⟩;have d3:=E.trans (b3.mono E.size);have r3:=(b3.block _ (D'.1 D).1).trans D;have q3:=(b3.block _ (D'.1 F).1).trans F;clear D F b3 U P E;rcases b7 with⟨d,y,hd,hdl,rfl,oy⟩|⟨hno,rfl⟩
    .have M:Hid (GoodPc (k:Int) a ⟨k,Ci k a 0,Ci k a 1,Ci k a 2,d⟩):=⟨rfl,rfl,rfl,rfl,a9.out,λ_=>by rw[t.out];exact hd,λe=>absurd a7.out e,hdl⟩;clear hd;obtain⟨I,H,rfl⟩:=Bf oy;obtain⟨Q,e0⟩:∃ z,Ci (k:Int) a 0=z:=⟨_,rfl⟩;obtain⟨R,e1⟩:∃ z,Ci (k:Int) a 1=z:=⟨_,rfl⟩;obtain⟨S,L⟩:∃ z,Ci (k:Int) a 2=z:=⟨_,rfl⟩;rw[e0,e1,L]at M q3
     clear e0 e1 L
     go_upto_region 18 with((with_reducible (refine Bo ?_));refine JB rfl 41 (.tmp 62) (.tmp 61) rfl (w.heap.size+1) 4 (.slice I d.length H) _ rfl rfl (cell_of_row _ _ 4 _ _ _ q3) (frozen_of_row _ _ 4 _ _ q3) gT rfl ?_)
     have q4:(w3.setCell ⟨w.heap.size+1,4,none⟩ (.slice I d.length H)).heap[w.heap.size+1]?=some (.cells #[.int .i64 (k:Int),.int .i64 Q,.int .i64 R,.int .i64 S,.slice I d.length H] 43):=(heap_setCell_same _ _ 4 _ _ _ q3).trans rfl;have r4:=(heap_setCell_other w3 ⟨w.heap.size+1,4,none⟩ w.heap.size (.slice I d.length H) (by simp)).trans r3;have d4:Bw w (w3.setCell ⟨w.heap.size+1,4,none⟩ (.slice I d.length H)):=d3.setCell (p:=⟨w.heap.size+1,4,none⟩) (by simp) _;have o4:=Mn (CB oy b9) q3 (by decide) 4 (.slice I d.length H);generalize w3.setCell ⟨w.heap.size+1,4,none⟩ (.slice I d.length H)=W4 at q4 r4 d4 o4 ⊢;clear q3 r3 d3 oy;have a4:(#[.int .i64 (k:Int),.int .i64 Q,.int .i64 R,.int .i64 S,.slice I d.length H]:Array Value).all (·.oneCell')=true:=by simp[Value.oneCell']
     go_wp2_with ((with_reducible (refine Bo ?_));first|(refine wpList_load_row rfl 43 _ rfl (w.heap.size+1) rfl 43 _ (0,0) _ q4 underlying43 rfl CG ?_)|(refine wpList_store_row rfl 43 (.tmp 4) (.tmp 63) rfl w.heap.size #[.int .i64 (k:Int),.int .i64 Q,.int .i64 R,.int .i64 S,.slice I d.length H] rfl rfl 43 _ r4 CG rfl a4 ?_))
     have o5:=J1 o4 r4 (by decide) #[.int .i64 (k:Int),.int .i64 Q,.int .i64 R,.int .i64 S,.slice I d.length H];refine bodyPost_ret (ES rfl _ _ w.heap.size 43 _ (0,0) _ rfl (setRow_heap _ w.heap.size _ (#[.int .i64 (k:Int),.int .i64 Q,.int .i64 R,.int .i64 S,.slice I d.length H]) 43 _ r4) underlying43 rfl CG) rfl ?_;exact⟨Aq d4 (A' _) _,.inl ⟨_,_,M.out,rfl,o5⟩⟩
    .have M:Hid (∀ x,¬ GoodPc (k:Int) a x):=λx g=>by
      have h1:=g.d1 a7.out;rw[t.out]at h1
      have h2:=hno _ h1;have h3:=g.dl;omega
     clear hno;go_wp2_with ((with_reducible (refine Bo ?_));refine wpList_store_row rfl 43 (.tmp 4) (.tmp 60) rfl w.heap.size #[.int .i64 0,.int .i64 0,.int .i64 0,.int .i64 0,.slice none 0 0] rfl rfl 43 _ r3 CG rfl c5 ?_)
     refine bodyPost_ret (ES rfl _ _ w.heap.size 43 _ (0,0) _ rfl (setRow_heap _ w.heap.size _ (#[.int .i64 0,.int .i64 0,.int .i64 0,.int .i64 0,.slice none 0 0]) 43 _ r3) underlying43 rfl CG) rfl ?_;exact⟨Aq d3 (A' _) _,.inr ⟨M.out,rfl⟩⟩
   .rw[SM V];have M:Hid (GoodPc (k:Int) a ⟨k,Ci k a 0,Ci k a 1,Ci k a 2,[]⟩):=⟨rfl,rfl,rfl,rfl,r.out.2,λe=>absurd e V,λ_=>rfl,by simp⟩;clear r V;obtain⟨Q,e0⟩:∃ z,Ci (k:Int) a 0=z:=⟨_,rfl⟩;obtain⟨R,e1⟩:∃ z,Ci (k:Int) a 1=z:=⟨_,rfl⟩;obtain⟨S,L⟩:∃ z,Ci (k:Int) a 2=z:=⟨_,rfl⟩;rw[e0,e1,L]at M F
    clear e0 e1 L;have a4:(#[.int .i64 (k:Int),.int .i64 Q,.int .i64 R,.int .i64 S,.slice none 0 0]:Array Value).all (·.oneCell')=true:=by simp[Value.oneCell']
    go_wp2_with ((with_reducible (refine Bo ?_));first|(refine wpList_load_row rfl 43 _ rfl (w.heap.size+1) rfl 43 _ (0,0) _ F underlying43 rfl CG ?_)|(refine wpList_store_row rfl 43 (.tmp 4) (.tmp 63) rfl w.heap.size #[.int .i64 (k:Int),.int .i64 Q,.int .i64 R,.int .i64 S,.slice none 0 0] rfl rfl 43 _ D CG rfl a4 ?_))
    refine bodyPost_ret (ES rfl _ _ w.heap.size 43 _ (0,0) _ rfl (setRow_heap _ w.heap.size _ (#[.int .i64 (k:Int),.int .i64 Q,.int .i64 R,.int .i64 S,.slice none 0 0]) 43 _ D) underlying43 rfl CG) rfl ?_;exact⟨Aq E (A' _) _,.inl ⟨_,_,M.out,rfl,World.ownsRow_nil _ _ _ _⟩⟩
end
end
section
theorem ZN{s b:List Int}{c:List (List Int)}{x:Lac}(g:splitB s=b::c)(h:rdL s=some x):AM b=x.k/\(c.length:Int)+1=npc x.k/\1<=x.k/\x.k<=9:=by
 obtain⟨a,f⟩:=KP.1 h;have e:=(Eg a.2).1 f;rw[g]at e
 unfold Ce at e;simp only[nt]at e;refine⟨by rw[e.1];exact He a.1.k,?_,a.1.k⟩;rw[e.2];unfold npc AN;cases Aw x.k<;>cases AA x.k<;>cases AC x.k<;>by_cases d:x.k=1<;>simp[d]<;>omega
theorem iM{k:Int}(a:1<=k)(b:k<=9):1<=npc k/\npc k<=3:=by
 rcases NI ⟨a,b⟩with rfl|rfl|rfl|rfl|rfl|rfl|rfl|rfl|rfl<;>decide
end
section
open Go.RowKit
def jC(base:Nat)(t:List Int)(e:Ending)(w':World):Prop:=(∃ b x y,t=b++[10]/\rdL b=some x/\e=.returned (.tuple #[.agg #[.int .i64 x.k,.int .i64 x.n,.int .i64 x.a,.int .i64 x.p,y],.bool true])/\w'.ownsRow base 5 1 y x.d.length (x.d.map (Value.int .u8)))\/((∀ b x,t=b++[10]->rdL b≠some x)/\e=.returned (.tuple #[zLa,.bool false]))
theorem Mi{a b:List Int}{c:Int}(h:a++[c]=b++[c]):a=b:=(List.append_inj' h rfl).1
theorem Ss.rest{w:World}{b o n c:Nat}{l:List (List Int)}(h:Ss w (.slice (some ⟨b,o,none⟩) n c) l)(m:1<=n) :
  ∃ a' c',(∀ W,(Instr.slice 90 (.slice (some ⟨b,o,none⟩) n c) (some (.int .i64 1)) none none).run prog W=.ok (.slice a' (n-1) c') W)/\Ss w (.slice a' (n-1) c') (l.drop 1):=by
 have j:=h;obtain⟨⟨p,t,c',e,g,q,r⟩,s⟩:=h;simp only[Value.slice.injEq,P',Addr.mk.injEq]at e;obtain⟨⟨rfl,rfl,_⟩,rfl,rfl⟩:=e;have f:prog.elem 90=9:=Us;have a:∀ W,(Instr.slice 90 (.slice (some ⟨b,o,none⟩) l.length c) (some (.int .i64 1)) none none).run prog W=.ok (sliced (some ⟨b,o,none⟩) 1 l.length c 1) W:=λW=>by
  rw[run_slice_l (P:=prog) W 90 _ _ c underlying90 .i64 _ (by omega) (by omega),f,aF];simp[Result.andThen]
 by_cases d:c=1
 .subst d;refine⟨some ⟨b,o,none⟩,0,λW=>?_,?_⟩
  .rw[a W];simp[sliced]
  .have hl:l.length=1:=by omega
   refine⟨⟨b,o,0,by rw[mJ],g,by rw[mJ];omega,λi k=>?_⟩,by rw[mJ];omega⟩;rw[mJ]at k
   omega
 .refine⟨some ⟨b,o+1,none⟩,c-1,λW=>?_,j.drop 1 m⟩;rw[a W];simp[sliced,Addr.add_mid,d]
theorem MI(s:List Int)(c:∀ x∈s,0<=x/\x<256)(a:s.length<=140737488351232)(w:World) :
  Calls prog 27 #[.string (strOfNums s),.string { data:=#[10] }] w λe w'=>(∃ b,s=b++[10]/\e=.returned (.tuple #[.string (strOfNums b),.bool true])/\w'=w)\/((∀ b,s≠b++[10])/\e=.returned (.tuple #[.string (strOfNums s),.bool false])/\w'=w):=MH s c a w
theorem T8(s:List Int)(c:∀ x∈s,0<=x/\x<256)(a:s.length<=4000000)(w:World)(b:Hid (∃ m,w.cell? ⟨2,0,none⟩=some (.int .i64 m))) :
  Calls prog 28 #[.string (strOfNums s),.string { data:=#[32] },.int .i64 6] w λe w'=>∃ v,e=.returned v/\Ss w' v (Ca 5 s)/\Bw w w':=T7 s c a w b
structure LMTab(w:World):Prop where
 lt:2<w.heap.size
 max:Hid (∃ m,w.cell? ⟨2,0,none⟩=some (.int .i64 m))
theorem LMTab.ab{w b:World}(h:LMTab w)(a:Bw w b):LMTab b :=
 ⟨X' h.lt a.size,by obtain⟨m,c⟩:=h.max.out;exact⟨m,(a.cell (p:=⟨2,0,none⟩) h.lt).trans c⟩⟩
structure LTabs(w:World):Prop where
 tw:LWTab w
 tb:LBTab w
 tm:LMTab w
theorem LTabs.ab{w b:World}(h:LTabs w)(a:Bw w b):LTabs b:=⟨h.tw.ab a,h.tb.ab a,h.tm.ab a⟩
theorem Vk(t:List Int)(hb:∀ x∈t,0<=x/\x<256)(hl:t.length<=4000000)(w:World)(ht:LTabs w) :
  Calls prog 14 #[.string (strOfNums t)] w λe w'=>Bw w w'/\jC w.heap.size t e w':=by
 obtain⟨H,q⟩:∃ H,w.alloc (.cells #[.int .i64 0,.int .i64 0,.int .i64 0,.int .i64 0,.slice none 0 0] 43)=H:=⟨_,rfl⟩;have X:H.heap[w.heap.size]?=some (.cells #[.int .i64 0,.int .i64 0,.int .i64 0,.int .i64 0,.slice none 0 0] 43):=by rw[<- q];exact CD _ _
 have K:Bw w H:=by rw[<- q];exact BF _ _
 have J:Hid _:=q;have I:Hid (LTabs w):=ht;clear q ht;have A:(#[.int .i64 0,.int .i64 0,.int .i64 0,.int .i64 0,.slice none 0 0]:Array Value).all (·.oneCell')=true:=by simp[Value.oneCell']
 go_enter func14,ntmps14
 go_wp2_with fail
 rw[J.out];clear J;refine(MI t hb (by omega) H).mono ?_;rintro e w1 (⟨b,r,rfl,a3⟩|⟨h,rfl,a3⟩)
 .subst w1;have p:Hid (t=b++[10]):=r;have F:∀ x∈b,0<=x/\x<256:=λx W=>hb x (by rw[r];simp[W]);have O:b.length<=4000000:=by rw[r]at hl;simp at hl;omega
  clear r;obtain⟨n,rest,z⟩:=np (BP b);have C:Hid (splitB b=n::rest):=z;have a2:∀ c∈n,0<=c/\c<256:=λc hc=>F c (Mk b n (by rw[z];simp) c hc);obtain⟨o,u⟩:=QY 4 b z;have HP:Hid (Ca 5 b=n::o):=u;clear z u;go_wp2_with fail
  refine(T8 b F O H (I.out.ab K).tm.max).mono ?_;rintro e w2 ⟨v,rfl,d,b2⟩;rw[HP.out]at d
  obtain⟨gb,go,gc,rfl,gl,a1⟩:=d.shape;have G:=(b2.block _ (D'.1 X).1).trans X;have l:=K.trans (b2.mono K.size);clear b2 K X;have c0:w2.cell? ⟨gb,go,none⟩=some (.string (strOfNums n)):=d.at 0 (by simp);obtain⟨m,hm⟩:∃ m,(n::o).length=m:=⟨_,rfl⟩;have HM:Hid ((n::o).length=m):=hm;rw[hm]at d a1 ⊢
  have m1:1<=m:=by rw[<- hm];simp
  have a7:m<=4000000000:=by have:=d.len;omega
  clear hm;have a4:=Tx gb go m gc (by omega);obtain⟨a',c',U,i⟩:=d.rest m1;have a0:Hid (Ss w2 (.slice a' (m-1) c') o):=by unfold Hid;simpa using i
  clear i d;go_wp2_with fail
  refine(SA n a2 _ (I.out.ab l).tw).mono ?_;rintro e Z ⟨rfl,V⟩;subst Z;clear a4 c0;obtain⟨k,hk⟩:∃ k,AM n=k:=⟨_,rfl⟩;have HK:Hid (AM n=k):=hk;rw[hk];go_wp2_with fail
  refine(NJ k _).mono ?_;rintro e Z ⟨rfl,V⟩;subst Z;by_cases a:1<=k/\k<=9
  .rw[N' a];obtain⟨j,rfl⟩:∃ j:Nat,k=(j:Int):=⟨k.toNat,by omega⟩;clear hk;go_wp2_with fail
   refine(OY j (by omega) (by omega) _ (I.out.ab l).tw).mono ?_;rintro e Z ⟨rfl,V⟩;subst Z;have T:=iM a.1 a.2;by_cases s:(m:Int)=npc (j:Int)
   .have hq:((m:Int) != npc (j:Int))=false:=Yk s;have D:Ca 5 b=splitB b:=by
     by_cases h6:(splitB b).length<=6
     .exact DV 5 b h6
     .have h7:=Kg 5 b (by omega);rw[HP.out,HM.out]at h7
      omega
    have u:o=rest:=by
     have:=HP.out.symm.trans (D.trans C.out);simpa using this
    subst u;have B:Hid ((o.length:Int)+1=npc (j:Int)):=by
     have f:=HM.out;simp at f;unfold Hid;omega
    have P:∀ x∈o,∀ c∈x,0<=c/\c<256:=λx W c hc=>F c (Mk b x (by rw[C.out];simp[W]) c hc);have S:∀ x∈o,x.length<=4000000:=λx W=>mI (WP b x (by rw[C.out];simp[W])) O;obtain⟨N,M⟩:∃ N,npc (j:Int)=N:=⟨_,rfl⟩;rw[M]at hq ⊢
    clear D s T M;go_wp2_with fail
    refine(Kp j (by omega) (by omega) _ o P S B.out _ a0.out (I.out.ab l).tw (I.out.ab l).tb).mono ?_;rintro e w4 ⟨b4,Q⟩;have R:=l.size;have Y:=(b4.block _ (D'.1 G).1).trans G;have d4:=l.trans (b4.mono l.size);clear G l b4 U P S;have HE:Hid (∀ x,rdL b=some x↔GoodPc (j:Int) o x):=λx=>W6 C.out HK.out a.1 a.2 B.out x;rcases Q with⟨x,y,hg,rfl,oy⟩|⟨h,rfl⟩
    .have HX:Hid (rdL b=some x):=(HE.out x).2 hg;obtain⟨xk,xn,xa,xp,xd⟩:=x;simp only at oy ⊢;obtain⟨gy,cy,rfl⟩:=Bf oy;have a6:=CB oy R;clear hg oy;have a5:(#[.int .i64 xk,.int .i64 xn,.int .i64 xa,.int .i64 xp,.slice gy xd.length cy]:Array Value).all (·.oneCell')=true:=by simp[Value.oneCell']
     go_wp2_with ((with_reducible (refine Bo ?_));refine wpList_store_row rfl 43 (.tmp 2) (.tmp 37) rfl w.heap.size #[.int .i64 xk,.int .i64 xn,.int .i64 xa,.int .i64 xp,.slice gy xd.length cy] rfl rfl 43 _ Y CG rfl a5 ?_)
     have o5:=J1 a6 Y (by decide) #[.int .i64 xk,.int .i64 xn,.int .i64 xa,.int .i64 xp,.slice gy xd.length cy];refine bodyPost_ret (ES rfl _ _ w.heap.size 43 _ (0,0) _ rfl (setRow_heap _ w.heap.size _ (#[.int .i64 xk,.int .i64 xn,.int .i64 xa,.int .i64 xp,.slice gy xd.length cy]) 43 _ Y) underlying43 rfl CG) rfl ?_;exact⟨Aq d4 (A' _) _,.inl ⟨b,_,_,p.out,HX.out,rfl,o5⟩⟩
    .have E:Hid (∀ g x,t=g++[10]->rdL g≠some x):=λg x f L=>by
      rw[p.out]at f
      have:=Mi f;subst this;exact h x ((HE.out x).1 L)
     clear h;unfold zLa;go_wp2_with ((with_reducible (refine Bo ?_));refine wpList_store_row rfl 43 (.tmp 2) (.tmp 37) rfl w.heap.size #[.int .i64 0,.int .i64 0,.int .i64 0,.int .i64 0,.slice none 0 0] rfl rfl 43 _ Y CG rfl A ?_)
     refine bodyPost_ret (ES rfl _ _ w.heap.size 43 _ (0,0) _ rfl (setRow_heap _ w.heap.size _ (#[.int .i64 0,.int .i64 0,.int .i64 0,.int .i64 0,.slice none 0 0]) 43 _ Y) underlying43 rfl CG) rfl ?_;exact⟨Aq d4 (A' _) _,.inr ⟨E.out,rfl⟩⟩
   .have hq:((m:Int) != npc (j:Int))=true:=Zi s;have E:Hid (∀ g x,t=g++[10]->rdL g≠some x):=λg x f L=>by
     rw[p.out]at f
     have:=Mi f;subst this;obtain⟨e1,e2,_⟩:=ZN C.out L;rw[HK.out]at e1
     rw[<- e1]at e2
     have h3:Ca 5 b=splitB b:=DV 5 b (by rw[C.out];simp;omega);have h4:=HM.out;rw[<- HP.out,h3,C.out]at h4
     simp at h4;omega
    obtain⟨N,M⟩:∃ N,npc (j:Int)=N:=⟨_,rfl⟩;rw[M]at hq ⊢
    clear s T M;go_wp2_with ((with_reducible (refine Bo ?_));refine wpList_store_row rfl 43 (.tmp 2) (.tmp 32) rfl w.heap.size #[.int .i64 0,.int .i64 0,.int .i64 0,.int .i64 0,.slice none 0 0] rfl rfl 43 _ G CG rfl A ?_)
    refine bodyPost_ret (ES rfl _ _ w.heap.size 43 _ (0,0) _ rfl (setRow_heap _ w.heap.size _ (#[.int .i64 0,.int .i64 0,.int .i64 0,.int .i64 0,.slice none 0 0]) 43 _ G) underlying43 rfl CG) rfl ?_;exact⟨Aq l (A' _) _,.inr ⟨E.out,rfl⟩⟩
  .rw[G' a];have E:Hid (∀ g x,t=g++[10]->rdL g≠some x):=λg x f L=>by
    rw[p.out]at f
    have:=Mi f;subst this;obtain⟨e1,_,e3,e4⟩:=ZN C.out L;rw[HK.out]at e1
    exact a ⟨by omega,by omega⟩
   clear a;go_wp2_with ((with_reducible (refine Bo ?_));refine wpList_store_row rfl 43 (.tmp 2) (.tmp 32) rfl w.heap.size #[.int .i64 0,.int .i64 0,.int .i64 0,.int .i64 0,.slice none 0 0] rfl rfl 43 _ G CG rfl A ?_)
   refine bodyPost_ret (ES rfl _ _ w.heap.size 43 _ (0,0) _ rfl (setRow_heap _ w.heap.size _ (#[.int .i64 0,.int .i64 0,.int .i64 0,.int .i64 0,.slice none 0 0]) 43 _ G) underlying43 rfl CG) rfl ?_;exact⟨Aq l (A' _) _,.inr ⟨E.out,rfl⟩⟩
 .subst w1;have E:Hid (∀ b x,t=b++[10]->rdL b≠some x):=λb x f _=>h b f;clear h;go_wp2_with ((with_reducible (refine Bo ?_));refine wpList_store_row rfl 43 (.tmp 2) (.tmp 15) rfl w.heap.size #[.int .i64 0,.int .i64 0,.int .i64 0,.int .i64 0,.slice none 0 0] rfl rfl 43 _ X CG rfl A ?_)
  refine bodyPost_ret (ES rfl _ _ w.heap.size 43 _ (0,0) _ rfl (setRow_heap _ w.heap.size _ (#[.int .i64 0,.int .i64 0,.int .i64 0,.int .i64 0,.slice none 0 0]) 43 _ X) underlying43 rfl CG) rfl ?_;exact⟨Aq K (A' _) _,.inr ⟨E.out,rfl⟩⟩
end
section
open Go.ChangeShapes Go.WideShapes Go.ChangeAt Go.RowKit
theorem ky{W:World}(h:W.ShapedOpen prog):LMTab W:=by
 have a:=Go.Proofs.cell_of_shapedOpen_int (g:=2) (zero:=#[.int .i64 0]) (t:=3) h (nX (by kernel_rfl)) (by kernel_rfl) rfl (by kernel_rfl) (by kernel_rfl) underlying3;obtain⟨m,a⟩:=a;exact⟨World.block_lt_of_cell? W ⟨2,0,none⟩ a,⟨m,a⟩⟩
def PA:Array Value:=(([128,191,160,191,128,159,144,191,128,143]++List.replicate 22 0:List Int).map (Value.int .u8)).toArray
def RE:Array Value:=(Go.Pinned.utf8FirstZ.map λn=>.int .u8 (n:Int)).toArray
end
end Go.Proofs.YtdjfdfpkkenjbabGreatDoor
