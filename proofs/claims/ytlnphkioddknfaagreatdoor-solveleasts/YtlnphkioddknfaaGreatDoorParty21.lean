/- Part 21 of the texts. -/
import Derived.Test.YtlnphkioddknfaaGreatDoorParty20
set_option maxHeartbeats 2000000
set_option maxRecDepth 20000
namespace Go.Proofs.YtlnphkioddknfaaGreatDoor
open Go.RowKit
theorem wT(b:Nat)(d:fK b≠0):fZ b≠0∧decide (fZ b<0)=fS b:=by
 have f:fR b≠0:=fun e=>d ((bs b).2 e)
 have h:0<rv (fR b):=uY (by omega)
 unfold fZ pv
 cases fS b
 ·simp only[Bool.false_eq_true,if_false]
  exact⟨by omega,decide_eq_false (by omega)⟩
 ·simp only[if_true]
  exact⟨by omega,decide_eq_true (by omega)⟩
theorem jk(a:Nat)(m:a<18446744073709551616)(l:aC a=true)(t:fK a≠0):
  fD a%2=1∧(fD a).natAbs<9007199254740992∧(fD a).natAbs≠0∧decide (fD a<0)=fS a∧-1074≤fX a∧fX a≤1024∧1≤bl (fD a).natAbs∧(bl (fD a).natAbs:Int)+fX a≤1024∧bX (rv (fR a)) (-1074)=bX (fD a).natAbs (fX a):=by
 obtain⟨β,A,y,N,D⟩:=jI a m l t
 obtain⟨O,F,Q,U,G,H,V,X⟩:=cT a m l t
 obtain⟨I,Y⟩:=dJ a m l
 obtain⟨Z,K⟩:=wT a t
 have d:(fD a).natAbs≠0:=by omega
 have M:bl (rv (fR a))=bl (fD a).natAbs+β:=by rw[y];exact ks _ _ d
 have f:=kF a l
 rw[gU]at f
 have h:rv (fR a)≠0:=by rw[←gU];omega
 have z:bl (rv (fR a))≤2098:=by
  obtain⟨b1,L,b3⟩:=bK _ h
  have:=cF (Nat.lt_of_le_of_lt L f)
  omega
 refine⟨by omega,D,d,?_,G,H,F,by omega,?_⟩
 ·rw[←I,jF];exact K
 ·rw[y,A,dY]
theorem qM(C:Int)(f:2098<C)(v:Nat)(E n:Int)(d:v≠0)(l:(bl v:Int)+E≤1024)(m:-1074≤(bl v:Int)+E):
  bX v (E+n)=bX v (E+max (-C) (min C n))∧bM v (E+n)=bM v (E+max (-C) (min C n)):=by
 rcases Int.lt_or_le C n with h|h
 ·have a:=nC d (E:=E+n) (by omega)
  have b:=nC d (E:=E+max (-C) (min C n)) (by omega)
  rw[a.1,a.2,b.1,b.2]
  exact⟨rfl,rfl⟩
 ·rcases Int.lt_or_le n (-C)with g|g
  ·have a:=qI d (E:=E+n) (by omega)
   have b:=qI d (E:=E+max (-C) (min C n)) (by omega)
   rw[a.1,a.2,b.1,b.2]
   exact⟨rfl,rfl⟩
  ·rw[show max (-C) (min C n)=n by omega]
   exact⟨rfl,rfl⟩
def xV(a:Nat)(n:Int):Nat:=if fK a=4 then 9221120237041090560 else if fK a=3∨fK a=0 then a else cr (fS a) (bX (fD a).natAbs (fX a+n))
def xF(a:Nat)(n:Int):Int:=if fK a=4 then 0 else if fK a=3∨fK a=0 then 0 else bM (fD a).natAbs (fX a+n)
theorem nM(a:Nat)(n:Int)(d:a<18446744073709551616):xV a n<18446744073709551616:=by
 unfold xV
 have:=eM (fD a).natAbs (fX a+n)
 repeat' split
 ·decide
 ·exact d
 ·exact ey _ _ (by omega)
theorem Bj(C:Int)(h:2098<C)(a:Nat)(n:Int)(l:a<18446744073709551616):xV a (max (-C) (min C n))=xV a n∧xF a (max (-C) (min C n))=xF a n:=by
 unfold xV xF
 by_cases d:fK a=4
 ·rw[if_pos d,if_pos d,if_pos d,if_pos d];exact⟨rfl,rfl⟩
 by_cases f:fK a=3∨fK a=0
 ·rw[if_neg d,if_neg d,if_neg d,if_neg d,if_pos f,if_pos f,if_pos f,if_pos f];exact⟨rfl,rfl⟩
 ·rw[if_neg d,if_neg d,if_neg d,if_neg d,if_neg f,if_neg f,if_neg f,if_neg f]
  obtain⟨z1,z2,m,y,z,A,D,t,F⟩:=jk a l (bh a (by omega) d) (by omega)
  have:=qM C h _ _ n m t (by omega)
  rw[this.1,this.2]
  exact⟨rfl,rfl⟩
theorem qN{D E:Int}(h:D%2=1)(d:-16384≤E∧E≤16384):qz D E=true:=by
 unfold qz
 rw[if_neg (by omega),decide_eq_true h,decide_eq_true d];rfl
theorem wU{D:Int}(h:D%2=1):oM D=D∧∀e,oE D e=e:=by
 have d:D≠0:=by omega
 have f:=gJ D d
 have:=(fG D d).unique (m':=D) (k':=0) ⟨by simp,h⟩
 refine⟨this.1,fun e=>?_⟩
 rw[dI _ _ d,this.2];simp
theorem Hm{D:Int}(h:D%2=1):tz D.natAbs=0:=by
 have d:D≠0:=by omega
 exact((fG D d).unique (m':=D) (k':=0) ⟨by simp,h⟩).2
theorem ET{w:World}{v:Value}{D X:Int}(n:Int)(l:aG w v D X)(d:D%2=1)(H:D.natAbs<9007199254740992)(I:-1074≤X∧X≤1024)(K:-5000≤n∧n≤5000)(m:b7 w):
  Calls Tryz.prog 204 #[v,.int .i64 n] w fun r h=>mn h r 0 D (X+n)∧Below w.heap.size w h:=by
 obtain⟨t,ao,y,A,rfl,z,L,F,M,G⟩:=l.right (cW _ (by omega))
 have:=qB t ao y A X n w z (G.trans (qN d (by omega))) (by omega) m
 have f:lh D (X+n)=true:=by
  unfold lh
  rw[Hm d,decide_eq_true (show-32768≤X+n∧X+n≤32768 by omega),decide_eq_true (show-16384≤X+n+((0:Nat):Int)∧X+n+((0:Nat):Int)≤16384 by omega),Bool.or_true]
  rfl
 rw[F]at this
 unfold cP dM dX at this
 rw[f,if_pos rfl,if_pos rfl,if_pos rfl,(wU d).1,(wU d).2]at this
 exact this
theorem nN(a o:Nat)(n D X Y O:Int)(w:World)(V:b7 w)
  (Z:∀h,b7 h→Calls Tryz.prog 203 #[.int .u64 a] h fun r l=>mn l r 0 D X∧Below h.heap.size h l)
  (C2:∀h v,b7 h→aG h v D X→Calls Tryz.prog 204 #[v,.int .i64 n] h fun r l=>mn l r 0 D Y∧Below h.heap.size h l)
  (C3:∀h v,b7 h→aG h v D Y→Calls Tryz.prog 205 #[v] h fun r l=>r=.returned (.tuple #[.int .u64 (o:Nat),.int .u8 O,.int .i64 0])∧Below h.heap.size h l):
  Calls Tryz.prog 169 #[.int .u64 a,.int .i64 n] w fun r h=>r=.returned (.tuple #[.int .u64 (o:Nat),.int .u8 O])∧Below w.heap.size w h:=by
 have K1:=aa Z;have K2:=aa C2;have K3:=aa C3;have Q:=aa V
 clear Z C2 C3 V
 go_enter Tryz.func169,Tryz.ntmps169
 go_wp2_with fail
 refine(uH K1 _ (uH Q)).mono ?_
 rintro e z ⟨⟨v,rfl,U⟩,f⟩
 obtain⟨H,I,K,t,rfl,i1⟩:=U
 have d:Below z.heap.size z (z.alloc (.cells #[.bool H,.slice I t.length K,.int .i64 X] 47)):=(Below.refl _ _).alloc (Nat.le_refl _) _
 have HX:=aa ((show aG z (.agg #[.bool H,.slice I t.length K,.int .i64 X]) D X from⟨H,I,K,t,rfl,i1⟩).below d)
 have F:=aa (f.trans (d.mono f.size))
 have m:=az.new z (.bool H) (.slice I t.length K) (.int .i64 X)
 have y0:=m.c0;have y1:=m.c1;have y2:=m.c2
 clear i1 f d K1 m
 generalize t.length=l1 at*
 go_wp2_with fail
 refine(uH K2 _ _ ((uH Q).all (uH F)) (uH HX)).mono ?_
 rintro e A ⟨⟨v,rfl,U⟩,f⟩
 obtain⟨L,M,N,y,rfl,i2⟩:=U
 have d:Below A.heap.size A (A.alloc (.cells #[.bool L,.slice M y.length N,.int .i64 Y] 47)):=(Below.refl _ _).alloc (Nat.le_refl _) _
 have HY:=aa ((show aG A (.agg #[.bool L,.slice M y.length N,.int .i64 Y]) D Y from⟨L,M,N,y,rfl,i2⟩).below d)
 have G:=aa ((uH F).trans ((f.trans (d.mono f.size)).mono (uH F).size))
 have m:=az.new A (.bool L) (.slice M y.length N) (.int .i64 Y)
 have z0:=m.c0;have z1:=m.c1;have z2:=m.c2
 clear i2 f d K2 m y0 y1 y2 HX F
 generalize y.length=l2 at*
 go_wp2_with fail
 refine(uH K3 _ _ ((uH Q).all (uH G)) (uH HY)).mono ?_
 rintro e w3 ⟨rfl,f⟩
 have B3:=aa ((uH G).trans (f.mono (uH G).size))
 clear f K3 G z0 z1 z2 HY
 go_wp2
 exact bodyPost_ret (v:=.tuple #[.int .u64 o,.int .u8 O]) (by simp[results,Tryz.results169,go_sem]) rfl ⟨rfl,uH B3⟩
theorem mp(a:Nat)(n:Int)(w:World)(h:a<18446744073709551616)(l:aC a=true)(y:fK a≠0)(z:-5000≤n∧n≤5000)(A:b7 w):
  Calls Tryz.prog 169 #[.int .u64 a,.int .i64 n] w fun r d=>r=.returned (.tuple #[.int .u64 (cr (fS a) (bX (fD a).natAbs (fX a+n)):Nat),.int .u8 (bM (fD a).natAbs (fX a+n))])∧Below w.heap.size w d:=by
 obtain⟨z1,z2,F,D,G,H,I,K,L⟩:=jk a h l y
 have m:∀d v,b7 d→aG d v (fD a) (fX a+n)→_:=fun d v t f=>jh f (cW _ (by omega)) (qN z1 (by omega)) t
 rw[D]at m
 exact nN a _ n (fD a) (fX a) (fX a+n) _ w A (fun d t=>df a d h l t) (fun d v t f=>ET n f z1 z2 (by omega) z t) m
theorem EU(a:Nat)(n:Int)(w:World)
  (l:∀d,Calls Tryz.prog 103 #[.int .u64 a] d fun r f=>r=.returned (.int .i64 4)∧Below d.heap.size d f):
  Calls Tryz.prog 112 #[.int .u64 a,.int .i64 n] w fun r d=>r=.returned (.tuple #[.int .u64 9221120237041090560,.int .u8 0])∧Below w.heap.size w d:=by
 have m:=aa l
 clear l
 go_enter Tryz.func112,Tryz.ntmps112
 go_wp2_with fail
 refine(uH m _).mono ?_
 rintro e t ⟨rfl,h⟩
 clear m
 go_wp2
 exact bodyPost_ret (v:=.tuple #[.int .u64 9221120237041090560,.int .u8 0]) (by simp[results,Tryz.results112,go_sem]) rfl ⟨rfl,h⟩
theorem Bk(a:Nat)(n k:Int)(w:World)(t:k=3∨k=0)
  (m:∀f,Calls Tryz.prog 103 #[.int .u64 a] f fun r l=>r=.returned (.int .i64 k)∧Below f.heap.size f l):
  Calls Tryz.prog 112 #[.int .u64 a,.int .i64 n] w fun r f=>r=.returned (.tuple #[.int .u64 (a:Nat),.int .u8 0])∧Below w.heap.size w f:=by
 have h:=aa m
 clear m
 rcases t with rfl|rfl
 ·go_enter Tryz.func112,Tryz.ntmps112
  go_wp2_with fail
  refine(uH h _).mono ?_
  rintro e y ⟨rfl,d⟩
  clear h
  go_wp2
  exact bodyPost_ret (v:=.tuple #[.int .u64 (a:Nat),.int .u8 0]) (by simp[results,Tryz.results112,go_sem]) rfl ⟨rfl,d⟩
 ·go_enter Tryz.func112,Tryz.ntmps112
  go_wp2_with fail
  refine(uH h _).mono ?_
  rintro e y ⟨rfl,d⟩
  clear h
  go_wp2
  exact bodyPost_ret (v:=.tuple #[.int .u64 (a:Nat),.int .u8 0]) (by simp[results,Tryz.results112,go_sem]) rfl ⟨rfl,d⟩
theorem kJ(P:Program)(w:World)(d:Array TypeId)(t:TypeId)(x y:Int):(Builtin.min_ d t #[.int .i64 x,.int .i64 y]).run P w=.ok (.int .i64 (min x y)) w:=by
 rw[run_min_int2]
 congr 2
 split<;>omega
theorem EV(a o:Nat)(n k m c y:Int)(w:World)(L:(k==4)=false)(M:(k==3)=false)(N:(k==0)=false)(A:b7 w)
  (O:∀W z t,(Builtin.max_ z t #[.int .i64 n,.int .i64 (-4096)]).run Tryz.prog W=.ok (.int .i64 m) W)
  (Q:∀W z t,(Builtin.min_ z t #[.int .i64 m,.int .i64 4096]).run Tryz.prog W=.ok (.int .i64 c) W)
  (D:∀f,Calls Tryz.prog 103 #[.int .u64 a] f fun r h=>r=.returned (.int .i64 k)∧Below f.heap.size f h)
  (F:∀f,b7 f→Calls Tryz.prog 169 #[.int .u64 a,.int .i64 c] f fun r h=>r=.returned (.tuple #[.int .u64 (o:Nat),.int .u8 y])∧Below f.heap.size f h):
  Calls Tryz.prog 112 #[.int .u64 a,.int .i64 n] w fun r f=>r=.returned (.tuple #[.int .u64 (o:Nat),.int .u8 y])∧Below w.heap.size w f:=by
 have G:=aa D;have H:=aa F;have I:=aa A
 clear D F A
 go_enter Tryz.func112,Tryz.ntmps112
 go_wp2_with fail
 refine(uH G _).mono ?_
 rintro e U ⟨rfl,d⟩
 have l:=aa d
 clear G d
 go_wp2_with fail
 refine(uH H _ ((uH I).all (uH l))).mono ?_
 rintro e V ⟨rfl,d⟩
 have K:=aa ((uH l).trans (d.mono (uH l).size))
 clear H d l I
 go_wp2
 exact bodyPost_ret (v:=.tuple #[.int .u64 (o:Nat),.int .u8 y]) (by simp[results,Tryz.results112,go_sem]) rfl ⟨rfl,uH K⟩
theorem uZ(a:Nat)(n:Int)(w:World)(m:a<18446744073709551616)(z:b7 w):
  Calls Tryz.prog 112 #[.int .u64 a,.int .i64 n] w fun r f=>r=.returned (.tuple #[.int .u64 (xV a n:Nat),.int .u8 (xF a n)])∧Below w.heap.size w f:=by
 have l:=fun f=>cu a f m
 by_cases d:fK a=4
 ·unfold xV xF
  rw[if_pos d,if_pos d]
  rw[d]at l
  exact EU a n w l
 by_cases h:fK a=3∨fK a=0
 ·unfold xV xF
  rw[if_neg d,if_neg d,if_pos h,if_pos h]
  exact Bk a n _ w h l
 ·have A:=bh a (by omega) d
  have e:=Bj 4096 (by decide) a n m
  rw[show max (-4096) (min 4096 n)=min (max n (-4096)) 4096 by omega]at e
  rw[←e.1,←e.2]
  unfold xV xF
  rw[if_neg d,if_neg d,if_neg h,if_neg h]
  exact EV a _ n _ (max n (-4096)) (min (max n (-4096)) 4096) _ w (by simp[d]) (by simp;omega) (by simp;omega) z (fun W y t=>jg _ W y t _ _) (fun W y t=>kJ _ W y t _ _) l (fun f t=>mp a _ f m A (by omega) (by omega) t)
theorem Jb(a:Nat)(k:Int)(w:World)(t:k=4∨k=3∨k=0)
  (l:∀d,Calls Tryz.prog 103 #[.int .u64 a] d fun r f=>r=.returned (.int .i64 k)∧Below d.heap.size d f):
  Calls Tryz.prog 240 #[.int .u64 a] w fun r d=>r=.returned (.int .i64 0)∧Below w.heap.size w d:=by
 have m:=aa l
 clear l
 rcases t with rfl|rfl|rfl
 all_goals
  go_enter Tryz.func240,Tryz.ntmps240
  go_wp2_with fail
  refine(uH m _).mono ?_
  rintro e y ⟨rfl,h⟩
  clear m
  go_wp2
  go_ret
  exact⟨rfl,h⟩
theorem Jc(a:Nat)(k D X t:Int)(w:World)(h4:(k==4)=false)(h3:(k==3)=false)(h0:(k==0)=false)(ht:-2000≤t∧t≤2000)(K:b7 w)
  (L:∀f,Calls Tryz.prog 103 #[.int .u64 a] f fun r h=>r=.returned (.int .i64 k)∧Below f.heap.size f h)
  (M:∀f,b7 f→Calls Tryz.prog 203 #[.int .u64 a] f fun r h=>mn h r 0 D X∧Below f.heap.size f h)
  (N:∀f v,aG f v D X→Calls Tryz.prog 254 #[v] f fun r h=>r=.returned (.int .i64 t)∧Below f.heap.size f h):
  Calls Tryz.prog 240 #[.int .u64 a] w fun r f=>r=.returned (.int .i64 (t-1))∧Below w.heap.size w f:=by
 have O:=aa L;have Q:=aa M;have U:=aa N;have Z:=aa K
 clear L M N K
 have hw:=aW (t-1) (by omega)
 go_enter Tryz.func240,Tryz.ntmps240
 go_wp2_with fail
 refine(uH O _).mono ?_
 rintro e w1 ⟨rfl,d⟩
 have z:=aa d
 clear O d
 go_wp2_with fail
 refine(uH Q _ ((uH Z).all (uH z))).mono ?_
 rintro e y ⟨⟨v,rfl,hv⟩,d⟩
 obtain⟨F,G,H,m,rfl,Y⟩:=hv
 have l:Below y.heap.size y (y.alloc (.cells #[.bool F,.slice G m.length H,.int .i64 X] 47)):=(Below.refl _ _).alloc (Nat.le_refl _) _
 have V:=aa ((show aG y (.agg #[.bool F,.slice G m.length H,.int .i64 X]) D X from⟨F,G,H,m,rfl,Y⟩).below l)
 have I:=aa ((uH z).trans ((d.trans (l.mono d.size)).mono (uH z).size))
 have A:=az.new y (.bool F) (.slice G m.length H) (.int .i64 X)
 have z0:=A.c0;have z1:=A.c1;have z2:=A.c2
 clear Y d l Q A z
 generalize m.length=l2 at*
 go_wp2_with fail
 refine(uH U _ _ (uH V)).mono ?_
 rintro e w3 ⟨rfl,d⟩
 have B3:=aa ((uH I).trans (d.mono (uH I).size))
 clear d U I z0 z1 z2 V
 go_wp2
 go_ret
 exact⟨rfl,uH B3⟩
theorem EW{v:Nat}(h:v<9007199254740992):bl v≤53:=by
 by_cases d:v=0
 ·subst d;decide
 ·obtain⟨l,f,m⟩:=bK v d
  have:=cF (Nat.lt_of_le_of_lt f (by rw[Ah];exact h))
  omega
theorem Jd{w:World}{v:Value}{D X:Int}(d:aG w v D X)(l:D%2=1)(m:D.natAbs<9007199254740992)(I:-1074≤X∧X≤1024):
  Calls Tryz.prog 254 #[v] w fun r t=>r=.returned (.int .i64 ((bl D.natAbs:Int)+X))∧Below w.heap.size w t:=by
 obtain⟨f,ao,z,A,rfl,h,F,G,M,H⟩:=d.right (cW _ (by omega))
 have:=kx f ao z A X w h (by omega)
 have K:kn f A X=true:=H.trans (qN l (by omega))
 have d:an A=D.natAbs:=by rw[←G,aR]
 have y:=iN h.2.1 F
 have L:bl D.natAbs≤53:=EW m
 rw[y,d,aW _ (by omega)]at this
 exact this
def eX(a:Nat):Int:=if fK a=4∨fK a=3∨fK a=0 then 0 else(bl (fD a).natAbs:Int)+fX a-1
theorem Bl(a:Nat)(w:World)(f:a<18446744073709551616)(y:b7 w):
  Calls Tryz.prog 240 #[.int .u64 a] w fun r d=>r=.returned (.int .i64 (eX a))∧Below w.heap.size w d:=by
 have l:=fun d=>cu a d f
 unfold eX
 by_cases h:fK a=4∨fK a=3∨fK a=0
 ·rw[if_pos h]
  exact Jb a _ w h l
 ·rw[if_neg h]
  have m:=bh a (by omega) (by omega)
  obtain⟨z1,z2,A,D,F,G,H,I,K⟩:=jk a f m (by omega)
  exact Jc a _ (fD a) (fX a) _ w (by simp;omega) (by simp;omega) (by simp;omega) (by omega) y l (fun d t=>df a d f m t) (fun d v z=>Jd z z1 z2 (by omega))
def JO(k:Int)(s x:Nat):Nat:=aV s (mV (xV x (-k)) (xV x (-k)))
def IM(k:Int):Nat→List Nat→Nat
 |s,[]=>s
 |s,x::xs=>IM k (JO k s x) xs
def mx(a b:Nat):Nat:=if fK a=4∨fK b=4 then 9221120237041090560 else if fZ a<fZ b then b else a
def jl:Nat→List Nat→Nat
 |m,[]=>m
 |m,x::xs=>jl (mx m (fR x)) xs
theorem qO(r:Nat)(h:r<9223372036854775808):fZ r=(rv r:Int)∧fR r=r∧fS r=false:=by
 have d:fR r=r:=by unfold fR;omega
 have f:fS r=false:=decide_eq_false (by omega)
 refine⟨?_,d,f⟩
 unfold fZ pv
 rw[d,f]
 rfl
theorem Hn(m r:Nat)(d:m<9218868437227405312)(f:r<9218868437227405312):mx m r=max m r:=by
 obtain⟨l,t,F⟩:=qO m (by omega)
 obtain⟨y,z,G⟩:=qO r (by omega)
 have A:=(dL ((bu m).2.2.2 (by rw[t];exact d))).2
 have D:=(dL ((bu r).2.2.2 (by rw[z];exact f))).2
 unfold mx
 rw[if_neg (by omega),l,y]
 rcases Nat.lt_or_ge m r with h|h
 ·have:=ly h
  rw[if_pos (by omega)]
  omega
 ·have:=qp h
  rw[if_neg (by omega)]
  omega
theorem EY:∀(d:List Nat) (m:Nat),m<9218868437227405312→(∀x∈d,aC x=true)→
  jl m d<9218868437227405312∧m≤jl m d∧(∀x∈d,fR x≤jl m d)∧(jl m d=m∨∃x∈d,fR x=jl m d):=by
 intro d
 induction d with
 |nil=>intro m z _;exact⟨z,Nat.le_refl _,(fun x l=>(by cases l)),Or.inl rfl⟩
 |cons x d ih=>
  intro m z l
  have A:=np x (l x List.mem_cons_self)
  have e:jl m (x::d)=jl (max m (fR x)) d:=by
   show jl (mx m (fR x)) d=_
   rw[Hn m _ z A]
  obtain⟨D,G,F,t⟩:=ih (max m (fR x)) (by omega) (fun y f=>l y (List.mem_cons_of_mem _ f))
  rw[e]
  refine⟨D,by omega,?_,?_⟩
  ·intro y f
   rcases List.mem_cons.1 f with rfl|f
   ·omega
   ·exact F y f
  ·rcases t with t|⟨y,f,t⟩
   ·rcases Nat.lt_or_ge m (fR x)with h|h
    ·exact .inr ⟨x,List.mem_cons_self,by omega⟩
    ·exact .inl (by omega)
   ·exact .inr ⟨y,List.mem_cons_of_mem _ f,t⟩
def pP(xs:List Nat):Nat:=if jl 0 xs=0∨aC (jl 0 xs)=false then jl 0 xs else xV (sV (IM (eX (jl 0 xs)) 0 xs)) (eX (jl 0 xs))
def u9:Nat→List Nat→List Nat→Nat
 |s,x::xs,y::ys=>u9 (aV s (mV x y)) xs ys
 |s,_,_=>s
end Go.Proofs.YtlnphkioddknfaaGreatDoor
