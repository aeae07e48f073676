/- Part 23 of the texts. -/
import Derived.Test.YtlnphkioddknfaaGreatDoorParty22
set_option maxHeartbeats 4000000
set_option maxRecDepth 20000
namespace Go.Proofs.YtlnphkioddknfaaGreatDoor
open Go.RowKit
theorem qP(z a b:Nat)(s t:Bool)(o:Nat)(w:World)
  (m:∀d,Calls Tryz.prog 118 #[.int .u64 a] d fun r f=>r=.returned (.bool s)∧Below d.heap.size d f)
  (y:∀d,Calls Tryz.prog 118 #[.int .u64 b] d fun r f=>r=.returned (.bool t)∧Below d.heap.size d f)
  (A:∀d,Calls Tryz.prog 119 #[.int .u64 z] d fun r f=>r=.returned (.int .u64 (o:Nat))∧d=f):
  Calls Tryz.prog 225 #[.int .u64 z,.int .u64 a,.int .u64 b] w fun r d=>r=.returned (.int .u64 ((if(s^^t)=true then o else z:Nat):Int))∧Below w.heap.size w d:=by
 have D:=aa m;have F:=aa y;have G:=aa A
 clear m y A
 go_enter Tryz.func225,Tryz.ntmps225
 go_wp2_with fail
 refine(uH D _).mono ?_
 rintro e I ⟨rfl,h⟩
 go_wp2_with fail
 refine(uH F _).mono ?_
 rintro e K ⟨rfl,l⟩
 have B:=aa (h.trans (l.mono h.size))
 clear h l D F
 cases s<;>cases t
 ·go_wp2
  go_ret
  exact⟨rfl,uH B⟩
 ·go_wp2_with fail
  refine(uH G _).mono ?_
  rintro e H ⟨rfl,rfl⟩
  go_wp2
  go_ret
  exact⟨rfl,uH B⟩
 ·go_wp2_with fail
  refine(uH G _).mono ?_
  rintro e H ⟨rfl,rfl⟩
  go_wp2
  go_ret
  exact⟨rfl,uH B⟩
 ·go_wp2
  go_ret
  exact⟨rfl,uH B⟩
theorem fp(z a b:Nat)(w:World)(f:a<18446744073709551616)(l:b<18446744073709551616)(m:z<9223372036854775808):
  Calls Tryz.prog 225 #[.int .u64 z,.int .u64 a,.int .u64 b] w fun r d=>r=.returned (.int .u64 (cr (fS a^^fS b) z:Nat))∧Below w.heap.size w d:=by
 have h:=qP z a b (fS a) (fS b) (fN z) w (fun d=>dZ a d f) (fun d=>dZ b d l) (fun d=>ge z d (by omega))
 have e:(if(fS a^^fS b)=true then fN z else z:Nat)=cr (fS a^^fS b) z:=by
  cases (fS a^^fS b)
  ·rw[a8];rfl
  ·rw[←AL z m];rfl
 rwa[e]at h
theorem sP(a b:Nat)(z1 z2 z3 m t y fl:Int)(w:World)(o:Nat)
  (C1:∀h,Below w.heap.size w h→Calls Tryz.prog 203 #[.int .u64 a] h fun r l=>mn l r 0 z1 m∧Below h.heap.size h l)
  (C2:∀h,Below w.heap.size w h→Calls Tryz.prog 203 #[.int .u64 b] h fun r l=>mn l r 0 z2 t∧Below h.heap.size h l)
  (C3:∀h v u,Below w.heap.size w h→aG h v z1 m→aG h u z2 t→Calls Tryz.prog 246 #[v,u] h fun r l=>mn l r 0 z3 y∧Below h.heap.size h l)
  (C4:∀h v,Below w.heap.size w h→aG h v z3 y→Calls Tryz.prog 205 #[v] h fun r l=>r=.returned (.tuple #[.int .u64 (o:Nat),.int .u8 fl,.int .i64 0])∧Below h.heap.size h l):
  Calls Tryz.prog 226 #[.int .u64 a,.int .u64 b] w fun r h=>r=.returned (.tuple #[.int .u64 (o:Nat),.int .u8 fl])∧Below w.heap.size w h:=by
 have K1:=aa C1;have K2:=aa C2;have K3:=aa C3;have K4:=aa C4
 clear C1 C2 C3 C4
 go_enter Tryz.func226,Tryz.ntmps226
 go_wp2_with fail
 refine(uH K1 _ (Below.refl _ _)).mono ?_
 rintro e D ⟨⟨v,rfl,F⟩,f⟩
 obtain⟨Q,U,V,Y,rfl,i1⟩:=F
 have d:Below D.heap.size D (D.alloc (.cells #[.bool Q,.slice U Y.length V,.int .i64 m] 47)):=(Below.refl _ _).alloc (Nat.le_refl _) _
 have HV:=aa ((show aG D (.agg #[.bool Q,.slice U Y.length V,.int .i64 m]) z1 m from⟨Q,U,V,Y,rfl,i1⟩).below d)
 have X:=aa (az.new D (.bool Q) (.slice U Y.length V) (.int .i64 m))
 have I:=aa (f.trans (d.mono f.size))
 clear i1 f d K1
 go_wp2_with fail
 refine(uH K2 _ (uH I)).mono ?_
 rintro e G ⟨⟨v,rfl,F⟩,f⟩
 obtain⟨Z,a2,c2,L2,rfl,i2⟩:=F
 have d:Below G.heap.size G (G.alloc (.cells #[.bool Z,.slice a2 L2.length c2,.int .i64 t] 47)):=(Below.refl _ _).alloc (Nat.le_refl _) _
 have HU:=aa ((show aG G (.agg #[.bool Z,.slice a2 L2.length c2,.int .i64 t]) z2 t from⟨Z,a2,c2,L2,rfl,i2⟩).below d)
 have z:=aa (((uH HV).below f).below d)
 have K:=((uH X).all f).all d
 have L:=az.new G (.bool Z) (.slice a2 L2.length c2) (.int .i64 t)
 have M:=aa ((uH I).trans ((f.trans (d.mono f.size)).mono (uH I).size))
 have y0:=K.c0;have y1:=K.c1;have y2:=K.c2;have u0:=L.c0;have u1:=L.c1;have u2:=L.c2
 clear i2 f d K2 I HV X K L
 go_wp2_with fail
 refine(uH K3 _ _ _ (uH M) (uH z) (uH HU)).mono ?_
 rintro e H ⟨⟨v,rfl,F⟩,f⟩
 clear y0 y1 y2 u0 u1 u2
 obtain⟨n3,a3,c3,A,rfl,i3⟩:=F
 have d:Below H.heap.size H (H.alloc (.cells #[.bool n3,.slice a3 A.length c3,.int .i64 y] 47)):=(Below.refl _ _).alloc (Nat.le_refl _) _
 have HX:=aa ((show aG H (.agg #[.bool n3,.slice a3 A.length c3,.int .i64 y]) z3 y from⟨n3,a3,c3,A,rfl,i3⟩).below d)
 have N:=aa ((uH M).trans ((f.trans (d.mono f.size)).mono (uH M).size))
 have O:=az.new H (.bool n3) (.slice a3 A.length c3) (.int .i64 y)
 have y0:=O.c0;have y1:=O.c1;have y2:=O.c2
 clear i3 f d K3 M z HU O
 generalize A.length=l3 at*
 go_wp2_with fail
 refine(uH K4 _ _ (uH N) (uH HX)).mono ?_
 rintro e w4 ⟨rfl,f⟩
 have B4:=aa ((uH N).trans (f.mono (uH N).size))
 clear f K4 N
 go_wp2
 exact bodyPost_ret (v:=.tuple #[.int .u64 o,.int .u8 fl]) (by simp[results,Tryz.results226,go_sem]) rfl ⟨rfl,uH B4⟩
theorem Jf:(2:Nat)^2098*2^2098=2^4196:=by decide+kernel
theorem Hr(a b:Nat)(d:aC a=true)(f:aC b=true):l9 (-1074+-1074) 4196 (fZ a*fZ b):=by
 have h:=kF a d
 have l:=kF b f
 refine⟨?_,by decide,by decide,by decide⟩
 have m:=Jf
 have t:=Nat.two_pow_pos 2098
 rw[Int.natAbs_mul]
 generalize (2:Nat)^4196=P at*
 generalize (2:Nat)^2098=Q at*
 rw[←m]
 exact Nat.mul_lt_mul_of_lt_of_le h (Nat.le_of_lt l) t
theorem vf(b:Nat)(d:fK b≠0):fZ b≠0∧decide (fZ b<0)=fS b:=by
 have f:rv (fR b)≠0:=fun e=>d ((bs b).2 ((ls _).1 e))
 unfold fZ pv
 cases fS b
 ·simp only[Bool.false_eq_true,if_false]
  exact⟨by omega,decide_eq_false (by omega)⟩
 ·simp only[if_true]
  exact⟨by omega,decide_eq_true (by omega)⟩
theorem Hs(a b:Nat)(m:fK a≠0)(t:fK b≠0):fZ a*fZ b≠0∧decide (fZ a*fZ b<0)=(fS a^^fS b):=by
 obtain⟨h,z⟩:=vf a m
 obtain⟨l,A⟩:=vf b t
 refine⟨Int.mul_ne_zero h l,?_⟩
 rw[←z,←A]
 generalize fZ a=x at*
 generalize fZ b=y at*
 rcases Int.lt_or_gt_of_ne h with d|d<;>rcases Int.lt_or_gt_of_ne l with f|f
 ·have:=Int.mul_pos_of_neg_of_neg d f
  rw[decide_eq_true d,decide_eq_true f,decide_eq_false (by omega)];rfl
 ·have:=Int.mul_neg_of_neg_of_pos d f
  rw[decide_eq_true d,decide_eq_false (show¬y<0 by omega),decide_eq_true this];rfl
 ·have:=Int.mul_neg_of_pos_of_neg d f
  rw[decide_eq_false (show¬x<0 by omega),decide_eq_true f,decide_eq_true this];rfl
 ·have:=Int.mul_pos d f
  rw[decide_eq_false (show¬x<0 by omega),decide_eq_false (show¬y<0 by omega),decide_eq_false (show¬x*y<0 by omega)];rfl
theorem oY(a b:Nat)(w:World)(D:a<18446744073709551616)(F:b<18446744073709551616)(f:aC a=true)(l:aC b=true)(t:fK a≠0)(y:fK b≠0)(m:b7 w):
  Calls Tryz.prog 226 #[.int .u64 a,.int .u64 b] w fun r d=>r=.returned (.tuple #[.int .u64 (mV a b:Nat),.int .u8 (mF a b)])∧Below w.heap.size w d:=by
 obtain⟨M,N⟩:=dJ a D f
 obtain⟨O,Q⟩:=dJ b F l
 have A:=Hr a b f l
 obtain⟨U,z1⟩:=Hs a b t y
 have I:∀d,Below w.heap.size w d→_:=fun d h=>df a d D f (m.all h)
 have K:∀d,Below w.heap.size w d→_:=fun d h=>df b d F l (m.all h)
 have L:∀d v u,Below w.heap.size w d→aG d v (fD a) (fX a)→aG d u (fD b) (fX b)→_:=fun d v u h z H=>
  JG (W1:=2099) (W2:=2099) (W:=4196) (lo1:=-1074) (lo2:=-1074) (z1:=fZ a) (z2:=fZ b) (by rw[M,N];exact z) (by rw[O,Q];exact H) (lm a f) (lm b l) A (m.all h)
 rw[(nB a b f l t y).1,(nB a b f l t y).2]
 have G:∀d v,Below w.heap.size w d→aG d v (oM (fZ a*fZ b)) (oE (fZ a*fZ b) (-1074+-1074))→_:=fun d v h z=>jh z A.right.2 A.right.1 (m.all h)
 rw[(jG (fZ a*fZ b) (-1074+-1074)).1,jF,z1,Int.natAbs_mul,gU,gU]at G
 exact sP a b _ _ _ _ _ _ _ w _ I K L G
theorem E8(a b:Nat)(A:Int)(w:World)
  (m:∀d,Calls Tryz.prog 103 #[.int .u64 a] d fun r f=>r=.returned (.int .i64 4)∧Below d.heap.size d f)
  (t:∀d,Calls Tryz.prog 103 #[.int .u64 b] d fun r f=>r=.returned (.int .i64 A)∧Below d.heap.size d f):
  Calls Tryz.prog 201 #[.int .u64 a,.int .u64 b] w fun r d=>r=.returned (.tuple #[.int .u64 9221120237041090560,.int .u8 0])∧Below w.heap.size w d:=by
 have y:=aa m;have z:=aa t
 clear m t
 go_enter Tryz.func201,Tryz.ntmps201
 go_wp2_with fail
 refine(uH y _).mono ?_
 rintro e D ⟨rfl,h⟩
 go_wp2_with fail
 refine(uH z _).mono ?_
 rintro e F ⟨rfl,l⟩
 have B:=aa (h.trans (l.mono h.size))
 clear h l y z
 go_wp2
 exact bodyPost_ret (v:=.tuple #[.int .u64 9221120237041090560,.int .u8 0]) (by simp[results,Tryz.results201,go_sem]) rfl ⟨rfl,uH B⟩
theorem E9(a b:Nat)(m:Int)(w:World)(D:(m==4)=false)
  (t:∀d,Calls Tryz.prog 103 #[.int .u64 a] d fun r f=>r=.returned (.int .i64 m)∧Below d.heap.size d f)
  (y:∀d,Calls Tryz.prog 103 #[.int .u64 b] d fun r f=>r=.returned (.int .i64 4)∧Below d.heap.size d f):
  Calls Tryz.prog 201 #[.int .u64 a,.int .u64 b] w fun r d=>r=.returned (.tuple #[.int .u64 9221120237041090560,.int .u8 0])∧Below w.heap.size w d:=by
 have z:=aa t;have A:=aa y
 clear t y
 go_enter Tryz.func201,Tryz.ntmps201
 go_wp2_with fail
 refine(uH z _).mono ?_
 rintro e F ⟨rfl,h⟩
 go_wp2_with fail
 refine(uH A _).mono ?_
 rintro e G ⟨rfl,l⟩
 have B:=aa (h.trans (l.mono h.size))
 clear h l z A
 go_wp2
 exact bodyPost_ret (v:=.tuple #[.int .u64 9221120237041090560,.int .u8 0]) (by simp[results,Tryz.results201,go_sem]) rfl ⟨rfl,uH B⟩
theorem Fa(a b:Nat)(w:World)
  (m:∀d,Calls Tryz.prog 103 #[.int .u64 a] d fun r f=>r=.returned (.int .i64 3)∧Below d.heap.size d f)
  (t:∀d,Calls Tryz.prog 103 #[.int .u64 b] d fun r f=>r=.returned (.int .i64 0)∧Below d.heap.size d f):
  Calls Tryz.prog 201 #[.int .u64 a,.int .u64 b] w fun r d=>r=.returned (.tuple #[.int .u64 9221120237041090560,.int .u8 16])∧Below w.heap.size w d:=by
 have y:=aa m;have z:=aa t
 clear m t
 go_enter Tryz.func201,Tryz.ntmps201
 go_wp2_with fail
 refine(uH y _).mono ?_
 rintro e A ⟨rfl,h⟩
 go_wp2_with fail
 refine(uH z _).mono ?_
 rintro e D ⟨rfl,l⟩
 have B:=aa (h.trans (l.mono h.size))
 clear h l y z
 go_wp2
 exact bodyPost_ret (v:=.tuple #[.int .u64 9221120237041090560,.int .u8 16]) (by simp[results,Tryz.results201,go_sem]) rfl ⟨rfl,uH B⟩
theorem Fb(a b:Nat)(w:World)
  (m:∀d,Calls Tryz.prog 103 #[.int .u64 a] d fun r f=>r=.returned (.int .i64 0)∧Below d.heap.size d f)
  (t:∀d,Calls Tryz.prog 103 #[.int .u64 b] d fun r f=>r=.returned (.int .i64 3)∧Below d.heap.size d f):
  Calls Tryz.prog 201 #[.int .u64 a,.int .u64 b] w fun r d=>r=.returned (.tuple #[.int .u64 9221120237041090560,.int .u8 16])∧Below w.heap.size w d:=by
 have y:=aa m;have z:=aa t
 clear m t
 go_enter Tryz.func201,Tryz.ntmps201
 go_wp2_with fail
 refine(uH y _).mono ?_
 rintro e A ⟨rfl,h⟩
 go_wp2_with fail
 refine(uH z _).mono ?_
 rintro e D ⟨rfl,l⟩
 have B:=aa (h.trans (l.mono h.size))
 clear h l y z
 go_wp2
 exact bodyPost_ret (v:=.tuple #[.int .u64 9221120237041090560,.int .u8 16]) (by simp[results,Tryz.results201,go_sem]) rfl ⟨rfl,uH B⟩
theorem Ht(a b:Nat)(t:Int)(o:Nat)(w:World)(H:(t==4)=false)(I:(t==0)=false)
  (y:∀d,Calls Tryz.prog 103 #[.int .u64 a] d fun r f=>r=.returned (.int .i64 3)∧Below d.heap.size d f)
  (z:∀d,Calls Tryz.prog 103 #[.int .u64 b] d fun r f=>r=.returned (.int .i64 t)∧Below d.heap.size d f)
  (A:∀d,Calls Tryz.prog 225 #[.int .u64 9218868437227405312,.int .u64 a,.int .u64 b] d fun r f=>r=.returned (.int .u64 (o:Nat))∧Below d.heap.size d f):
  Calls Tryz.prog 201 #[.int .u64 a,.int .u64 b] w fun r d=>r=.returned (.tuple #[.int .u64 (o:Nat),.int .u8 0])∧Below w.heap.size w d:=by
 have D:=aa y;have F:=aa z
 clear y z
 go_enter Tryz.func201,Tryz.ntmps201
 go_wp2_with fail
 refine(uH D _).mono ?_
 rintro e K ⟨rfl,h⟩
 go_wp2_with fail
 refine(uH F _).mono ?_
 rintro e L ⟨rfl,l⟩
 have B:=aa (h.trans (l.mono h.size))
 clear h l D F
 have G:=aa A
 clear A
 go_wp2_with fail
 refine(uH G _).mono ?_
 rintro e M ⟨rfl,m⟩
 have B:=aa ((uH B).trans (m.mono (uH B).size))
 clear m G
 go_wp2
 exact bodyPost_ret (v:=.tuple #[.int .u64 (o:Nat),.int .u8 0]) (by simp[results,Tryz.results201,go_sem]) rfl ⟨rfl,uH B⟩
theorem Hu(a b:Nat)(t:Int)(o:Nat)(w:World)(H:(t==4)=false)(I:(t==0)=false)(K:(t==3)=false)
  (y:∀d,Calls Tryz.prog 103 #[.int .u64 a] d fun r f=>r=.returned (.int .i64 t)∧Below d.heap.size d f)
  (z:∀d,Calls Tryz.prog 103 #[.int .u64 b] d fun r f=>r=.returned (.int .i64 3)∧Below d.heap.size d f)
  (A:∀d,Calls Tryz.prog 225 #[.int .u64 9218868437227405312,.int .u64 a,.int .u64 b] d fun r f=>r=.returned (.int .u64 (o:Nat))∧Below d.heap.size d f):
  Calls Tryz.prog 201 #[.int .u64 a,.int .u64 b] w fun r d=>r=.returned (.tuple #[.int .u64 (o:Nat),.int .u8 0])∧Below w.heap.size w d:=by
 have D:=aa y;have F:=aa z
 clear y z
 go_enter Tryz.func201,Tryz.ntmps201
 go_wp2_with fail
 refine(uH D _).mono ?_
 rintro e L ⟨rfl,h⟩
 go_wp2_with fail
 refine(uH F _).mono ?_
 rintro e M ⟨rfl,l⟩
 have B:=aa (h.trans (l.mono h.size))
 clear h l D F
 have G:=aa A
 clear A
 go_wp2_with fail
 refine(uH G _).mono ?_
 rintro e N ⟨rfl,m⟩
 have B:=aa ((uH B).trans (m.mono (uH B).size))
 clear m G
 go_wp2
 exact bodyPost_ret (v:=.tuple #[.int .u64 (o:Nat),.int .u8 0]) (by simp[results,Tryz.results201,go_sem]) rfl ⟨rfl,uH B⟩
theorem Hv(a b:Nat)(t:Int)(o:Nat)(w:World)(H:(t==4)=false)(I:(t==3)=false)
  (y:∀d,Calls Tryz.prog 103 #[.int .u64 a] d fun r f=>r=.returned (.int .i64 0)∧Below d.heap.size d f)
  (z:∀d,Calls Tryz.prog 103 #[.int .u64 b] d fun r f=>r=.returned (.int .i64 t)∧Below d.heap.size d f)
  (A:∀d,Calls Tryz.prog 225 #[.int .u64 0,.int .u64 a,.int .u64 b] d fun r f=>r=.returned (.int .u64 (o:Nat))∧Below d.heap.size d f):
  Calls Tryz.prog 201 #[.int .u64 a,.int .u64 b] w fun r d=>r=.returned (.tuple #[.int .u64 (o:Nat),.int .u8 0])∧Below w.heap.size w d:=by
 have D:=aa y;have F:=aa z
 clear y z
 go_enter Tryz.func201,Tryz.ntmps201
 go_wp2_with fail
 refine(uH D _).mono ?_
 rintro e K ⟨rfl,h⟩
 go_wp2_with fail
 refine(uH F _).mono ?_
 rintro e L ⟨rfl,l⟩
 have B:=aa (h.trans (l.mono h.size))
 clear h l D F
 have G:=aa A
 clear A
 go_wp2_with fail
 refine(uH G _).mono ?_
 rintro e M ⟨rfl,m⟩
 have B:=aa ((uH B).trans (m.mono (uH B).size))
 clear m G
 go_wp2
 exact bodyPost_ret (v:=.tuple #[.int .u64 (o:Nat),.int .u8 0]) (by simp[results,Tryz.results201,go_sem]) rfl ⟨rfl,uH B⟩
theorem Hw(a b:Nat)(t:Int)(o:Nat)(w:World)(H:(t==4)=false)(I:(t==3)=false)(K:(t==0)=false)
  (y:∀d,Calls Tryz.prog 103 #[.int .u64 a] d fun r f=>r=.returned (.int .i64 t)∧Below d.heap.size d f)
  (z:∀d,Calls Tryz.prog 103 #[.int .u64 b] d fun r f=>r=.returned (.int .i64 0)∧Below d.heap.size d f)
  (A:∀d,Calls Tryz.prog 225 #[.int .u64 0,.int .u64 a,.int .u64 b] d fun r f=>r=.returned (.int .u64 (o:Nat))∧Below d.heap.size d f):
  Calls Tryz.prog 201 #[.int .u64 a,.int .u64 b] w fun r d=>r=.returned (.tuple #[.int .u64 (o:Nat),.int .u8 0])∧Below w.heap.size w d:=by
 have D:=aa y;have F:=aa z
 clear y z
 go_enter Tryz.func201,Tryz.ntmps201
 go_wp2_with fail
 refine(uH D _).mono ?_
 rintro e L ⟨rfl,h⟩
 go_wp2_with fail
 refine(uH F _).mono ?_
 rintro e M ⟨rfl,l⟩
 have B:=aa (h.trans (l.mono h.size))
 clear h l D F
 have G:=aa A
 clear A
 go_wp2_with fail
 refine(uH G _).mono ?_
 rintro e N ⟨rfl,m⟩
 have B:=aa ((uH B).trans (m.mono (uH B).size))
 clear m G
 go_wp2
 exact bodyPost_ret (v:=.tuple #[.int .u64 (o:Nat),.int .u8 0]) (by simp[results,Tryz.results201,go_sem]) rfl ⟨rfl,uH B⟩
theorem Hx(a b:Nat)(t y:Int)(z:Int)(o:Nat)(w:World)(M:(t==4)=false)(N:(t==3)=false)(O:(t==0)=false)(Q:(y==4)=false)(U:(y==3)=false)(V:(y==0)=false)(A:b7 w)
  (D:∀d,Calls Tryz.prog 103 #[.int .u64 a] d fun r f=>r=.returned (.int .i64 t)∧Below d.heap.size d f)
  (F:∀d,Calls Tryz.prog 103 #[.int .u64 b] d fun r f=>r=.returned (.int .i64 y)∧Below d.heap.size d f)
  (G:∀d,b7 d→Calls Tryz.prog 226 #[.int .u64 a,.int .u64 b] d fun r f=>r=.returned (.tuple #[.int .u64 (o:Nat),.int .u8 z])∧Below d.heap.size d f):
  Calls Tryz.prog 201 #[.int .u64 a,.int .u64 b] w fun r d=>r=.returned (.tuple #[.int .u64 (o:Nat),.int .u8 z])∧Below w.heap.size w d:=by
 have H:=aa D;have I:=aa F
 clear D F
 go_enter Tryz.func201,Tryz.ntmps201
 go_wp2_with fail
 refine(uH H _).mono ?_
 rintro e X ⟨rfl,h⟩
 go_wp2_with fail
 refine(uH I _).mono ?_
 rintro e Y ⟨rfl,l⟩
 have B:=aa (h.trans (l.mono h.size))
 clear h l H I
 have K:=aa G;have L:=aa (A.all (uH B))
 clear G A
 go_wp2_with fail
 refine(uH K _ (uH L)).mono ?_
 rintro e Z ⟨rfl,m⟩
 have B:=aa ((uH B).trans (m.mono (uH B).size))
 clear m K L
 go_wp2
 exact bodyPost_ret (v:=.tuple #[.int .u64 (o:Nat),.int .u8 z]) (by simp[results,Tryz.results201,go_sem]) rfl ⟨rfl,uH B⟩
theorem Bo(a b:Nat)(w:World)(F:a<18446744073709551616)(G:b<18446744073709551616)(O:b7 w):
  Calls Tryz.prog 201 #[.int .u64 a,.int .u64 b] w fun r l=>r=.returned (.tuple #[.int .u64 (mV a b:Nat),.int .u8 (mF a b)])∧Below w.heap.size w l:=by
 have d:=fun l=>cu a l F
 have f:=fun l=>cu b l G
 have M:=fun l=>fp 9218868437227405312 a b l F G (by decide)
 have N:=fun l=>fp 0 a b l F G (by decide)
 by_cases m:fK a=4
 ·rw[show mV a b=9221120237041090560 by unfold mV;rw[if_pos (Or.inl m)],show mF a b=0 by unfold mF;rw[if_pos (Or.inl m)]]
  rw[m]at d
  exact E8 a b _ w d f
 by_cases y:fK b=4
 ·rw[show mV a b=9221120237041090560 by unfold mV;rw[if_pos (Or.inr y)],show mF a b=0 by unfold mF;rw[if_pos (Or.inr y)]]
  rw[y]at f
  exact E9 a b _ w (by simp[m]) d f
 have A:¬(fK a=4∨fK b=4):=by omega
 by_cases D:fK a=3∨fK b=3
 ·by_cases z:fK a=0∨fK b=0
  ·rw[show mV a b=9221120237041090560 by unfold mV;rw[if_neg A,if_pos D,if_pos z],show mF a b=16 by unfold mF;rw[if_neg A,if_pos D,if_pos z]]
   by_cases H:fK a=3
   ·have K:fK b=0:=by omega
    rw[H]at d
    rw[K]at f
    exact Fa a b w d f
   ·have L:fK b=3:=by omega
    have I:fK a=0:=by omega
    rw[I]at d
    rw[L]at f
    exact Fb a b w d f
  ·rw[show mV a b=cr (fS a^^fS b) 9218868437227405312 by unfold mV;rw[if_neg A,if_pos D,if_neg z],show mF a b=0 by unfold mF;rw[if_neg A,if_pos D,if_neg z]]
   by_cases H:fK a=3
   ·rw[H]at d
    exact Ht a b _ _ w (by simp[y]) (by simp;omega) d f M
   ·have L:fK b=3:=by omega
    rw[L]at f
    exact Hu a b _ _ w (by simp[m]) (by simp;omega) (by simp[H]) d f M
 ·by_cases z:fK a=0∨fK b=0
  ·have Q:rv (fR a)*rv (fR b)=0:=by
    rcases z with h|h
    ·rw[(ls _).2 ((bs a).1 h),Nat.zero_mul]
    ·rw[(ls _).2 ((bs b).1 h),Nat.mul_zero]
   rw[show mV a b=cr (fS a^^fS b) 0 by unfold mV;rw[if_neg A,if_neg D,Q,pF],show mF a b=0 by unfold mF;rw[if_neg A,if_neg D,if_pos z]]
   by_cases I:fK a=0
   ·rw[I]at d
    exact Hv a b _ _ w (by simp[y]) (by simp;omega) d f N
   ·have K:fK b=0:=by omega
    rw[K]at f
    exact Hw a b _ _ w (by simp[m]) (by simp;omega) (by simp[I]) d f N
  ·exact Hx a b _ _ _ _ w (by simp[m]) (by simp;omega) (by simp;omega) (by simp[y]) (by simp;omega) (by simp;omega) O d f (fun l t=>oY a b l F G (bh a (by omega) m) (bh b (by omega) y) (by omega) (by omega) t)
theorem Bp(a:Nat)(k:Int)(f:Bool)(w:World)(z:f=false∨(f=true∧k=0))
  (l:∀h,Calls Tryz.prog 100 #[.int .u64 a] h fun r d=>r=.returned (.bool f)∧h=d)
  (m:∀h,Calls Tryz.prog 44 #[.int .u64 a] h fun r d=>r=.returned (.int .i64 k)∧h=d):
  Calls Tryz.prog 133 #[.int .u64 a] w fun r h=>r=.returned (.int .i64 0)∧Below w.heap.size w h:=by
 have t:=aa l;have A:=aa m
 clear l m
 rcases z with rfl|⟨rfl,rfl⟩
 ·go_enter Tryz.func133,Tryz.ntmps133
  go_wp2_with fail
  refine(uH t _).mono ?_
  rintro e y ⟨rfl,rfl⟩
  go_wp2
  go_ret
  exact⟨rfl,Below.refl _ _⟩
 ·go_enter Tryz.func133,Tryz.ntmps133
  go_wp2_with fail
  refine(uH t _).mono ?_
  rintro e y ⟨rfl,rfl⟩
  go_wp2_with fail
  refine(uH A _).mono ?_
  rintro e y ⟨rfl,rfl⟩
  go_wp2
  go_ret
  exact⟨rfl,Below.refl _ _⟩
theorem Bq(a:Nat)(k D X t:Int)(w:World)(Z:(k==0)=false)(ht:-2000≤t∧t≤2000)
  (z:∀f,Calls Tryz.prog 100 #[.int .u64 a] f fun r d=>r=.returned (.bool true)∧f=d)
  (A:∀f,Calls Tryz.prog 44 #[.int .u64 a] f fun r d=>r=.returned (.int .i64 k)∧f=d)
  (F:∀f,Calls Tryz.prog 77 #[.int .u64 a] f fun r d=>∃u,r=.returned u∧aG d u D X∧Below f.heap.size f d)
  (G:∀f v,aG f v D X→Calls Tryz.prog 143 #[v] f fun r d=>r=.returned (.int .i64 t)∧Below f.heap.size f d):
  Calls Tryz.prog 133 #[.int .u64 a] w fun r f=>r=.returned (.int .i64 (t-1))∧Below w.heap.size w f:=by
 have H:=aa z;have I:=aa A;have K:=aa F;have L:=aa G
 clear z A F G
 have hw:=aW (t-1) (by omega)
 go_enter Tryz.func133,Tryz.ntmps133
 go_wp2_with fail
 refine(uH H _).mono ?_
 rintro e y ⟨rfl,rfl⟩
 go_wp2_with fail
 refine(uH I _).mono ?_
 rintro e y ⟨rfl,rfl⟩
 go_wp2_with fail
 refine(uH K _).mono ?_
 rintro e y ⟨v,rfl,Y,h⟩
 obtain⟨N,O,Q,m,rfl,U⟩:=Y
 have M:=aa (show aG y (.agg #[.bool N,.slice O m.length Q,.int .i64 X]) D X from⟨N,O,Q,m,rfl,U⟩)
 have l:=aa h
 clear U h H I K
 generalize m.length=l1 at*
 go_wp2_with fail
 refine(uH L _ _ (uH M)).mono ?_
 rintro e w2 ⟨rfl,h⟩
 have V:=aa ((uH l).trans (h.mono (uH l).size))
 clear h l M L
 go_wp2
 go_ret
 exact⟨rfl,uH V⟩
theorem Jg{w:World}{v:Value}{D X:Int}(d:aG w v D X)(H:D%2=1)(I:D.natAbs<9007199254740992)(K:-1074≤X∧X≤1024):
  Calls Tryz.prog 143 #[v] w fun r m=>r=.returned (.int .i64 ((bl D.natAbs:Int)+X))∧Below w.heap.size w m:=by
 obtain⟨z,ao,F,A,rfl,f,l,G,L,M⟩:=d.right (cW _ (by omega))
 have:=m8 z ao F A X w f (by omega) (by omega)
 have d:an A=D.natAbs:=by rw[←G,aR]
 have t:=iN f.2.1 l
 have y:A.length≠0:=fun h=>by
  have:=(aK l).2 h
  omega
 unfold gT at this
 rw[if_neg y,t,d]at this
 exact this
theorem yx(a:Nat)(w:World)(f:a<18446744073709551616):
  Calls Tryz.prog 133 #[.int .u64 a] w fun r d=>r=.returned (.int .i64 (eX a))∧Below w.heap.size w d:=by
 have l:=fun d=>cJ a d f
 have t:=fun d=>eP a d f
 unfold eX
 by_cases h:fK a=4∨fK a=3∨fK a=0
 ·rw[if_pos h]
  refine Bp a _ _ w ?_ l t
  rcases gg a with⟨m,_⟩|⟨m,L⟩
  ·exact .inl m
  ·exact .inr ⟨m,by omega⟩
 ·rw[if_neg h]
  have y:=bh a (by omega) (by omega)
  obtain⟨z1,z2,A,D,F,G,H,I,K⟩:=jk a f y (by omega)
  rw[y]at l
  exact Bq a _ (fD a) (fX a) _ w (by simp;omega) (by omega) l t (fun d=>j6 a d f) (fun d v z=>Jg z z1 z2 (by omega))
def eN(b:Nat):Int:=if aC b=true then 0 else if fS b=true then-1 else 1
theorem Fc(b:Nat)(f s:Bool)(w:World)
  (t:∀h,Calls Tryz.prog 100 #[.int .u64 b] h fun r d=>r=.returned (.bool f)∧h=d)
  (y:∀h,Calls Tryz.prog 120 #[.int .u64 b] h fun r d=>r=.returned (.bool s)∧h=d):
  Calls Tryz.prog 122 #[.int .u64 b] w fun e h=>e=.returned (.int .i64 (if f=true then 0 else if s=true then-1 else 1))∧w=h:=by
 have m:=aa t;have z:=aa y
 clear t y
 cases f
 ·cases s
  ·go_enter Tryz.func122,Tryz.ntmps122
   go_wp2_with fail
   refine(uH m _).mono ?_
   rintro e l ⟨rfl,rfl⟩
   go_wp2_with fail
   refine(uH z _).mono ?_
   rintro e l ⟨rfl,rfl⟩
   go_wp2
   go_ret
   exact⟨rfl,rfl⟩
  ·go_enter Tryz.func122,Tryz.ntmps122
   go_wp2_with fail
   refine(uH m _).mono ?_
   rintro e l ⟨rfl,rfl⟩
   go_wp2_with fail
   refine(uH z _).mono ?_
   rintro e l ⟨rfl,rfl⟩
   go_wp2
   go_ret
   exact⟨rfl,rfl⟩
 ·go_enter Tryz.func122,Tryz.ntmps122
  go_wp2_with fail
  refine(uH m _).mono ?_
  rintro e l ⟨rfl,rfl⟩
  go_wp2
  go_ret
  exact⟨rfl,rfl⟩
theorem sQ(b:Nat)(w:World)(f:b<18446744073709551616):
  Calls Tryz.prog 122 #[.int .u64 b] w fun e d=>e=.returned (.int .i64 (eN b))∧w=d:=
 Fc b (aC b) (fS b) w (fun d=>cJ b d f) (fun d=>fY b d f)
theorem yy(a b:Nat)(w:World)
  (h:∀d,Calls Tryz.prog 44 #[.int .u64 a] d fun r f=>r=.returned (.int .i64 4)∧d=f):
  Calls Tryz.prog 68 #[.int .u64 a,.int .u64 b] w fun r d=>r=.returned (.tuple #[.int .i64 0,.bool false])∧Below w.heap.size w d:=by
 have l:=aa h
 clear h
 go_enter Tryz.func68,Tryz.ntmps68
 go_wp2_with fail
 refine(uH l _).mono ?_
 rintro e m ⟨rfl,rfl⟩
 clear l
 go_wp2
 exact bodyPost_ret (v:=.tuple #[.int .i64 0,.bool false]) (by simp[results,Tryz.results68,go_sem]) rfl ⟨rfl,Below.refl _ _⟩
theorem yz(a b:Nat)(h:Int)(w:World)(A:(h==4)=false)
  (l:∀f,Calls Tryz.prog 44 #[.int .u64 a] f fun r d=>r=.returned (.int .i64 h)∧f=d)
  (m:∀f,Calls Tryz.prog 44 #[.int .u64 b] f fun r d=>r=.returned (.int .i64 4)∧f=d):
  Calls Tryz.prog 68 #[.int .u64 a,.int .u64 b] w fun r f=>r=.returned (.tuple #[.int .i64 0,.bool false])∧Below w.heap.size w f:=by
 have t:=aa l;have y:=aa m
 clear l m
 go_enter Tryz.func68,Tryz.ntmps68
 go_wp2_with fail
 refine(uH t _).mono ?_
 rintro e z ⟨rfl,rfl⟩
 clear t
 go_wp2_with fail
 refine(uH y _).mono ?_
 rintro e z ⟨rfl,rfl⟩
 clear y
 go_wp2
 exact bodyPost_ret (v:=.tuple #[.int .i64 0,.bool false]) (by simp[results,Tryz.results68,go_sem]) rfl ⟨rfl,Below.refl _ _⟩
theorem fs(a b:Nat)(l m x y o:Int)(w:World)(L:(l==4)=false)(M:(m==4)=false)
  (K:(x=0∧y= -1∧o=1)∨(x=0∧y=1∧o= -1)∨(x= -1∧y=0∧o= -1)∨(x=1∧y=0∧o=1)∨(x= -1∧y= -1∧o=0)∨(x=1∧y=1∧o=0)∨(x= -1∧y=1∧o= -1)∨(x=1∧y= -1∧o=1))
  (t:∀f,Calls Tryz.prog 44 #[.int .u64 a] f fun r d=>r=.returned (.int .i64 l)∧f=d)
  (z:∀f,Calls Tryz.prog 44 #[.int .u64 b] f fun r d=>r=.returned (.int .i64 m)∧f=d)
  (A:∀f,Calls Tryz.prog 122 #[.int .u64 a] f fun r d=>r=.returned (.int .i64 x)∧f=d)
  (D:∀f,Calls Tryz.prog 122 #[.int .u64 b] f fun r d=>r=.returned (.int .i64 y)∧f=d):
  Calls Tryz.prog 68 #[.int .u64 a,.int .u64 b] w fun r f=>r=.returned (.tuple #[.int .i64 o,.bool true])∧Below w.heap.size w f:=by
 have F:=aa t;have G:=aa z;have H:=aa A;have I:=aa D
 clear t z A D
 rcases K with⟨rfl,rfl,rfl⟩|⟨rfl,rfl,rfl⟩|⟨rfl,rfl,rfl⟩|⟨rfl,rfl,rfl⟩|⟨rfl,rfl,rfl⟩|⟨rfl,rfl,rfl⟩|⟨rfl,rfl,rfl⟩|⟨rfl,rfl,rfl⟩
 all_goals
  go_enter Tryz.func68,Tryz.ntmps68
  go_wp2_with fail
  refine(uH F _).mono ?_
  rintro e h ⟨rfl,rfl⟩
  clear F
  go_wp2_with fail
  refine(uH G _).mono ?_
  rintro e h ⟨rfl,rfl⟩
  clear G
  go_wp2_with fail
  refine(uH H _).mono ?_
  rintro e h ⟨rfl,rfl⟩
  clear H
  go_wp2_with fail
  refine(uH I _).mono ?_
  rintro e h ⟨rfl,rfl⟩
  clear I
  go_wp2
  refine bodyPost_ret (v:=.tuple #[.int .i64 _,.bool true]) (by simp[results,Tryz.results68,go_sem];try rfl) rfl ⟨rfl,Below.refl _ _⟩
theorem Br(a b:Nat)(F G z1 z2 m t o:Int)(w:World)(h4:(F==4)=false)(g4:(G==4)=false)
  (H:∀f,Calls Tryz.prog 44 #[.int .u64 a] f fun r d=>r=.returned (.int .i64 F)∧f=d)
  (I:∀f,Calls Tryz.prog 44 #[.int .u64 b] f fun r d=>r=.returned (.int .i64 G)∧f=d)
  (K:∀f,Calls Tryz.prog 122 #[.int .u64 a] f fun r d=>r=.returned (.int .i64 0)∧f=d)
  (L:∀f,Calls Tryz.prog 122 #[.int .u64 b] f fun r d=>r=.returned (.int .i64 0)∧f=d)
  (M:∀f,Calls Tryz.prog 77 #[.int .u64 a] f fun r d=>∃u,r=.returned u∧aG d u z1 m∧Below f.heap.size f d)
  (N:∀f,Calls Tryz.prog 77 #[.int .u64 b] f fun r d=>∃u,r=.returned u∧aG d u z2 t∧Below f.heap.size f d)
  (O:∀f v u,aG f v z1 m→aG f u z2 t→Calls Tryz.prog 90 #[v,u] f fun r d=>r=.returned (.int .i64 o)∧Below f.heap.size f d):
  Calls Tryz.prog 68 #[.int .u64 a,.int .u64 b] w fun r f=>r=.returned (.tuple #[.int .i64 o,.bool true])∧Below w.heap.size w f:=by
 have Q:=aa H;have U:=aa I;have V:=aa K;have X:=aa L;have Y:=aa M;have Z:=aa N;have K7:=aa O
 clear H I K L M N O
 go_enter Tryz.func68,Tryz.ntmps68
 go_wp2_with fail
 refine(uH Q _).mono ?_
 rintro e l ⟨rfl,rfl⟩
 clear Q
 go_wp2_with fail
 refine(uH U _).mono ?_
 rintro e l ⟨rfl,rfl⟩
 clear U
 go_wp2_with fail
 refine(uH V _).mono ?_
 rintro e l ⟨rfl,rfl⟩
 clear V
 go_wp2_with fail
 refine(uH X _).mono ?_
 rintro e l ⟨rfl,rfl⟩
 clear X
 go_wp2_with fail
 refine(uH Y _).mono ?_
 rintro e l ⟨v,rfl,D,h⟩
 obtain⟨n1,a1,c1,L1,rfl,i1⟩:=D
 have HV:=aa (show aG l (.agg #[.bool n1,.slice a1 L1.length c1,.int .i64 m]) z1 m from⟨n1,a1,c1,L1,rfl,i1⟩)
 have y:=aa h
 clear i1 h Y
 go_wp2_with fail
 refine(uH Z _).mono ?_
 rintro e w2 ⟨v,rfl,D,h⟩
 obtain⟨n2,a2,c2,L2,rfl,i2⟩:=D
 have HU:=aa (show aG w2 (.agg #[.bool n2,.slice a2 L2.length c2,.int .i64 t]) z2 t from⟨n2,a2,c2,L2,rfl,i2⟩)
 have z:=aa ((uH HV).below h)
 have A:=aa ((uH y).trans (h.mono (uH y).size))
 clear i2 h Z y HV
 go_wp2_with fail
 refine(uH K7 _ _ _ (uH z) (uH HU)).mono ?_
 rintro e w3 ⟨rfl,h⟩
 have B3:=aa ((uH A).trans (h.mono (uH A).size))
 clear h K7 A
 go_wp2
 exact bodyPost_ret (v:=.tuple #[.int .i64 o,.bool true]) (by simp[results,Tryz.results68,go_sem]) rfl ⟨rfl,uH B3⟩
theorem vg{b:Nat}(h:aC b=true):eN b=0:=by unfold eN;rw[if_pos h]
theorem vh{b:Nat}(h:fK b=3):(eN b= -1∧fZ b= -((2^2098:Nat):Int))∨(eN b=1∧fZ b=((2^2098:Nat):Int)):=by
 have f:aC b=false:=by
  rcases gg b with d|d
  ·exact d.1
  ·omega
 have l:=(bu b).2.1.1 h
 unfold eN fZ pv
 rw[l,AO,if_neg (by rw[f];decide)]
 cases fS b
 ·exact .inr ⟨rfl,rfl⟩
 ·exact .inl ⟨rfl,rfl⟩
theorem nO(a b:Nat)(w:World)(N:a<18446744073709551616)(O:b<18446744073709551616):
  Calls Tryz.prog 68 #[.int .u64 a,.int .u64 b] w fun r d=>r=.returned (.tuple #[.int .i64 (cO a b),.bool (cB a b)])∧Below w.heap.size w d:=by
 have m:=fun d=>eP a d N
 have y:=fun d=>eP b d O
 have t:=fun d=>sQ a d N
 have f:=fun d=>sQ b d O
 unfold cO cB
 by_cases D:fK a=4
 ·rw[if_pos (Or.inl D),if_pos (Or.inl D)]
  rw[D]at m
  exact yy a b w m
 by_cases F:fK b=4
 ·rw[if_pos (Or.inr F),if_pos (Or.inr F)]
  rw[F]at y
  exact yz a b _ w (by simp[D]) m y
 have h:¬(fK a=4∨fK b=4):=fun h=>h.elim D F
 rw[if_neg h,if_neg h]
 have z:(fK a==4)=false:=by simp[D]
 have A:(fK b==4)=false:=by simp[F]
 have hP:(0:Int)<((2^2098:Nat):Int):=Int.natCast_pos.2 (Nat.two_pow_pos 2098)
 by_cases V:fK a=3
 ·have X:=vh V
  by_cases H:fK b=3
  ·have U:=vh H
   rcases X with⟨I,K⟩|⟨I,K⟩<;>rcases U with⟨L,M⟩|⟨L,M⟩<;>rw[I]at t<;>rw[L]at f<;>rw[K,M]<;>generalize ((2^2098:Nat):Int)=P at*
   ·rw[jj rfl];exact fs a b _ _ _ _ _ w z A (by decide) m y t f
   ·rw[il (by omega)];exact fs a b _ _ _ _ _ w z A (by decide) m y t f
   ·rw[im (by omega)];exact fs a b _ _ _ _ _ w z A (by decide) m y t f
   ·rw[jj rfl];exact fs a b _ _ _ _ _ w z A (by decide) m y t f
  ·have G:=bh b H F
   have l:=kF b G
   rw[vg G]at f
   rcases X with⟨I,K⟩|⟨I,K⟩<;>rw[I]at t<;>rw[K]<;>generalize (2^2098:Nat)=P at*
   ·rw[il (by omega)];exact fs a b _ _ _ _ _ w z A (by decide) m y t f
   ·rw[im (by omega)];exact fs a b _ _ _ _ _ w z A (by decide) m y t f
 ·have Q:=bh a V D
  have la:=kF a Q
  rw[vg Q]at t
  by_cases H:fK b=3
  ·have U:=vh H
   rcases U with⟨L,M⟩|⟨L,M⟩<;>rw[L]at f<;>rw[M]<;>generalize (2^2098:Nat)=P at*
   ·rw[im (by omega)];exact fs a b _ _ _ _ _ w z A (by decide) m y t f
   ·rw[il (by omega)];exact fs a b _ _ _ _ _ w z A (by decide) m y t f
  ·have G:=bh b H F
   rw[vg G]at f
   clear la
   obtain⟨d1,d2⟩:=dJ a N Q
   obtain⟨d3,d4⟩:=dJ b O G
   exact Br a b _ _ (fD a) (fD b) (fX a) (fX b) _ w z A m y t f (fun d=>j6 a d N) (fun d=>j6 b d O)
    (fun d v u Y Z=>I6 (W:=2099) (lo:=-1074) (z1:=fZ a) (z2:=fZ b) (by rw[d1,d2];exact Y) (by rw[d3,d4];exact Z) (lm a Q) (lm b G))
theorem pQ(a:Nat)(w:World)(d:a<18446744073709551616):
  Calls Tryz.prog 67 #[.int .u64 a] w fun e h=>e=.returned (.int .u64 (fR a:Nat))∧w=h:=by
 have f:=aa (fun h=>fY a h d)
 have l:=aa (fun h=>jc a h d)
 cases hs:fS a
 ·rw[hs]at f
  rw[sJ a hs d]
  clear hs d l
  go_enter Tryz.func67,Tryz.ntmps67
  go_wp2_with fail
  refine(uH f _).mono ?_
  rintro e m ⟨rfl,rfl⟩
  clear f
  go_wp2
  go_ret
  exact⟨rfl,rfl⟩
 ·rw[hs]at f
  rw[pL a hs d]
  clear hs d
  generalize fN a=q at*
  go_enter Tryz.func67,Tryz.ntmps67
  go_wp2_with fail
  refine(uH f _).mono ?_
  rintro e m ⟨rfl,rfl⟩
  clear f
  go_wp2_with fail
  refine(uH l _).mono ?_
  rintro e t ⟨rfl,rfl⟩
  clear l
  go_wp2
  go_ret
  exact⟨rfl,rfl⟩
theorem d9(R:Nat)(W:World):(callFunc 167 #[.int .u64 R]).run Tryz.prog W=.ok (.value (.float .f64 R)) W:=by
 rw[run_callFunc_extern (e:=Extern.MathFloatBits.float64frombits) Tryz.func167 (by kernel_rfl) (by kernel_rfl) (by kernel_rfl) (by kernel_rfl)]
 show((pure (.float .f64 ((R:Int).toNat)):Sem Value).run Tryz.prog W).andThen (fun v d=>.ok (Next.value v) d)=_
 simp
def fC(o:Option Nat)(x y:Nat)(w:World):Nat:=
 match o with
 |some r=>r
 |none=>(Question.nanBits .f64 x y).cut (w.tape w.drawn (.nanBits .f64 x y))
def lC(o:Option Nat)(w:World):World:=
 match o with
 |some _=>w
 |none=>{w with drawn:=w.drawn+1}
theorem Bs(t:TypeId)(x y:Nat)(w:World):(binOp .add t (.float .f64 x) (.float .f64 y)).run Tryz.prog w=.ok (.float .f64 (fC (Ieee.double.add x y) x y w)) (lC (Ieee.double.add x y) w):=by
 have d:FloatKind.f64.format=Ieee.double:=rfl
 cases h:Ieee.double.add x y with
 |some r=>exact run_float_arith w .add t .f64 x y r (by unfold floatBits;rw[d];exact h)
 |none=>
  simp only[binOp,Op.floatArith,d,h]
  rfl
theorem Bt(t:TypeId)(x y:Nat)(w:World):(binOp .sub t (.float .f64 x) (.float .f64 y)).run Tryz.prog w=.ok (.float .f64 (fC (Ieee.double.sub x y) x y w)) (lC (Ieee.double.sub x y) w):=by
 have d:FloatKind.f64.format=Ieee.double:=rfl
 cases h:Ieee.double.sub x y with
 |some r=>exact run_float_arith w .sub t .f64 x y r (by unfold floatBits;rw[d];exact h)
 |none=>
  simp only[binOp,Op.floatArith,d,h]
  rfl
theorem gv(o:Option Nat)(w:World):Below w.heap.size w (lC o w):=by
 cases o
 ·exact(Below.refl _ _).drew
 ·exact Below.refl _ _
theorem lE(x y:Nat)(w:World):fC none x y w<18446744073709551616∧fK (fC none x y w)=4:=by
 have h:fC none x y w=(w.tape w.drawn (.nanBits .f64 x y)%2)*9223372036854775808+9218868437227405312+1+(w.tape w.drawn (.nanBits .f64 x y)/2)%4503599627370495:=rfl
 rw[h]
 clear h
 generalize w.tape w.drawn (.nanBits .f64 x y)=t
 have d:=Nat.mod_lt t (show 0<2 by decide)
 have f:=Nat.mod_lt (t/2) (show 0<4503599627370495 by decide)
 generalize t/2%4503599627370495=u at*
 generalize t%2=v at*
 refine⟨by omega,(bu _).1.2 ?_⟩
 unfold fR
 obtain rfl|rfl:v=0∨v=1:=by omega
 ·omega
 ·omega
theorem kK(R:Nat)(W:World):(callFunc 130 #[.float .f64 R]).run Tryz.prog W=.ok (.value (.int .u64 R)) W:=by
 rw[run_callFunc_extern (e:=Extern.MathFloatBits.float64bits) Tryz.func130 (by kernel_rfl) (by kernel_rfl) (by kernel_rfl) (by kernel_rfl)]
 show((pure (.int .u64 (R:Int)):Sem Value).run Tryz.prog W).andThen (fun v d=>.ok (Next.value v) d)=_
 simp
theorem eZ(b:Nat)(w:World)(h:b<18446744073709551616):
  Calls Tryz.prog 129 #[.int .u64 b] w fun r f=>r=.returned (.int .u64 ((if fK b=4 then 9221120237041090560 else b:Nat):Int))∧w=f:=by
 have K:=aa (fun f=>eP b f h)
 have m:IntKind.u64.wrap (b:Int)=(b:Int):=by simp only[IntKind.wrap_u64];omega
 by_cases d:fK b=4
 ·rw[if_pos d]
  rw[d]at K
  clear d h
  go_enter Tryz.func129,Tryz.ntmps129
  go_wp2_with fail
  refine(uH K _).mono ?_
  rintro e l ⟨rfl,rfl⟩
  go_wp2
  go_ret
  exact⟨rfl,rfl⟩
 ·rw[if_neg d]
  have t:(fK b==4)=false:=by simp[d]
  generalize fK b=k at*
  clear d h
  go_enter Tryz.func129,Tryz.ntmps129
  go_wp2_with fail
  refine(uH K _).mono ?_
  rintro e l ⟨rfl,rfl⟩
  go_wp2
  go_ret
  exact⟨rfl,rfl⟩
theorem pR(a b:Nat)(w l:World)(t:a<18446744073709551616)(y:b<18446744073709551616):
  Calls Tryz.prog 129 #[.int .u64 (fC (Ieee.double.add a b) a b w:Nat)] l fun r z=>r=.returned (.int .u64 (aV a b:Nat))∧l=z:=by
 cases h:aN a b with
 |true=>
  obtain⟨G,H⟩:=pG a b t y h
  rw[G,H]
  obtain⟨I,d⟩:=lE a b w
  have:=eZ _ l I
  rw[if_pos d]at this
  exact this
 |false=>
  rw[pH a b t y h]
  have:=eZ (aV a b) l (kG a b t y)
  by_cases d:fK (aV a b)=4
  ·exfalso
   have A:=of_decide_eq_false h
   have D:¬(fK a=4∨fK b=4):=fun e=>A (Or.inl e)
   unfold aV at d
   rw[if_neg D]at d
   by_cases f:fK a=3
   ·rw[if_pos f,if_neg (fun h=>A (Or.inr ⟨f,h.1,h.2⟩))]at d
    omega
   ·rw[if_neg f]at d
    by_cases m:fK b=3
    ·rw[if_pos m]at d;omega
    ·rw[if_neg m]at d
     have K:=(Hc a b (bh a f (by omega)) (bh b m (by omega))).1
     have F:=eM (aZ a b).natAbs (-1074)
     have e:=(wN a b f (by omega) m (by omega)).1
     rw[←e]at d
     have:=(bu _).1.1 d
     omega
  ·rw[if_neg d]at this
   exact this
end Go.Proofs.YtlnphkioddknfaaGreatDoor
