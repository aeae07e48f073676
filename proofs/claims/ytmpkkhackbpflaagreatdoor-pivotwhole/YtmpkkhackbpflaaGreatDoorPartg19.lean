/- Part 19 of the texts. -/
import Derived.Test.YtmpkkhackbpflaaGreatDoorPartg18
set_option maxHeartbeats 4000000
namespace Go.Proofs.YtmpkkhackbpflaaGreatDoor
open Go.RowKit
theorem kl{B:Nat}{w:World}{v:Value}{z:Int}(F:ar B w v z)(G:-9223372036854775808≤z∧z≤9223372036854775807):
  Calls Tryz.prog 251 #[v] w fun e H=>e=.returned (.tuple #[.int .i64 z,.int .i64 0])∧Below w.heap.size w H:=by
 obtain⟨d,L,M,A,rfl,N,l,D,_⟩:=F.right (pq (k:=64) (by have:(2:Nat)^64=18446744073709551616:=(by decide);omega) (by decide))
 have h:=rH d L M A w N (by have:=(aN l).1;omega)
 have t:jm (aj d A)=true:=by unfold jm;rw[D];exact decide_eq_true G
 have I:tT d A=z:=by unfold tT;rw[l,t];simpa using D
 have J:tR d A=0:=by unfold tR;rw[l,t];rfl
 rw[I,J]at h
 exact h
theorem AU(n:Nat)(h:n<1152921504606846976):bits .and .i64 (n:Int) 1=((n%2:Nat):Int):=by
 have d:=Go.bits_nat .i64 62 (by decide) (fun x t d=>by rw[IntKind.wrap_i64];simp at d;omega) n 1 (by simp;omega) (by decide)
 have l:=d.1
 refine l.trans ?_
 rw[Nat.and_one_is_mod]
theorem AV(n:Nat)(h:n<1152921504606846976):bits .and .i64 (n:Int) 2=((2*(n/2%2):Nat):Int):=by
 have d:=Go.bits_nat .i64 62 (by decide) (fun x D d=>by rw[IntKind.wrap_i64];simp at d;omega) n 2 (by simp;omega) (by decide)
 have t:=d.1
 refine t.trans ?_
 have z:(n&&& 2)%2=0:=by
  have:=Nat.and_mod_two_pow (a:=n) (b:=2) (n:=1)
  simpa using this
 have l:(n&&& 2)/2=(n/2)&&& 1:=by
  have:=Nat.and_div_two_pow (a:=n) (b:=2) (n:=1)
  simpa using this
 rw[Nat.and_one_is_mod]at l
 have:=Nat.div_add_mod (n&&& 2) 2
 rw[z,l]at this
 congr 1
 omega
theorem AW(J:Bool)(t:Option Addr)(z l N:Nat)(E d:Int)(q:Bool)(w:World)(hE:-20000≤E∧E≤20000)(hL:-20000≤d∧d≤20000)(aa:(0:Int)≤N)(hN:(N:Int)<1152921504606846976)
  (CS:∀D,Below w.heap.size w D→Calls Tryz.prog 237 #[.agg #[.bool false,.slice t l z],.int .i64 (E-d+1)] D fun e H=>∃v,e=.returned (.tuple #[v,.int .i64 0])∧ar D.heap.size H v N∧Below D.heap.size D H)
  (p1:bits .and .i64 (N:Int) 1=0) (t1:(E==d-1)=q):
  Calls Tryz.prog 239 #[.agg #[.bool J,.slice t l z,.int .i64 E],.int .i64 d] w fun e D=>e=.returned (.int .u64 ((N/2:Nat):Int))∧Below w.heap.size w D:=by
 have KS:=ac CS
 clear CS
 obtain⟨r1,r2⟩:=hE
 obtain⟨r3,r4⟩:=hL
 have I:Below w.heap.size w ((w.alloc (.cells #[.bool J,.slice t l z,.int .i64 E] 57)).alloc (.cells #[.bool false,.slice t l z] 55)):=((Below.refl _ _).alloc (Nat.le_refl _) _).alloc (by simp) _
 have L:=ac I
 have X0:=ac (show a8 ((w.alloc (.cells #[.bool J,.slice t l z,.int .i64 E] 57)).alloc (.cells #[.bool false,.slice t l z] 55)) w.heap.size (.bool J) (.slice t l z) (.int .i64 E)from(a8.new _ _ _ _).old _)
 clear I
 go_enter Tryz.func239,Tryz.ntmps239
 go_wp2_with fail
 refine(uH KS _ (uH L)).mono ?_
 rintro e T ⟨v,rfl,hv,F⟩
 have U:=(uH L).trans (F.mono (uH L).size)
 have x1:=(uH X0).all F
 obtain⟨X,Y,Z,O,rfl,Q⟩:=hv
 have h:Below T.heap.size T (T.alloc (.cells #[.bool X,.slice Y O.length Z] 55)):=(Below.refl _ _).alloc (Nat.le_refl _) _
 have HV:=ac ((show ar 0 T (.agg #[.bool X,.slice Y O.length Z]) N from⟨X,Y,Z,O,rfl,Q.1,bB.zero Q.1,Q.2.2⟩).below h)
 have V:=ac (U.trans (h.mono U.size))
 have X2:=ac (x1.all h)
 clear F U x1 Q h L X0 KS
 generalize O.length=l1 at*
 go_wp2_with fail
 refine(kl (uH HV) (by omega)).mono ?_
 rintro e w3 ⟨rfl,G⟩
 have M:=(uH X2).all G
 have B3:=ac ((uH V).trans (G.mono (uH V).size))
 have y0:=M.c0;have y1:=M.c1;have y2:=M.c2
 clear G M X2 V HV
 go_wp2
 go_ret
 exact⟨rfl,uH B3⟩
theorem AX(J:Bool)(t:Option Addr)(z l N:Nat)(E d:Int)(w:World)(hE:-20000≤E∧E≤20000)(hL:-20000≤d∧d≤20000)(aa:(0:Int)≤N)(hN:(N:Int)<1152921504606846976)
  (CS:∀D,Below w.heap.size w D→Calls Tryz.prog 237 #[.agg #[.bool false,.slice t l z],.int .i64 (E-d+1)] D fun e H=>∃v,e=.returned (.tuple #[v,.int .i64 0])∧ar D.heap.size H v N∧Below D.heap.size D H)
  (p1:bits .and .i64 (N:Int) 1=1) (t1:(E==d-1)=false):
  Calls Tryz.prog 239 #[.agg #[.bool J,.slice t l z,.int .i64 E],.int .i64 d] w fun e D=>e=.returned (.int .u64 (((N+1)/2:Nat):Int))∧Below w.heap.size w D:=by
 have KS:=ac CS
 clear CS
 obtain⟨r1,r2⟩:=hE
 obtain⟨r3,r4⟩:=hL
 have I:Below w.heap.size w ((w.alloc (.cells #[.bool J,.slice t l z,.int .i64 E] 57)).alloc (.cells #[.bool false,.slice t l z] 55)):=((Below.refl _ _).alloc (Nat.le_refl _) _).alloc (by simp) _
 have L:=ac I
 have X0:=ac (show a8 ((w.alloc (.cells #[.bool J,.slice t l z,.int .i64 E] 57)).alloc (.cells #[.bool false,.slice t l z] 55)) w.heap.size (.bool J) (.slice t l z) (.int .i64 E)from(a8.new _ _ _ _).old _)
 clear I
 go_enter Tryz.func239,Tryz.ntmps239
 go_wp2_with fail
 refine(uH KS _ (uH L)).mono ?_
 rintro e T ⟨v,rfl,hv,F⟩
 have U:=(uH L).trans (F.mono (uH L).size)
 have x1:=(uH X0).all F
 obtain⟨X,Y,Z,O,rfl,Q⟩:=hv
 have h:Below T.heap.size T (T.alloc (.cells #[.bool X,.slice Y O.length Z] 55)):=(Below.refl _ _).alloc (Nat.le_refl _) _
 have HV:=ac ((show ar 0 T (.agg #[.bool X,.slice Y O.length Z]) N from⟨X,Y,Z,O,rfl,Q.1,bB.zero Q.1,Q.2.2⟩).below h)
 have V:=ac (U.trans (h.mono U.size))
 have X2:=ac (x1.all h)
 clear F U x1 Q h L X0 KS
 generalize O.length=l1 at*
 go_wp2_with fail
 refine(kl (uH HV) (by omega)).mono ?_
 rintro e w3 ⟨rfl,G⟩
 have M:=(uH X2).all G
 have B3:=ac ((uH V).trans (G.mono (uH V).size))
 have y0:=M.c0;have y1:=M.c1;have y2:=M.c2
 clear G M X2 V HV
 go_wp2
 go_ret
 exact⟨rfl,uH B3⟩
theorem AY(J:Bool)(t:Option Addr)(z l N:Nat)(E d:Int)(w:World)(hE:-20000≤E∧E≤20000)(hL:-20000≤d∧d≤20000)(aa:(0:Int)≤N)(hN:(N:Int)<1152921504606846976)
  (CS:∀D,Below w.heap.size w D→Calls Tryz.prog 237 #[.agg #[.bool false,.slice t l z],.int .i64 (E-d+1)] D fun e H=>∃v,e=.returned (.tuple #[v,.int .i64 0])∧ar D.heap.size H v N∧Below D.heap.size D H)
  (p1:bits .and .i64 (N:Int) 1=1) (t1:(E==d-1)=true) (p2:bits .and .i64 (N:Int) 2=2):
  Calls Tryz.prog 239 #[.agg #[.bool J,.slice t l z,.int .i64 E],.int .i64 d] w fun e D=>e=.returned (.int .u64 (((N+1)/2:Nat):Int))∧Below w.heap.size w D:=by
 have KS:=ac CS
 clear CS
 obtain⟨r1,r2⟩:=hE
 obtain⟨r3,r4⟩:=hL
 have I:Below w.heap.size w ((w.alloc (.cells #[.bool J,.slice t l z,.int .i64 E] 57)).alloc (.cells #[.bool false,.slice t l z] 55)):=((Below.refl _ _).alloc (Nat.le_refl _) _).alloc (by simp) _
 have L:=ac I
 have X0:=ac (show a8 ((w.alloc (.cells #[.bool J,.slice t l z,.int .i64 E] 57)).alloc (.cells #[.bool false,.slice t l z] 55)) w.heap.size (.bool J) (.slice t l z) (.int .i64 E)from(a8.new _ _ _ _).old _)
 clear I
 go_enter Tryz.func239,Tryz.ntmps239
 go_wp2_with fail
 refine(uH KS _ (uH L)).mono ?_
 rintro e T ⟨v,rfl,hv,F⟩
 have U:=(uH L).trans (F.mono (uH L).size)
 have x1:=(uH X0).all F
 obtain⟨X,Y,Z,O,rfl,Q⟩:=hv
 have h:Below T.heap.size T (T.alloc (.cells #[.bool X,.slice Y O.length Z] 55)):=(Below.refl _ _).alloc (Nat.le_refl _) _
 have HV:=ac ((show ar 0 T (.agg #[.bool X,.slice Y O.length Z]) N from⟨X,Y,Z,O,rfl,Q.1,bB.zero Q.1,Q.2.2⟩).below h)
 have V:=ac (U.trans (h.mono U.size))
 have X2:=ac (x1.all h)
 clear F U x1 Q h L X0 KS
 generalize O.length=l1 at*
 go_wp2_with fail
 refine(kl (uH HV) (by omega)).mono ?_
 rintro e w3 ⟨rfl,G⟩
 have M:=(uH X2).all G
 have B3:=ac ((uH V).trans (G.mono (uH V).size))
 have y0:=M.c0;have y1:=M.c1;have y2:=M.c2
 clear G M X2 V HV
 go_wp2
 go_ret
 exact⟨rfl,uH B3⟩
theorem A1(J:Bool)(t:Option Addr)(z l N:Nat)(E d:Int)(w:World)(hE:-20000≤E∧E≤20000)(hL:-20000≤d∧d≤20000)(aa:(0:Int)≤N)(hN:(N:Int)<1152921504606846976)
  (CS:∀D,Below w.heap.size w D→Calls Tryz.prog 237 #[.agg #[.bool false,.slice t l z],.int .i64 (E-d+1)] D fun e H=>∃v,e=.returned (.tuple #[v,.int .i64 0])∧ar D.heap.size H v N∧Below D.heap.size D H)
  (p1:bits .and .i64 (N:Int) 1=1) (t1:(E==d-1)=true) (p2:bits .and .i64 (N:Int) 2=0):
  Calls Tryz.prog 239 #[.agg #[.bool J,.slice t l z,.int .i64 E],.int .i64 d] w fun e D=>e=.returned (.int .u64 ((N/2:Nat):Int))∧Below w.heap.size w D:=by
 have KS:=ac CS
 clear CS
 obtain⟨r1,r2⟩:=hE
 obtain⟨r3,r4⟩:=hL
 have I:Below w.heap.size w ((w.alloc (.cells #[.bool J,.slice t l z,.int .i64 E] 57)).alloc (.cells #[.bool false,.slice t l z] 55)):=((Below.refl _ _).alloc (Nat.le_refl _) _).alloc (by simp) _
 have L:=ac I
 have X0:=ac (show a8 ((w.alloc (.cells #[.bool J,.slice t l z,.int .i64 E] 57)).alloc (.cells #[.bool false,.slice t l z] 55)) w.heap.size (.bool J) (.slice t l z) (.int .i64 E)from(a8.new _ _ _ _).old _)
 clear I
 go_enter Tryz.func239,Tryz.ntmps239
 go_wp2_with fail
 refine(uH KS _ (uH L)).mono ?_
 rintro e T ⟨v,rfl,hv,F⟩
 have U:=(uH L).trans (F.mono (uH L).size)
 have x1:=(uH X0).all F
 obtain⟨X,Y,Z,O,rfl,Q⟩:=hv
 have h:Below T.heap.size T (T.alloc (.cells #[.bool X,.slice Y O.length Z] 55)):=(Below.refl _ _).alloc (Nat.le_refl _) _
 have HV:=ac ((show ar 0 T (.agg #[.bool X,.slice Y O.length Z]) N from⟨X,Y,Z,O,rfl,Q.1,bB.zero Q.1,Q.2.2⟩).below h)
 have V:=ac (U.trans (h.mono U.size))
 have X2:=ac (x1.all h)
 clear F U x1 Q h L X0 KS
 generalize O.length=l1 at*
 go_wp2_with fail
 refine(kl (uH HV) (by omega)).mono ?_
 rintro e w3 ⟨rfl,G⟩
 have M:=(uH X2).all G
 have B3:=ac ((uH V).trans (G.mono (uH V).size))
 have y0:=M.c0;have y1:=M.c1;have y2:=M.c2
 clear G M X2 V HV
 go_wp2
 go_ret
 exact⟨rfl,uH B3⟩
theorem GA{n:Bool}{L:List Nat}{e:Int}(h:oh n L e=true)(d:L≠ []):val L%2=1:=by
 unfold oh at h
 have t:L.length≠0:=fun l=>d (List.length_eq_zero_iff.1 l)
 rw[if_neg t]at h
 simp only[Bool.and_eq_true,decide_eq_true_eq]at h
 exact h.2.1
theorem xm{n:Bool}{L:List Nat}(h:aE n L=true):aE false L=true:=by
 unfold aE at*
 revert h
 cases n<;>simp
 intro d t l
 exact⟨d,l⟩
theorem Ds{t:Bool}{A:List Nat}(j:Int)(z:aE t A=true)(D:-16384≤j+1∧j+1≤16384)(F:pN (val A) j<1152921504606846976):
  wI false A (j+1)=0∧uf false A (j+1)=(pN (val A) j:Int):=by
 have d:nr false A (j+1)=true:=by unfold nr;rw[xm z,decide_eq_true D];rfl
 have h:qJ false A (j+1)=(pN (val A) j:Int):=by unfold qJ pN sg;rfl
 have l:(qJ false A (j+1)).natAbs<eN:=by
  rw[h]
  exact pq (k:=60) (by have:(2:Nat)^60=1152921504606846976:=(by decide);omega) (by decide)
 unfold wI uf
 rw[if_pos d,if_pos d,gE _ l,gF _ l,h]
 exact⟨rfl,rfl⟩
theorem uO(D:Bool)(t:Option Addr)(z:Nat)(A:List Nat)(E d:Int)(w:World)(hA:af w t z A)(Y:oh D A E=true)(h0:A≠ [])(hL:-2000≤d∧d≤2000)(hj:-16384≤E-d+1∧E-d+1≤16384)(M:pN (val A) (E-d)<1152921504606846976):
  Calls Tryz.prog 239 #[.agg #[.bool D,.slice t A.length z,.int .i64 E],.int .i64 d] w fun e h=>e=.returned (.int .u64 (mS (val A) (E-d):Nat))∧Below w.heap.size w h:=by
 obtain⟨d1,d2,d3,d4,d5⟩:=ee Y
 have ho:=GA Y h0
 obtain⟨s1,s2⟩:=Ds (E-d) d1 hj M
 have H:∀h,Below w.heap.size w h→Calls Tryz.prog 237 #[.agg #[.bool false,.slice t A.length z],.int .i64 (E-d+1)] h fun e G=>∃v,e=.returned (.tuple #[v,.int .i64 0])∧ar h.heap.size G v (pN (val A) (E-d))∧Below h.heap.size h G:=by
  intro h hb
  have:=iR false t z A (E-d+1) h (hA.below hb) (by omega) (by omega)
  rw[s1,s2]at this
  exact this
 have F:=AU _ M
 have I:=AV _ M
 rw[←My _ _ ho]
 have O:pM (val A) (E-d)=(pN (val A) (E-d)+(Mq (val A) (E-d)).toNat)/2:=rfl
 have Q:Mq (val A) (E-d)=(decide (pN (val A) (E-d)%2=1)&&(!decide (E-d= -1)||decide (pN (val A) (E-d)/2%2=1))):=rfl
 rw[O,Q]
 generalize pN (val A) (E-d)=N at*
 have J:-20000≤E∧E≤20000:=by omega
 have l:-20000≤d∧d≤20000:=by omega
 by_cases T:N%2=1
 ·rw[T]at F
  rw[decide_eq_true T]
  by_cases Z:E-d= -1
  ·have L:(E==d-1)=true:=by simp;omega
   rw[decide_eq_true Z]
   by_cases U:N/2%2=1
   ·rw[U]at I
    rw[decide_eq_true U]
    exact AY D t z A.length N E d w J l (by omega) (by omega) H F L I
   ·have V:N/2%2=0:=by omega
    rw[V]at I
    rw[decide_eq_false U]
    exact A1 D t z A.length N E d w J l (by omega) (by omega) H F L I
  ·have L:(E==d-1)=false:=by simp;omega
   rw[decide_eq_false Z]
   exact AX D t z A.length N E d w J l (by omega) (by omega) H F L
 ·have X:N%2=0:=by omega
  rw[X]at F
  rw[decide_eq_false T]
  exact AW D t z A.length N E d _ w J l (by omega) (by omega) H F rfl
theorem MD(v:Nat)(E:Int)(h:v≠0):pN v (E-aB v E)<1152921504606846976:=by
 obtain⟨G,H,I⟩:=cD v E
 obtain⟨J,L,z⟩:=bQ v h
 generalize aB v E=l at*
 have D:(2:Nat)^54<1152921504606846976:=by decide
 unfold pN
 split
 ·obtain⟨k,t⟩:=Int.eq_ofNat_of_zero_le (show 0≤E-l+1 by omega)
  rw[t,Int.toNat_natCast]
  have d:v*2^k<2^bl v*2^k:=Nat.mul_lt_mul_of_pos_right z (Nat.two_pow_pos _)
  rw[←Nat.pow_add]at d
  have F:(2:Nat)^(bl v+k)≤2^54:=gX (by omega)
  omega
 ·obtain⟨k,t⟩:=Int.eq_ofNat_of_zero_le (show 0≤-(E-l+1) by omega)
  rw[t,Int.toNat_natCast]
  have d:v<2^54*2^k:=by
   rw[←Nat.pow_add]
   exact Nat.lt_of_lt_of_le z (gX (by omega))
  have F:v/2^k<2^54:=Nat.div_lt_of_lt_mul (by rw[Nat.mul_comm];exact d)
  omega
theorem jP(P:Program)(w:World)(d:Array TypeId)(t:TypeId)(x y:Int):(Builtin.max_ d t #[.int .i64 x,.int .i64 y]).run P w=.ok (.int .i64 (max x y)) w:=by
 rw[run_max_int2]
 congr 2
 split<;>omega
theorem uP(G:Bool)(H:Option Addr)(I l M k R:Nat)(E t d:Int)(w:World)(V:0<l)(ht:-100000≤t∧t≤1024)(X:max (t-53) (-1074)=d)(hk:d+1074=k)(T:k≤2045)(hM:M≤9007199254740992)
  (Y:∀h,Below w.heap.size w h→Calls Tryz.prog 214 #[.agg #[.bool G,.slice H l I,.int .i64 E]] h fun e z=>e=.returned (.int .i64 t)∧Below h.heap.size h z)
  (Z:∀h,Below w.heap.size w h→Calls Tryz.prog 239 #[.agg #[.bool G,.slice H l I,.int .i64 E],.int .i64 d] h fun e z=>e=.returned (.int .u64 M)∧Below h.heap.size h z)
  (hR:R=M+k*4503599627370496) (g1:decide (d≤E)=true):
  Calls Tryz.prog 222 #[.agg #[.bool G,.slice H l I,.int .i64 E]] w fun e h=>e=.returned (.tuple #[.int .u64 R,.int .u8 0])∧Below w.heap.size w h:=by
 have U:decide (0<l)=true:=decide_eq_true V
 have hz:((l:Int)==0)=false:=by simp;omega
 have hm:=fun W ts t'=>jP Tryz.prog W ts t' (t-53) (-1074)
 rw[X]at hm
 have KT:=ac Y;have KR:=ac Z
 have hg:decide ((1024:Int)<t)=false:=decide_eq_false (by omega)
 have w1:IntKind.i64.wrap (t-53)=t-53:=by simp only[IntKind.wrap_i64];omega
 have w2:IntKind.i64.wrap (d- -1074)=(k:Int):=by simp only[IntKind.wrap_i64];omega
 have w3:IntKind.u64.wrap (k:Int)=(k:Int):=by simp only[IntKind.wrap_u64];omega
 have J:=ac (show(M:Int)+(k:Int)*4503599627370496=(R:Int) by omega)
 clear Y Z X hR
 have N:=ac ((Below.refl w.heap.size w).alloc (Nat.le_refl _) (.cells #[.bool G,.slice H l I,.int .i64 E] 57))
 have X0:=ac (a8.new w (.bool G) (.slice H l I) (.int .i64 E))
 go_enter Tryz.func222,Tryz.ntmps222
 go_wp2_with fail
 refine(uH KT _ (uH N)).mono ?_
 rintro e aa ⟨rfl,D⟩
 have L:=(uH X0).all D
 have O:=ac ((uH N).trans (D.mono (uH N).size))
 have X1:=ac L
 have y0:=L.c0;have y1:=L.c1;have y2:=L.c2
 clear D L KT N X0
 go_wp2_with fail
 refine(uH KR _ (uH O)).mono ?_
 rintro e ad ⟨rfl,F⟩
 have Q:=(uH X1).all F
 have B2:=ac ((uH O).trans (F.mono (uH O).size))
 clear y0 y1 y2
 have y0:=Q.c0;have y1:=Q.c1;have y2:=Q.c2
 clear F Q KR O X1
 go_upto_region 8 with(fail)
 rw[uH J]
 clear hm w1 w2 w3 hk T hM J V U hz hg ht
 go_wp2
 exact bodyPost_ret (v:=.tuple #[.int .u64 R,.int .u8 0]) (by simp[results,Tryz.results222,go_sem]) rfl ⟨rfl,uH B2⟩
theorem uQ(G:Bool)(H:Option Addr)(I l M k R:Nat)(E t d:Int)(w:World)(V:0<l)(ht:-100000≤t∧t≤1024)(X:max (t-53) (-1074)=d)(hk:d+1074=k)(T:k≤2045)(hM:M≤9007199254740992)
  (Y:∀h,Below w.heap.size w h→Calls Tryz.prog 214 #[.agg #[.bool G,.slice H l I,.int .i64 E]] h fun e z=>e=.returned (.int .i64 t)∧Below h.heap.size h z)
  (Z:∀h,Below w.heap.size w h→Calls Tryz.prog 239 #[.agg #[.bool G,.slice H l I,.int .i64 E],.int .i64 d] h fun e z=>e=.returned (.int .u64 M)∧Below h.heap.size h z)
  (hR:R=M+k*4503599627370496) (g1:decide (d≤E)=false) (g2:((R:Int)==9218868437227405312)=true):
  Calls Tryz.prog 222 #[.agg #[.bool G,.slice H l I,.int .i64 E]] w fun e h=>e=.returned (.tuple #[.int .u64 R,.int .u8 5])∧Below w.heap.size w h:=by
 have U:decide (0<l)=true:=decide_eq_true V
 have hz:((l:Int)==0)=false:=by simp;omega
 have hm:=fun W ts t'=>jP Tryz.prog W ts t' (t-53) (-1074)
 rw[X]at hm
 have KT:=ac Y;have KR:=ac Z
 have hg:decide ((1024:Int)<t)=false:=decide_eq_false (by omega)
 have w1:IntKind.i64.wrap (t-53)=t-53:=by simp only[IntKind.wrap_i64];omega
 have w2:IntKind.i64.wrap (d- -1074)=(k:Int):=by simp only[IntKind.wrap_i64];omega
 have w3:IntKind.u64.wrap (k:Int)=(k:Int):=by simp only[IntKind.wrap_u64];omega
 have J:=ac (show(M:Int)+(k:Int)*4503599627370496=(R:Int) by omega)
 clear Y Z X hR
 have N:=ac ((Below.refl w.heap.size w).alloc (Nat.le_refl _) (.cells #[.bool G,.slice H l I,.int .i64 E] 57))
 have X0:=ac (a8.new w (.bool G) (.slice H l I) (.int .i64 E))
 go_enter Tryz.func222,Tryz.ntmps222
 go_wp2_with fail
 refine(uH KT _ (uH N)).mono ?_
 rintro e aa ⟨rfl,D⟩
 have L:=(uH X0).all D
 have O:=ac ((uH N).trans (D.mono (uH N).size))
 have X1:=ac L
 have y0:=L.c0;have y1:=L.c1;have y2:=L.c2
 clear D L KT N X0
 go_wp2_with fail
 refine(uH KR _ (uH O)).mono ?_
 rintro e ad ⟨rfl,F⟩
 have Q:=(uH X1).all F
 have B2:=ac ((uH O).trans (F.mono (uH O).size))
 clear y0 y1 y2
 have y0:=Q.c0;have y1:=Q.c1;have y2:=Q.c2
 clear F Q KR O X1
 go_upto_region 8 with(fail)
 rw[uH J]
 clear hm w1 w2 w3 hk T hM J V U hz hg ht
 go_wp2
 exact bodyPost_ret (v:=.tuple #[.int .u64 R,.int .u8 5]) (by simp[results,Tryz.results222,go_sem]) rfl ⟨rfl,uH B2⟩
theorem uR(G:Bool)(H:Option Addr)(I l M k R:Nat)(E t d:Int)(w:World)(V:0<l)(ht:-100000≤t∧t≤1024)(X:max (t-53) (-1074)=d)(hk:d+1074=k)(T:k≤2045)(hM:M≤9007199254740992)
  (Y:∀h,Below w.heap.size w h→Calls Tryz.prog 214 #[.agg #[.bool G,.slice H l I,.int .i64 E]] h fun e z=>e=.returned (.int .i64 t)∧Below h.heap.size h z)
  (Z:∀h,Below w.heap.size w h→Calls Tryz.prog 239 #[.agg #[.bool G,.slice H l I,.int .i64 E],.int .i64 d] h fun e z=>e=.returned (.int .u64 M)∧Below h.heap.size h z)
  (hR:R=M+k*4503599627370496) (g1:decide (d≤E)=false) (g2:((R:Int)==9218868437227405312)=false) (g3:decide ((R:Int)<4503599627370496)=true):
  Calls Tryz.prog 222 #[.agg #[.bool G,.slice H l I,.int .i64 E]] w fun e h=>e=.returned (.tuple #[.int .u64 R,.int .u8 3])∧Below w.heap.size w h:=by
 have U:decide (0<l)=true:=decide_eq_true V
 have hz:((l:Int)==0)=false:=by simp;omega
 have hm:=fun W ts t'=>jP Tryz.prog W ts t' (t-53) (-1074)
 rw[X]at hm
 have KT:=ac Y;have KR:=ac Z
 have hg:decide ((1024:Int)<t)=false:=decide_eq_false (by omega)
 have w1:IntKind.i64.wrap (t-53)=t-53:=by simp only[IntKind.wrap_i64];omega
 have w2:IntKind.i64.wrap (d- -1074)=(k:Int):=by simp only[IntKind.wrap_i64];omega
 have w3:IntKind.u64.wrap (k:Int)=(k:Int):=by simp only[IntKind.wrap_u64];omega
 have J:=ac (show(M:Int)+(k:Int)*4503599627370496=(R:Int) by omega)
 clear Y Z X hR
 have N:=ac ((Below.refl w.heap.size w).alloc (Nat.le_refl _) (.cells #[.bool G,.slice H l I,.int .i64 E] 57))
 have X0:=ac (a8.new w (.bool G) (.slice H l I) (.int .i64 E))
 go_enter Tryz.func222,Tryz.ntmps222
 go_wp2_with fail
 refine(uH KT _ (uH N)).mono ?_
 rintro e aa ⟨rfl,D⟩
 have L:=(uH X0).all D
 have O:=ac ((uH N).trans (D.mono (uH N).size))
 have X1:=ac L
 have y0:=L.c0;have y1:=L.c1;have y2:=L.c2
 clear D L KT N X0
 go_wp2_with fail
 refine(uH KR _ (uH O)).mono ?_
 rintro e ad ⟨rfl,F⟩
 have Q:=(uH X1).all F
 have B2:=ac ((uH O).trans (F.mono (uH O).size))
 clear y0 y1 y2
 have y0:=Q.c0;have y1:=Q.c1;have y2:=Q.c2
 clear F Q KR O X1
 go_upto_region 8 with(fail)
 rw[uH J]
 clear hm w1 w2 w3 hk T hM J V U hz hg ht
 go_wp2
 exact bodyPost_ret (v:=.tuple #[.int .u64 R,.int .u8 3]) (by simp[results,Tryz.results222,go_sem]) rfl ⟨rfl,uH B2⟩
theorem uS(G:Bool)(H:Option Addr)(I l M k R:Nat)(E t d:Int)(w:World)(V:0<l)(ht:-100000≤t∧t≤1024)(X:max (t-53) (-1074)=d)(hk:d+1074=k)(T:k≤2045)(hM:M≤9007199254740992)
  (Y:∀h,Below w.heap.size w h→Calls Tryz.prog 214 #[.agg #[.bool G,.slice H l I,.int .i64 E]] h fun e z=>e=.returned (.int .i64 t)∧Below h.heap.size h z)
  (Z:∀h,Below w.heap.size w h→Calls Tryz.prog 239 #[.agg #[.bool G,.slice H l I,.int .i64 E],.int .i64 d] h fun e z=>e=.returned (.int .u64 M)∧Below h.heap.size h z)
  (hR:R=M+k*4503599627370496) (g1:decide (d≤E)=false) (g2:((R:Int)==9218868437227405312)=false) (g3:decide ((R:Int)<4503599627370496)=false):
  Calls Tryz.prog 222 #[.agg #[.bool G,.slice H l I,.int .i64 E]] w fun e h=>e=.returned (.tuple #[.int .u64 R,.int .u8 1])∧Below w.heap.size w h:=by
 have U:decide (0<l)=true:=decide_eq_true V
 have hz:((l:Int)==0)=false:=by simp;omega
 have hm:=fun W ts t'=>jP Tryz.prog W ts t' (t-53) (-1074)
 rw[X]at hm
 have KT:=ac Y;have KR:=ac Z
 have hg:decide ((1024:Int)<t)=false:=decide_eq_false (by omega)
 have w1:IntKind.i64.wrap (t-53)=t-53:=by simp only[IntKind.wrap_i64];omega
 have w2:IntKind.i64.wrap (d- -1074)=(k:Int):=by simp only[IntKind.wrap_i64];omega
 have w3:IntKind.u64.wrap (k:Int)=(k:Int):=by simp only[IntKind.wrap_u64];omega
 have J:=ac (show(M:Int)+(k:Int)*4503599627370496=(R:Int) by omega)
 clear Y Z X hR
 have N:=ac ((Below.refl w.heap.size w).alloc (Nat.le_refl _) (.cells #[.bool G,.slice H l I,.int .i64 E] 57))
 have X0:=ac (a8.new w (.bool G) (.slice H l I) (.int .i64 E))
 go_enter Tryz.func222,Tryz.ntmps222
 go_wp2_with fail
 refine(uH KT _ (uH N)).mono ?_
 rintro e aa ⟨rfl,D⟩
 have L:=(uH X0).all D
 have O:=ac ((uH N).trans (D.mono (uH N).size))
 have X1:=ac L
 have y0:=L.c0;have y1:=L.c1;have y2:=L.c2
 clear D L KT N X0
 go_wp2_with fail
 refine(uH KR _ (uH O)).mono ?_
 rintro e ad ⟨rfl,F⟩
 have Q:=(uH X1).all F
 have B2:=ac ((uH O).trans (F.mono (uH O).size))
 clear y0 y1 y2
 have y0:=Q.c0;have y1:=Q.c1;have y2:=Q.c2
 clear F Q KR O X1
 go_upto_region 8 with(fail)
 rw[uH J]
 clear hm w1 w2 w3 hk T hM J V U hz hg ht
 go_wp2
 exact bodyPost_ret (v:=.tuple #[.int .u64 R,.int .u8 1]) (by simp[results,Tryz.results222,go_sem]) rfl ⟨rfl,uH B2⟩
theorem uT(l:Bool)(z:Option Addr)(D:Nat)(E t:Int)(w:World)
  (I:∀h,Below w.heap.size w h→Calls Tryz.prog 214 #[.agg #[.bool l,.slice z 0 D,.int .i64 E]] h fun e H=>e=.returned (.int .i64 t)∧Below h.heap.size h H):
  Calls Tryz.prog 222 #[.agg #[.bool l,.slice z 0 D,.int .i64 E]] w fun e h=>e=.returned (.tuple #[.int .u64 0,.int .u8 0])∧Below w.heap.size w h:=by
 have J:=ac I
 clear I
 have F:=ac ((Below.refl w.heap.size w).alloc (Nat.le_refl _) (.cells #[.bool l,.slice z 0 D,.int .i64 E] 57))
 have L:=ac (a8.new w (.bool l) (.slice z 0 D) (.int .i64 E))
 go_enter Tryz.func222,Tryz.ntmps222
 go_wp2_with fail
 refine(uH J _ (uH F)).mono ?_
 rintro e N ⟨rfl,d⟩
 have G:=(uH L).all d
 have M:=ac ((uH F).trans (d.mono (uH F).size))
 have O:=G.c0;have Q:=G.c1;have T:=G.c2
 clear d G J F L
 go_wp2
 exact bodyPost_ret (v:=.tuple #[.int .u64 0,.int .u8 0]) (by simp[results,Tryz.results222,go_sem]) rfl ⟨rfl,uH M⟩
theorem uU(z:Bool)(D:Option Addr)(F l:Nat)(E t:Int)(w:World)(O:0<l)(J:1024<t)
  (L:∀h,Below w.heap.size w h→Calls Tryz.prog 214 #[.agg #[.bool z,.slice D l F,.int .i64 E]] h fun e I=>e=.returned (.int .i64 t)∧Below h.heap.size h I):
  Calls Tryz.prog 222 #[.agg #[.bool z,.slice D l F,.int .i64 E]] w fun e h=>e=.returned (.tuple #[.int .u64 9218868437227405312,.int .u8 5])∧Below w.heap.size w h:=by
 have Q:decide (0<l)=true:=decide_eq_true O
 have V:((l:Int)==0)=false:=by simp;omega
 have X:decide ((1024:Int)<t)=true:=decide_eq_true J
 have M:=ac L
 clear L J
 have G:=ac ((Below.refl w.heap.size w).alloc (Nat.le_refl _) (.cells #[.bool z,.slice D l F,.int .i64 E] 57))
 have N:=ac (a8.new w (.bool z) (.slice D l F) (.int .i64 E))
 go_enter Tryz.func222,Tryz.ntmps222
 go_wp2_with fail
 refine(uH M _ (uH G)).mono ?_
 rintro e U ⟨rfl,d⟩
 have H:=(uH N).all d
 have T:=ac ((uH G).trans (d.mono (uH G).size))
 have Y:=H.c0;have Z:=H.c1;have y2:=H.c2
 clear d H M G N
 go_wp2
 exact bodyPost_ret (v:=.tuple #[.int .u64 9218868437227405312,.int .u8 5]) (by simp[results,Tryz.results222,go_sem]) rfl ⟨rfl,uH T⟩
theorem JT{n:Bool}{L:List Nat}(d:aE n L=true)(l:L≠ []):val L≠0:=fun h=>l ((aS L (aN d).2.1).1 h)
theorem qR(l:Bool)(t:Option Addr)(z:Nat)(A:List Nat)(E:Int)(w:World)(M:af w t z A)(Z:oh l A E=true):
  Calls Tryz.prog 222 #[.agg #[.bool l,.slice t A.length z,.int .i64 E]] w fun e d=>e=.returned (.tuple #[.int .u64 (cC (val A) E:Nat),.int .u8 (bX (val A) E)])∧Below w.heap.size w d:=by
 obtain⟨d1,d2,d3,d4,d5⟩:=ee Z
 have F:∀d,Below w.heap.size w d→Calls Tryz.prog 214 #[.agg #[.bool l,.slice t A.length z,.int .i64 E]] d fun e H=>e=.returned (.int .i64 (IntKind.i64.wrap (iq A+E)))∧Below d.heap.size d H:=fun d X=>mj l t z A E d (M.below X) (by omega)
 rw[jq M.2.1 d1]at F
 by_cases N:A= []
 ·subst N
  have Y:cC (val []) E=0:=by simp[cC,val]
  have D:bX (val []) E=0:=by simp[bX,val]
  rw[Y,D]
  exact uT l t z E _ w F
 ·have G:=JT d1 N
  have J:0<A.length:=List.length_pos_iff.2 N
  have ad:bl (val A)≤16384:=by
   have h1:=bQ (val A) G
   have h2:=xl A M.2.1 512 d2
   have:=dh (Nat.lt_of_le_of_lt h1.2.1 h2)
   omega
  have hw:IntKind.i64.wrap ((bl (val A):Int)+E)=(bl (val A):Int)+E:=by simp only[IntKind.wrap_i64];omega
  rw[hw]at F
  by_cases O:1024<(bl (val A):Int)+E
  ·have Y:cC (val A) E=9218868437227405312:=by unfold cC;rw[if_neg G,if_pos O]
   have D:bX (val A) E=5:=by unfold bX;rw[if_neg G,if_pos O]
   rw[Y,D]
   exact uU l t z A.length E _ w J O F
  ·have Q:=cY (val A) E G (by omega)
   obtain⟨l1,l2,l3⟩:=cD (val A) E
   have T:=(cE (val A) E G).1
   have hN:=MD (val A) E G
   have aa:=(bQ (val A) G).1
   have U:∀d,Below w.heap.size w d→Calls Tryz.prog 239 #[.agg #[.bool l,.slice t A.length z,.int .i64 E],.int .i64 (aB (val A) E)] d fun e H=>e=.returned (.int .u64 (dY (val A) E:Nat))∧Below d.heap.size d H:=fun d X=>
    uO l t z A E _ d (M.below X) Z N (by omega) (by omega) hN
   have h:max ((bl (val A):Int)+E-53) (-1074)=aB (val A) E:=rfl
   have V:aB (val A) E+1074=((aB (val A) E+1074).toNat:Int):=by omega
   have D:bX (val A) E=if aB (val A) E≤E then 0 else if cC (val A) E=9218868437227405312 then 5 else if cC (val A) E<4503599627370496 then 3 else 1:=by unfold bX;rw[if_neg G,if_neg O]
   by_cases I:aB (val A) E≤E
   ·rw[D,if_pos I]
    exact uP l t z A.length _ _ _ E _ _ w J (by omega) h V (by omega) T F U Q (decide_eq_true I)
   ·rw[if_neg I]at D
    by_cases g2:cC (val A) E=9218868437227405312
    ·rw[D,if_pos g2]
     exact uQ l t z A.length _ _ _ E _ _ w J (by omega) h V (by omega) T F U Q (decide_eq_false I) (by simp;omega)
    ·rw[if_neg g2]at D
     have L:((cC (val A) E:Int)==9218868437227405312)=false:=by simp;omega
     by_cases g3:cC (val A) E<4503599627370496
     ·rw[D,if_pos g3]
      exact uR l t z A.length _ _ _ E _ _ w J (by omega) h V (by omega) T F U Q (decide_eq_false I) L (decide_eq_true (by omega))
     ·rw[D,if_neg g3]
      exact uS l t z A.length _ _ _ E _ _ w J (by omega) h V (by omega) T F U Q (decide_eq_false I) L (decide_eq_false (by omega))
def gc(neg:Bool)(r:Nat):Nat:=if neg=true then r+9223372036854775808 else r
theorem fI(r:Nat):gc true r=r+9223372036854775808:=if_pos rfl
theorem cn(r:Nat):gc false r=r:=if_neg Bool.false_ne_true
theorem Dt(r:Nat)(h:r<9223372036854775808):fN r=gc true r:=by rw[fI];unfold fN;exact if_neg (by omega)
theorem uV(D:Bool)(M:Option Addr)(N:Nat)(A:List Nat)(E:Int)(w:World)(hA:af w M N A)(Y:oh D A E=true)(hT:c8 w):
  Calls Tryz.prog 195 #[.agg #[.bool D,.slice M A.length N,.int .i64 E]] w fun e H=>e=.returned (.tuple #[.int .u64 (gc D (cC (val A) E):Nat),.int .u8 (bX (val A) E),.int .i64 0])∧Below w.heap.size w H:=by
 have la:=(ee Y).2.1
 have Q:=ac (fun H h t=>jn D M N A E H h (by omega) t)
 have he:pi D A E=0:=by unfold pi;rw[Y];rfl
 rw[he]at Q
 have Z:=ac (fun H h=>qR D M N A E H h Y)
 have aa:=di (val A) E
 have hn:fN (cC (val A) E)=gc true (cC (val A) E):=Dt _ (by omega)
 have CM:=ac (fun H=>ig (cC (val A) E) H (by omega))
 rw[hn]at CM
 clear he Y la
 have G:=ac ((Below.refl w.heap.size w).alloc (Nat.le_refl _) (.cells #[.bool D,.slice M A.length N,.int .i64 E] 57))
 have X0:=ac (a8.new w (.bool D) (.slice M A.length N) (.int .i64 E))
 have O:=ac (hA.below (uH G));have HT:=ac (hT.all (uH G))
 have I:gc false (cC (val A) E)=cC (val A) E:=cn _
 clear hA hT aa hn
 generalize bX (val A) E=fl at*
 generalize cC (val A) E=R at*
 cases D
 ·rw[I]
  clear CM I
  go_enter Tryz.func195,Tryz.ntmps195
  go_wp2_with fail
  refine(uH Q _ (uH O) (uH HT)).mono ?_
  rintro e w1 ⟨rfl,d⟩
  have J:=ac ((uH G).trans (d.mono (uH G).size))
  have z:=(uH X0).all d
  have L:=ac ((uH O).below d)
  have T:=z.c0;have U:=z.c1;have V:=z.c2
  have X:=ac z
  clear d G Q O HT X0 z
  go_wp2_with fail
  refine(uH Z _ (uH L)).mono ?_
  rintro e w2 ⟨rfl,l⟩
  have B2:=ac ((uH J).trans (l.mono (uH J).size))
  have F:=(uH X).all l
  clear T U V
  have T:=F.c0;have U:=F.c1;have V:=F.c2
  clear l F Z J X
  go_wp2
  exact bodyPost_ret (v:=.tuple #[.int .u64 R,.int .u8 fl,.int .i64 0]) (by simp[results,Tryz.results195,go_sem]) rfl ⟨rfl,uH B2⟩
 ·clear I
  generalize gc true R=R' at*
  go_enter Tryz.func195,Tryz.ntmps195
  go_wp2_with fail
  refine(uH Q _ (uH O) (uH HT)).mono ?_
  rintro e w1 ⟨rfl,d⟩
  have J:=ac ((uH G).trans (d.mono (uH G).size))
  have z:=(uH X0).all d
  have L:=ac ((uH O).below d)
  have T:=z.c0;have U:=z.c1;have V:=z.c2
  have X:=ac z
  clear d G Q O HT X0 z
  go_wp2_with fail
  refine(uH Z _ (uH L)).mono ?_
  rintro e w2 ⟨rfl,l⟩
  have B2:=ac ((uH J).trans (l.mono (uH J).size))
  have F:=(uH X).all l
  clear T U V
  have T:=F.c0;have U:=F.c1;have V:=F.c2
  clear l F Z J X
  go_wp2_with(go_at_call 130;refine(uH CM _).mono ?_;rintro e w3 ⟨rfl,rfl⟩)
  exact bodyPost_ret (v:=.tuple #[.int .u64 R',.int .u8 fl,.int .i64 0]) (by simp[results,Tryz.results195,go_sem]) rfl ⟨rfl,uH B2⟩
theorem jQ{w:World}{v:Value}{m e:Int}(h:bc w v m e)(t:m.natAbs<eN)(z:sM m e=true)(D:c8 w):
  Calls Tryz.prog 195 #[v] w fun r F=>r=.returned (.tuple #[.int .u64 (gc (decide (m<0)) (cC m.natAbs e):Nat),.int .u8 (bX m.natAbs e),.int .i64 0])∧Below w.heap.size w F:=by
 obtain⟨n,a,c,L,rfl,H,N,I,O,J⟩:=h.right t
 have d:n=decide (m<0):=by
  obtain⟨Q,a',T,U,l,_,_,M,_⟩:=h.parts
  simp only[Value.agg.injEq,Array.mk.injEq,List.cons.injEq,Value.bool.injEq]at l
  rw[l.1];exact M
 have G:val L=m.natAbs:=by rw[←I,bh]
 have:=uV n a c L e w H (J.trans z) D
 rw[G,d]at this
 rw[d]
 exact this
end Go.Proofs.YtmpkkhackbpflaaGreatDoor
