/- Part 12 of the texts. -/
import Derived.Test.YtdhmglmccafbnaaGreatDoorPartw11
set_option maxHeartbeats 4000000
namespace Go.Proofs.YtdhmglmccafbnaaGreatDoor
open Go.RowKit
theorem jD(b:Nat)(w:World)(h:b<18446744073709551616):
  Calls Tryz.prog 65 #[.int .u64 b] w fun r w'=>∃u,r=.returned u∧aC w' u (fD b) (fX b)∧Below w.heap.size w w':=by
 have K:=fun w'=>pq b w' h
 have G:=fun w'=>jA b w' h
 have f:=fun w'=>gI b w' h
 have U:=rF b
 have V:=mQ b
 have X:=zi b
 have L:fD b=oM (fM b):=rfl
 have M:fX b=oE (fM b) (fE b):=rfl
 have l:fM b=sg (fS b) (fA b):=rfl
 rw[L,M]
 by_cases H:fP b=0
 ·have z:fE b= -1074:=by unfold fE;rw[if_pos H]
  have D:fA b=fF b:=by unfold fA;rw[if_pos H]
  rw[H]at G
  have J:IntKind.i64.wrap (fF b:Int)=(fF b:Int):=by simp only[IntKind.wrap_i64];omega
  cases hs:fS b with
  |false=>
   rw[hs]at f l
   have F:(fF b:Int)=fM b:=by rw[l,D];rfl
   exact wX b (fF b) (fF b:Int) (fM b) (fE b) _ _ w J K G f (fun w'=>fG _ w' (by omega) (by omega)) (fun w' v d=>gO (fE b) d (by decide) (by omega)) z F
  |true=>
   rw[hs]at f l
   have F:(fF b:Int)= -fM b:=by rw[l,D];simp[sg]
   refine wY b (fF b) (fF b:Int) (fF b:Int) (fE b) _ _ w J K G f (fun w'=>fG _ w' (by omega) (by omega)) (fun w' v d=>?_) z rfl
   have:-(fF b:Int)=fM b:=by omega
   rw[this]at d
   exact gO (fE b) d (by decide) (by omega)
 ·have z:fE b=(fP b:Int)-1075:=by unfold fE;rw[if_neg H]
  have D:fA b=fF b+4503599627370496:=by unfold fA;rw[if_neg H]
  have J:IntKind.i64.wrap (fF b:Int)=(fF b:Int):=by simp only[IntKind.wrap_i64];omega
  have N:IntKind.u64.wrap ((fF b:Int)+4503599627370496)=(fA b:Int):=by simp only[IntKind.wrap_u64];omega
  have O:IntKind.i64.wrap (fA b:Int)=(fA b:Int):=by simp only[IntKind.wrap_i64];omega
  have Q:IntKind.i64.wrap ((fP b:Int)-1075)=fE b:=by simp only[IntKind.wrap_i64];omega
  have Y:=Fd b
  cases hs:fS b with
  |false=>
   rw[hs]at f l
   have F:(fA b:Int)=fM b:=by rw[l];rfl
   refine wZ b (fP b) (fF b) (fF b:Int) (fA b:Int) (fA b:Int) (fE b) _ _ w (by omega) J K G f (fun w'=>fG _ w' (by omega) (by omega)) (fun w' v d=>?_) N O Q (fun w'=>fG _ w' (by omega) (by omega))
   rw[F]at d
   exact gO (fE b) d (by decide) (by omega)
  |true=>
   rw[hs]at f l
   have F:-(fA b:Int)=fM b:=by rw[l];simp[sg]
   refine xg b (fP b) (fF b) (fF b:Int) (fA b:Int) (fA b:Int) (fE b) _ _ w (by omega) J K G f (fun w'=>fG _ w' (by omega) (by omega)) (fun w' v d=>?_) N O Q (fun w'=>fG _ w' (by omega) (by omega))
   rw[F]at d
   exact gO (fE b) d (by decide) (by omega)
theorem ig{L:List Nat}{n:Bool}(f:aX L)(h:al n L=true):dw L=(bl (ai L):Int):=by
 rw[gP]
 by_cases d:L= []
 ·subst d;rfl
 ·obtain⟨l,u,z⟩:=gQ L f (au h).2.1 d
  rw[jV l u z]
theorem je{B:Nat}{w:World}{v:Value}{z:Int}(D:an B w v z)(F:-9223372036854775808≤z∧z≤9223372036854775807):
  Calls Tryz.prog 299 #[v] w fun e w'=>e=.returned (.tuple #[.int .i64 z,.int .i64 0])∧Below w.heap.size w w':=by
 obtain⟨d,J,K,A,rfl,L,f,u,_⟩:=D.right (qu (k:=64) (by have:(2:Nat)^64=18446744073709551616:=(by decide);omega) (by decide))
 have h:=py d J K A w L (by have:=(au f).1;omega)
 have l:g9 (ad d A)=true:=by unfold g9;rw[u];exact decide_eq_true F
 have G:rq d A=z:=by unfold rq;rw[f,l];simpa using u
 have H:rp d A=0:=by unfold rp;rw[f,l];rfl
 rw[G,H]at h
 exact h
theorem xh(n:Nat)(h:n<1152921504606846976):bits .and .i64 (n:Int) 1=((n%2:Nat):Int):=by
 have d:=Go.bits_nat .i64 62 (by decide) (fun x l d=>by rw[IntKind.wrap_i64];simp at d;omega) n 1 (by simp;omega) (by decide)
 have f:=d.1
 refine f.trans ?_
 rw[Nat.and_one_is_mod]
theorem xi(n:Nat)(h:n<1152921504606846976):bits .and .i64 (n:Int) 2=((2*(n/2%2):Nat):Int):=by
 have d:=Go.bits_nat .i64 62 (by decide) (fun x z d=>by rw[IntKind.wrap_i64];simp at d;omega) n 2 (by simp;omega) (by decide)
 have l:=d.1
 refine l.trans ?_
 have u:(n&&& 2)%2=0:=by
  have:=Nat.and_mod_two_pow (a:=n) (b:=2) (n:=1)
  simpa using this
 have f:(n&&& 2)/2=(n/2)&&& 1:=by
  have:=Nat.and_div_two_pow (a:=n) (b:=2) (n:=1)
  simpa using this
 rw[Nat.and_one_is_mod]at f
 have:=Nat.div_add_mod (n&&& 2) 2
 rw[u,f]at this
 congr 1
 omega
theorem xj(H:Bool)(h:Option Addr)(u l N:Nat)(E d:Int)(q:Bool)(w:World)(hE:-20000≤E∧E≤20000)(hL:-20000≤d∧d≤20000)(ae:(0:Int)≤N)(hN:(N:Int)<1152921504606846976)
  (Z:∀w',Below w.heap.size w w'→Calls Tryz.prog 268 #[.agg #[.bool false,.slice h l u],.int .i64 (E-d+1)] w' fun e F=>∃v,e=.returned (.tuple #[v,.int .i64 0])∧an w'.heap.size F v N∧Below w'.heap.size w' F)
  (p1:bits .and .i64 (N:Int) 1=0) (t1:(E==d-1)=q):
  Calls Tryz.prog 294 #[.agg #[.bool H,.slice h l u,.int .i64 E],.int .i64 d] w fun e w'=>e=.returned (.int .u64 ((N/2:Nat):Int))∧Below w.heap.size w w':=by
 have KS:=aa Z
 clear Z
 obtain⟨r1,r2⟩:=hE
 obtain⟨r3,r4⟩:=hL
 have G:Below w.heap.size w ((w.alloc (.cells #[.bool H,.slice h l u,.int .i64 E] 41)).alloc (.cells #[.bool false,.slice h l u] 39)):=((Below.refl _ _).alloc (Nat.le_refl _) _).alloc (by simp) _
 have J:=aa G
 have X0:=aa (show ay ((w.alloc (.cells #[.bool H,.slice h l u,.int .i64 E] 41)).alloc (.cells #[.bool false,.slice h l u] 39)) w.heap.size (.bool H) (.slice h l u) (.int .i64 E)from(ay.new _ _ _ _).old _)
 clear G
 go_enter Tryz.func294,Tryz.ntmps294
 go_wp2_with fail
 refine(uH KS _ (uH J)).mono ?_
 rintro e O ⟨v,rfl,hv,z⟩
 have Q:=(uH J).trans (z.mono (uH J).size)
 have x1:=(uH X0).all z
 obtain⟨V,X,Y,L,rfl,M⟩:=hv
 have f:Below O.heap.size O (O.alloc (.cells #[.bool V,.slice X L.length Y] 39)):=(Below.refl _ _).alloc (Nat.le_refl _) _
 have HV:=aa ((show an 0 O (.agg #[.bool V,.slice X L.length Y]) N from⟨V,X,Y,L,rfl,M.1,bs.zero M.1,M.2.2⟩).below f)
 have U:=aa (Q.trans (f.mono Q.size))
 have X2:=aa (x1.all f)
 clear z Q x1 M f J X0 KS
 generalize L.length=l1 at*
 go_wp2_with fail
 refine(je (uH HV) (by omega)).mono ?_
 rintro e w3 ⟨rfl,D⟩
 have K:=(uH X2).all D
 have B3:=aa ((uH U).trans (D.mono (uH U).size))
 have y0:=K.c0;have y1:=K.c1;have y2:=K.c2
 clear D K X2 U HV
 go_wp2
 go_ret
 exact⟨rfl,uH B3⟩
theorem xk(H:Bool)(h:Option Addr)(u l N:Nat)(E d:Int)(w:World)(hE:-20000≤E∧E≤20000)(hL:-20000≤d∧d≤20000)(ae:(0:Int)≤N)(hN:(N:Int)<1152921504606846976)
  (Z:∀w',Below w.heap.size w w'→Calls Tryz.prog 268 #[.agg #[.bool false,.slice h l u],.int .i64 (E-d+1)] w' fun e F=>∃v,e=.returned (.tuple #[v,.int .i64 0])∧an w'.heap.size F v N∧Below w'.heap.size w' F)
  (p1:bits .and .i64 (N:Int) 1=1) (t1:(E==d-1)=false):
  Calls Tryz.prog 294 #[.agg #[.bool H,.slice h l u,.int .i64 E],.int .i64 d] w fun e w'=>e=.returned (.int .u64 (((N+1)/2:Nat):Int))∧Below w.heap.size w w':=by
 have KS:=aa Z
 clear Z
 obtain⟨r1,r2⟩:=hE
 obtain⟨r3,r4⟩:=hL
 have G:Below w.heap.size w ((w.alloc (.cells #[.bool H,.slice h l u,.int .i64 E] 41)).alloc (.cells #[.bool false,.slice h l u] 39)):=((Below.refl _ _).alloc (Nat.le_refl _) _).alloc (by simp) _
 have J:=aa G
 have X0:=aa (show ay ((w.alloc (.cells #[.bool H,.slice h l u,.int .i64 E] 41)).alloc (.cells #[.bool false,.slice h l u] 39)) w.heap.size (.bool H) (.slice h l u) (.int .i64 E)from(ay.new _ _ _ _).old _)
 clear G
 go_enter Tryz.func294,Tryz.ntmps294
 go_wp2_with fail
 refine(uH KS _ (uH J)).mono ?_
 rintro e O ⟨v,rfl,hv,z⟩
 have Q:=(uH J).trans (z.mono (uH J).size)
 have x1:=(uH X0).all z
 obtain⟨V,X,Y,L,rfl,M⟩:=hv
 have f:Below O.heap.size O (O.alloc (.cells #[.bool V,.slice X L.length Y] 39)):=(Below.refl _ _).alloc (Nat.le_refl _) _
 have HV:=aa ((show an 0 O (.agg #[.bool V,.slice X L.length Y]) N from⟨V,X,Y,L,rfl,M.1,bs.zero M.1,M.2.2⟩).below f)
 have U:=aa (Q.trans (f.mono Q.size))
 have X2:=aa (x1.all f)
 clear z Q x1 M f J X0 KS
 generalize L.length=l1 at*
 go_wp2_with fail
 refine(je (uH HV) (by omega)).mono ?_
 rintro e w3 ⟨rfl,D⟩
 have K:=(uH X2).all D
 have B3:=aa ((uH U).trans (D.mono (uH U).size))
 have y0:=K.c0;have y1:=K.c1;have y2:=K.c2
 clear D K X2 U HV
 go_wp2
 go_ret
 exact⟨rfl,uH B3⟩
theorem xl(H:Bool)(h:Option Addr)(u l N:Nat)(E d:Int)(w:World)(hE:-20000≤E∧E≤20000)(hL:-20000≤d∧d≤20000)(ae:(0:Int)≤N)(hN:(N:Int)<1152921504606846976)
  (Z:∀w',Below w.heap.size w w'→Calls Tryz.prog 268 #[.agg #[.bool false,.slice h l u],.int .i64 (E-d+1)] w' fun e F=>∃v,e=.returned (.tuple #[v,.int .i64 0])∧an w'.heap.size F v N∧Below w'.heap.size w' F)
  (p1:bits .and .i64 (N:Int) 1=1) (t1:(E==d-1)=true) (p2:bits .and .i64 (N:Int) 2=2):
  Calls Tryz.prog 294 #[.agg #[.bool H,.slice h l u,.int .i64 E],.int .i64 d] w fun e w'=>e=.returned (.int .u64 (((N+1)/2:Nat):Int))∧Below w.heap.size w w':=by
 have KS:=aa Z
 clear Z
 obtain⟨r1,r2⟩:=hE
 obtain⟨r3,r4⟩:=hL
 have G:Below w.heap.size w ((w.alloc (.cells #[.bool H,.slice h l u,.int .i64 E] 41)).alloc (.cells #[.bool false,.slice h l u] 39)):=((Below.refl _ _).alloc (Nat.le_refl _) _).alloc (by simp) _
 have J:=aa G
 have X0:=aa (show ay ((w.alloc (.cells #[.bool H,.slice h l u,.int .i64 E] 41)).alloc (.cells #[.bool false,.slice h l u] 39)) w.heap.size (.bool H) (.slice h l u) (.int .i64 E)from(ay.new _ _ _ _).old _)
 clear G
 go_enter Tryz.func294,Tryz.ntmps294
 go_wp2_with fail
 refine(uH KS _ (uH J)).mono ?_
 rintro e O ⟨v,rfl,hv,z⟩
 have Q:=(uH J).trans (z.mono (uH J).size)
 have x1:=(uH X0).all z
 obtain⟨V,X,Y,L,rfl,M⟩:=hv
 have f:Below O.heap.size O (O.alloc (.cells #[.bool V,.slice X L.length Y] 39)):=(Below.refl _ _).alloc (Nat.le_refl _) _
 have HV:=aa ((show an 0 O (.agg #[.bool V,.slice X L.length Y]) N from⟨V,X,Y,L,rfl,M.1,bs.zero M.1,M.2.2⟩).below f)
 have U:=aa (Q.trans (f.mono Q.size))
 have X2:=aa (x1.all f)
 clear z Q x1 M f J X0 KS
 generalize L.length=l1 at*
 go_wp2_with fail
 refine(je (uH HV) (by omega)).mono ?_
 rintro e w3 ⟨rfl,D⟩
 have K:=(uH X2).all D
 have B3:=aa ((uH U).trans (D.mono (uH U).size))
 have y0:=K.c0;have y1:=K.c1;have y2:=K.c2
 clear D K X2 U HV
 go_wp2
 go_ret
 exact⟨rfl,uH B3⟩
theorem xm(H:Bool)(h:Option Addr)(u l N:Nat)(E d:Int)(w:World)(hE:-20000≤E∧E≤20000)(hL:-20000≤d∧d≤20000)(ae:(0:Int)≤N)(hN:(N:Int)<1152921504606846976)
  (Z:∀w',Below w.heap.size w w'→Calls Tryz.prog 268 #[.agg #[.bool false,.slice h l u],.int .i64 (E-d+1)] w' fun e F=>∃v,e=.returned (.tuple #[v,.int .i64 0])∧an w'.heap.size F v N∧Below w'.heap.size w' F)
  (p1:bits .and .i64 (N:Int) 1=1) (t1:(E==d-1)=true) (p2:bits .and .i64 (N:Int) 2=0):
  Calls Tryz.prog 294 #[.agg #[.bool H,.slice h l u,.int .i64 E],.int .i64 d] w fun e w'=>e=.returned (.int .u64 ((N/2:Nat):Int))∧Below w.heap.size w w':=by
 have KS:=aa Z
 clear Z
 obtain⟨r1,r2⟩:=hE
 obtain⟨r3,r4⟩:=hL
 have G:Below w.heap.size w ((w.alloc (.cells #[.bool H,.slice h l u,.int .i64 E] 41)).alloc (.cells #[.bool false,.slice h l u] 39)):=((Below.refl _ _).alloc (Nat.le_refl _) _).alloc (by simp) _
 have J:=aa G
 have X0:=aa (show ay ((w.alloc (.cells #[.bool H,.slice h l u,.int .i64 E] 41)).alloc (.cells #[.bool false,.slice h l u] 39)) w.heap.size (.bool H) (.slice h l u) (.int .i64 E)from(ay.new _ _ _ _).old _)
 clear G
 go_enter Tryz.func294,Tryz.ntmps294
 go_wp2_with fail
 refine(uH KS _ (uH J)).mono ?_
 rintro e O ⟨v,rfl,hv,z⟩
 have Q:=(uH J).trans (z.mono (uH J).size)
 have x1:=(uH X0).all z
 obtain⟨V,X,Y,L,rfl,M⟩:=hv
 have f:Below O.heap.size O (O.alloc (.cells #[.bool V,.slice X L.length Y] 39)):=(Below.refl _ _).alloc (Nat.le_refl _) _
 have HV:=aa ((show an 0 O (.agg #[.bool V,.slice X L.length Y]) N from⟨V,X,Y,L,rfl,M.1,bs.zero M.1,M.2.2⟩).below f)
 have U:=aa (Q.trans (f.mono Q.size))
 have X2:=aa (x1.all f)
 clear z Q x1 M f J X0 KS
 generalize L.length=l1 at*
 go_wp2_with fail
 refine(je (uH HV) (by omega)).mono ?_
 rintro e w3 ⟨rfl,D⟩
 have K:=(uH X2).all D
 have B3:=aa ((uH U).trans (D.mono (uH U).size))
 have y0:=K.c0;have y1:=K.c1;have y2:=K.c2
 clear D K X2 U HV
 go_wp2
 go_ret
 exact⟨rfl,uH B3⟩
theorem Du{n:Bool}{L:List Nat}{e:Int}(h:jS n L e=true)(d:L≠ []):ai L%2=1:=by
 unfold jS at h
 have l:L.length≠0:=fun f=>d (List.length_eq_zero_iff.1 f)
 rw[if_neg l]at h
 simp only[Bool.and_eq_true,decide_eq_true_eq]at h
 exact h.2.1
theorem ul{n:Bool}{L:List Nat}(h:al n L=true):al false L=true:=by
 unfold al at*
 revert h
 cases n<;>simp
 intro d l f
 exact⟨d,f⟩
theorem zu{l:Bool}{A:List Nat}(j:Int)(u:al l A=true)(z:-16384≤j+1∧j+1≤16384)(D:pN (ai A) j<1152921504606846976):
  tU false A (j+1)=0∧rM false A (j+1)=(pN (ai A) j:Int):=by
 have d:kT false A (j+1)=true:=by unfold kT;rw[ul u,decide_eq_true z];rfl
 have f:oT false A (j+1)=(pN (ai A) j:Int):=by unfold oT pN sg;rfl
 have h:(oT false A (j+1)).natAbs<dt:=by
  rw[f]
  exact qu (k:=60) (by have:(2:Nat)^60=1152921504606846976:=(by decide);omega) (by decide)
 unfold tU rM
 rw[if_pos d,if_pos d,eU _ h,eW _ h,f]
 exact⟨rfl,rfl⟩
theorem rZ(u:Bool)(h:Option Addr)(l:Nat)(A:List Nat)(E d:Int)(w:World)(Z:ag w h l A)(X:jS u A E=true)(h0:A≠ [])(hL:-2000≤d∧d≤2000)(hj:-16384≤E-d+1∧E-d+1≤16384)(K:pN (ai A) (E-d)<1152921504606846976):
  Calls Tryz.prog 294 #[.agg #[.bool u,.slice h A.length l,.int .i64 E],.int .i64 d] w fun e w'=>e=.returned (.int .u64 (mS (ai A) (E-d):Nat))∧Below w.heap.size w w':=by
 obtain⟨d1,d2,d3,d4,d5⟩:=bO X
 have ho:=Du X h0
 obtain⟨s1,s2⟩:=zu (E-d) d1 hj K
 have F:∀w',Below w.heap.size w w'→Calls Tryz.prog 268 #[.agg #[.bool false,.slice h A.length l],.int .i64 (E-d+1)] w' fun e D=>∃v,e=.returned (.tuple #[v,.int .i64 0])∧an w'.heap.size D v (pN (ai A) (E-d))∧Below w'.heap.size w' D:=by
  intro w' hb
  have:=gL false h l A (E-d+1) w' (Z.below hb) (by omega) (by omega)
  rw[s1,s2]at this
  exact this
 have z:=xh _ K
 have G:=xi _ K
 rw[←Hj _ _ ho]
 have L:pM (ai A) (E-d)=(pN (ai A) (E-d)+(Hd (ai A) (E-d)).toNat)/2:=rfl
 have M:Hd (ai A) (E-d)=(decide (pN (ai A) (E-d)%2=1)&&(!decide (E-d= -1)||decide (pN (ai A) (E-d)/2%2=1))):=rfl
 rw[L,M]
 generalize pN (ai A) (E-d)=N at*
 have H:-20000≤E∧E≤20000:=by omega
 have f:-20000≤d∧d≤20000:=by omega
 by_cases O:N%2=1
 ·rw[O]at z
  rw[decide_eq_true O]
  by_cases Y:E-d= -1
  ·have J:(E==d-1)=true:=by simp;omega
   rw[decide_eq_true Y]
   by_cases Q:N/2%2=1
   ·rw[Q]at G
    rw[decide_eq_true Q]
    exact xl u h l A.length N E d w H f (by omega) (by omega) F z J G
   ·have U:N/2%2=0:=by omega
    rw[U]at G
    rw[decide_eq_false Q]
    exact xm u h l A.length N E d w H f (by omega) (by omega) F z J G
  ·have J:(E==d-1)=false:=by simp;omega
   rw[decide_eq_false Y]
   exact xk u h l A.length N E d w H f (by omega) (by omega) F z J
 ·have V:N%2=0:=by omega
  rw[V]at z
  rw[decide_eq_false O]
  exact xj u h l A.length N E d _ w H f (by omega) (by omega) F z rfl
theorem Hm(v:Nat)(E:Int)(h:v≠0):pN v (E-ar v E)<1152921504606846976:=by
 obtain⟨F,G,H⟩:=bU v E
 obtain⟨J,K,u⟩:=aU v h
 generalize ar v E=l at*
 have z:(2:Nat)^54<1152921504606846976:=by decide
 unfold pN
 split
 ·obtain⟨k,f⟩:=Int.eq_ofNat_of_zero_le (show 0≤E-l+1 by omega)
  rw[f,Int.toNat_natCast]
  have d:v*2^k<2^bl v*2^k:=Nat.mul_lt_mul_of_pos_right u (Nat.two_pow_pos _)
  rw[←Nat.pow_add]at d
  have D:(2:Nat)^(bl v+k)≤2^54:=dG (by omega)
  omega
 ·obtain⟨k,f⟩:=Int.eq_ofNat_of_zero_le (show 0≤-(E-l+1) by omega)
  rw[f,Int.toNat_natCast]
  have d:v<2^54*2^k:=by
   rw[←Nat.pow_add]
   exact Nat.lt_of_lt_of_le u (dG (by omega))
  have D:v/2^k<2^54:=Nat.div_lt_of_lt_mul (by rw[Nat.mul_comm];exact d)
  omega
theorem iK(P:Program)(w:World)(d:Array TypeId)(t:TypeId)(x y:Int):(Builtin.max_ d t #[.int .i64 x,.int .i64 y]).run P w=.ok (.int .i64 (max x y)) w:=by
 rw[run_max_int2]
 congr 2
 split<;>omega
theorem r8(z:Bool)(D:Option Addr)(F l M k R:Nat)(E t d:Int)(w:World)(Q:0<l)(ht:-100000≤t∧t≤1024)(U:max (t-53) (-1074)=d)(hk:d+1074=k)(N:k≤2045)(hM:M≤9007199254740992)
  (V:∀w',Below w.heap.size w w'→Calls Tryz.prog 208 #[.agg #[.bool z,.slice D l F,.int .i64 E]] w' fun e f=>e=.returned (.int .i64 t)∧Below w'.heap.size w' f)
  (X:∀w',Below w.heap.size w w'→Calls Tryz.prog 294 #[.agg #[.bool z,.slice D l F,.int .i64 E],.int .i64 d] w' fun e f=>e=.returned (.int .u64 M)∧Below w'.heap.size w' f)
  (hR:R=M+k*4503599627370496) (g1:decide (d≤E)=true):
  Calls Tryz.prog 276 #[.agg #[.bool z,.slice D l F,.int .i64 E]] w fun e w'=>e=.returned (.tuple #[.int .u64 R,.int .u8 0])∧Below w.heap.size w w':=by
 have O:decide (0<l)=true:=decide_eq_true Q
 have hz:((l:Int)==0)=false:=by simp;omega
 have Y:=fun W ts t'=>iK Tryz.prog W ts t' (t-53) (-1074)
 rw[U]at Y
 have Z:=aa V;have KR:=aa X
 have hg:decide ((1024:Int)<t)=false:=decide_eq_false (by omega)
 have w1:IntKind.i64.wrap (t-53)=t-53:=by simp only[IntKind.wrap_i64];omega
 have w2:IntKind.i64.wrap (d- -1074)=(k:Int):=by simp only[IntKind.wrap_i64];omega
 have w3:IntKind.u64.wrap (k:Int)=(k:Int):=by simp only[IntKind.wrap_u64];omega
 have G:=aa (show(M:Int)+(k:Int)*4503599627370496=(R:Int) by omega)
 clear V X U hR
 have J:=aa ((Below.refl w.heap.size w).alloc (Nat.le_refl _) (.cells #[.bool z,.slice D l F,.int .i64 E] 41))
 have X0:=aa (ay.new w (.bool z) (.slice D l F) (.int .i64 E))
 go_enter Tryz.func276,Tryz.ntmps276
 go_wp2_with fail
 refine(uH Z _ (uH J)).mono ?_
 rintro e ae ⟨rfl,h⟩
 have H:=(uH X0).all h
 have K:=aa ((uH J).trans (h.mono (uH J).size))
 have X1:=aa H
 have y0:=H.c0;have y1:=H.c1;have y2:=H.c2
 clear h H Z J X0
 go_wp2_with fail
 refine(uH KR _ (uH K)).mono ?_
 rintro e am ⟨rfl,u⟩
 have L:=(uH X1).all u
 have B2:=aa ((uH K).trans (u.mono (uH K).size))
 clear y0 y1 y2
 have y0:=L.c0;have y1:=L.c1;have y2:=L.c2
 clear u L KR K X1
 go_upto_region 8 with(fail)
 rw[uH G]
 clear Y w1 w2 w3 hk N hM G Q O hz hg ht
 go_wp2
 exact bodyPost_ret (v:=.tuple #[.int .u64 R,.int .u8 0]) (by simp[results,Tryz.results276,go_sem]) rfl ⟨rfl,uH B2⟩
theorem r9(z:Bool)(D:Option Addr)(F l M k R:Nat)(E t d:Int)(w:World)(Q:0<l)(ht:-100000≤t∧t≤1024)(U:max (t-53) (-1074)=d)(hk:d+1074=k)(N:k≤2045)(hM:M≤9007199254740992)
  (V:∀w',Below w.heap.size w w'→Calls Tryz.prog 208 #[.agg #[.bool z,.slice D l F,.int .i64 E]] w' fun e f=>e=.returned (.int .i64 t)∧Below w'.heap.size w' f)
  (X:∀w',Below w.heap.size w w'→Calls Tryz.prog 294 #[.agg #[.bool z,.slice D l F,.int .i64 E],.int .i64 d] w' fun e f=>e=.returned (.int .u64 M)∧Below w'.heap.size w' f)
  (hR:R=M+k*4503599627370496) (g1:decide (d≤E)=false) (g2:((R:Int)==9218868437227405312)=true):
  Calls Tryz.prog 276 #[.agg #[.bool z,.slice D l F,.int .i64 E]] w fun e w'=>e=.returned (.tuple #[.int .u64 R,.int .u8 5])∧Below w.heap.size w w':=by
 have O:decide (0<l)=true:=decide_eq_true Q
 have hz:((l:Int)==0)=false:=by simp;omega
 have Y:=fun W ts t'=>iK Tryz.prog W ts t' (t-53) (-1074)
 rw[U]at Y
 have Z:=aa V;have KR:=aa X
 have hg:decide ((1024:Int)<t)=false:=decide_eq_false (by omega)
 have w1:IntKind.i64.wrap (t-53)=t-53:=by simp only[IntKind.wrap_i64];omega
 have w2:IntKind.i64.wrap (d- -1074)=(k:Int):=by simp only[IntKind.wrap_i64];omega
 have w3:IntKind.u64.wrap (k:Int)=(k:Int):=by simp only[IntKind.wrap_u64];omega
 have G:=aa (show(M:Int)+(k:Int)*4503599627370496=(R:Int) by omega)
 clear V X U hR
 have J:=aa ((Below.refl w.heap.size w).alloc (Nat.le_refl _) (.cells #[.bool z,.slice D l F,.int .i64 E] 41))
 have X0:=aa (ay.new w (.bool z) (.slice D l F) (.int .i64 E))
 go_enter Tryz.func276,Tryz.ntmps276
 go_wp2_with fail
 refine(uH Z _ (uH J)).mono ?_
 rintro e ae ⟨rfl,h⟩
 have H:=(uH X0).all h
 have K:=aa ((uH J).trans (h.mono (uH J).size))
 have X1:=aa H
 have y0:=H.c0;have y1:=H.c1;have y2:=H.c2
 clear h H Z J X0
 go_wp2_with fail
 refine(uH KR _ (uH K)).mono ?_
 rintro e am ⟨rfl,u⟩
 have L:=(uH X1).all u
 have B2:=aa ((uH K).trans (u.mono (uH K).size))
 clear y0 y1 y2
 have y0:=L.c0;have y1:=L.c1;have y2:=L.c2
 clear u L KR K X1
 go_upto_region 8 with(fail)
 rw[uH G]
 clear Y w1 w2 w3 hk N hM G Q O hz hg ht
 go_wp2
 exact bodyPost_ret (v:=.tuple #[.int .u64 R,.int .u8 5]) (by simp[results,Tryz.results276,go_sem]) rfl ⟨rfl,uH B2⟩
theorem se(z:Bool)(D:Option Addr)(F l M k R:Nat)(E t d:Int)(w:World)(Q:0<l)(ht:-100000≤t∧t≤1024)(U:max (t-53) (-1074)=d)(hk:d+1074=k)(N:k≤2045)(hM:M≤9007199254740992)
  (V:∀w',Below w.heap.size w w'→Calls Tryz.prog 208 #[.agg #[.bool z,.slice D l F,.int .i64 E]] w' fun e f=>e=.returned (.int .i64 t)∧Below w'.heap.size w' f)
  (X:∀w',Below w.heap.size w w'→Calls Tryz.prog 294 #[.agg #[.bool z,.slice D l F,.int .i64 E],.int .i64 d] w' fun e f=>e=.returned (.int .u64 M)∧Below w'.heap.size w' f)
  (hR:R=M+k*4503599627370496) (g1:decide (d≤E)=false) (g2:((R:Int)==9218868437227405312)=false) (g3:decide ((R:Int)<4503599627370496)=true):
  Calls Tryz.prog 276 #[.agg #[.bool z,.slice D l F,.int .i64 E]] w fun e w'=>e=.returned (.tuple #[.int .u64 R,.int .u8 3])∧Below w.heap.size w w':=by
 have O:decide (0<l)=true:=decide_eq_true Q
 have hz:((l:Int)==0)=false:=by simp;omega
 have Y:=fun W ts t'=>iK Tryz.prog W ts t' (t-53) (-1074)
 rw[U]at Y
 have Z:=aa V;have KR:=aa X
 have hg:decide ((1024:Int)<t)=false:=decide_eq_false (by omega)
 have w1:IntKind.i64.wrap (t-53)=t-53:=by simp only[IntKind.wrap_i64];omega
 have w2:IntKind.i64.wrap (d- -1074)=(k:Int):=by simp only[IntKind.wrap_i64];omega
 have w3:IntKind.u64.wrap (k:Int)=(k:Int):=by simp only[IntKind.wrap_u64];omega
 have G:=aa (show(M:Int)+(k:Int)*4503599627370496=(R:Int) by omega)
 clear V X U hR
 have J:=aa ((Below.refl w.heap.size w).alloc (Nat.le_refl _) (.cells #[.bool z,.slice D l F,.int .i64 E] 41))
 have X0:=aa (ay.new w (.bool z) (.slice D l F) (.int .i64 E))
 go_enter Tryz.func276,Tryz.ntmps276
 go_wp2_with fail
 refine(uH Z _ (uH J)).mono ?_
 rintro e ae ⟨rfl,h⟩
 have H:=(uH X0).all h
 have K:=aa ((uH J).trans (h.mono (uH J).size))
 have X1:=aa H
 have y0:=H.c0;have y1:=H.c1;have y2:=H.c2
 clear h H Z J X0
 go_wp2_with fail
 refine(uH KR _ (uH K)).mono ?_
 rintro e am ⟨rfl,u⟩
 have L:=(uH X1).all u
 have B2:=aa ((uH K).trans (u.mono (uH K).size))
 clear y0 y1 y2
 have y0:=L.c0;have y1:=L.c1;have y2:=L.c2
 clear u L KR K X1
 go_upto_region 8 with(fail)
 rw[uH G]
 clear Y w1 w2 w3 hk N hM G Q O hz hg ht
 go_wp2
 exact bodyPost_ret (v:=.tuple #[.int .u64 R,.int .u8 3]) (by simp[results,Tryz.results276,go_sem]) rfl ⟨rfl,uH B2⟩
theorem sf(z:Bool)(D:Option Addr)(F l M k R:Nat)(E t d:Int)(w:World)(Q:0<l)(ht:-100000≤t∧t≤1024)(U:max (t-53) (-1074)=d)(hk:d+1074=k)(N:k≤2045)(hM:M≤9007199254740992)
  (V:∀w',Below w.heap.size w w'→Calls Tryz.prog 208 #[.agg #[.bool z,.slice D l F,.int .i64 E]] w' fun e f=>e=.returned (.int .i64 t)∧Below w'.heap.size w' f)
  (X:∀w',Below w.heap.size w w'→Calls Tryz.prog 294 #[.agg #[.bool z,.slice D l F,.int .i64 E],.int .i64 d] w' fun e f=>e=.returned (.int .u64 M)∧Below w'.heap.size w' f)
  (hR:R=M+k*4503599627370496) (g1:decide (d≤E)=false) (g2:((R:Int)==9218868437227405312)=false) (g3:decide ((R:Int)<4503599627370496)=false):
  Calls Tryz.prog 276 #[.agg #[.bool z,.slice D l F,.int .i64 E]] w fun e w'=>e=.returned (.tuple #[.int .u64 R,.int .u8 1])∧Below w.heap.size w w':=by
 have O:decide (0<l)=true:=decide_eq_true Q
 have hz:((l:Int)==0)=false:=by simp;omega
 have Y:=fun W ts t'=>iK Tryz.prog W ts t' (t-53) (-1074)
 rw[U]at Y
 have Z:=aa V;have KR:=aa X
 have hg:decide ((1024:Int)<t)=false:=decide_eq_false (by omega)
 have w1:IntKind.i64.wrap (t-53)=t-53:=by simp only[IntKind.wrap_i64];omega
 have w2:IntKind.i64.wrap (d- -1074)=(k:Int):=by simp only[IntKind.wrap_i64];omega
 have w3:IntKind.u64.wrap (k:Int)=(k:Int):=by simp only[IntKind.wrap_u64];omega
 have G:=aa (show(M:Int)+(k:Int)*4503599627370496=(R:Int) by omega)
 clear V X U hR
 have J:=aa ((Below.refl w.heap.size w).alloc (Nat.le_refl _) (.cells #[.bool z,.slice D l F,.int .i64 E] 41))
 have X0:=aa (ay.new w (.bool z) (.slice D l F) (.int .i64 E))
 go_enter Tryz.func276,Tryz.ntmps276
 go_wp2_with fail
 refine(uH Z _ (uH J)).mono ?_
 rintro e ae ⟨rfl,h⟩
 have H:=(uH X0).all h
 have K:=aa ((uH J).trans (h.mono (uH J).size))
 have X1:=aa H
 have y0:=H.c0;have y1:=H.c1;have y2:=H.c2
 clear h H Z J X0
 go_wp2_with fail
 refine(uH KR _ (uH K)).mono ?_
 rintro e am ⟨rfl,u⟩
 have L:=(uH X1).all u
 have B2:=aa ((uH K).trans (u.mono (uH K).size))
 clear y0 y1 y2
 have y0:=L.c0;have y1:=L.c1;have y2:=L.c2
 clear u L KR K X1
 go_upto_region 8 with(fail)
 rw[uH G]
 clear Y w1 w2 w3 hk N hM G Q O hz hg ht
 go_wp2
 exact bodyPost_ret (v:=.tuple #[.int .u64 R,.int .u8 1]) (by simp[results,Tryz.results276,go_sem]) rfl ⟨rfl,uH B2⟩
theorem si(f:Bool)(h:Option Addr)(l:Nat)(E t:Int)(w:World)
  (F:∀w',Below w.heap.size w w'→Calls Tryz.prog 208 #[.agg #[.bool f,.slice h 0 l,.int .i64 E]] w' fun e D=>e=.returned (.int .i64 t)∧Below w'.heap.size w' D):
  Calls Tryz.prog 276 #[.agg #[.bool f,.slice h 0 l,.int .i64 E]] w fun e w'=>e=.returned (.tuple #[.int .u64 0,.int .u8 0])∧Below w.heap.size w w':=by
 have G:=aa F
 clear F
 have u:=aa ((Below.refl w.heap.size w).alloc (Nat.le_refl _) (.cells #[.bool f,.slice h 0 l,.int .i64 E] 41))
 have H:=aa (ay.new w (.bool f) (.slice h 0 l) (.int .i64 E))
 go_enter Tryz.func276,Tryz.ntmps276
 go_wp2_with fail
 refine(uH G _ (uH u)).mono ?_
 rintro e K ⟨rfl,d⟩
 have z:=(uH H).all d
 have J:=aa ((uH u).trans (d.mono (uH u).size))
 have L:=z.c0;have M:=z.c1;have N:=z.c2
 clear d z G u H
 go_wp2
 exact bodyPost_ret (v:=.tuple #[.int .u64 0,.int .u8 0]) (by simp[results,Tryz.results276,go_sem]) rfl ⟨rfl,uH J⟩
theorem sj(f:Bool)(h:Option Addr)(u l:Nat)(E t:Int)(w:World)(L:0<l)(G:1024<t)
  (H:∀w',Below w.heap.size w w'→Calls Tryz.prog 208 #[.agg #[.bool f,.slice h l u,.int .i64 E]] w' fun e F=>e=.returned (.int .i64 t)∧Below w'.heap.size w' F):
  Calls Tryz.prog 276 #[.agg #[.bool f,.slice h l u,.int .i64 E]] w fun e w'=>e=.returned (.tuple #[.int .u64 9218868437227405312,.int .u8 5])∧Below w.heap.size w w':=by
 have M:decide (0<l)=true:=decide_eq_true L
 have Q:((l:Int)==0)=false:=by simp;omega
 have U:decide ((1024:Int)<t)=true:=decide_eq_true G
 have J:=aa H
 clear H G
 have z:=aa ((Below.refl w.heap.size w).alloc (Nat.le_refl _) (.cells #[.bool f,.slice h l u,.int .i64 E] 41))
 have K:=aa (ay.new w (.bool f) (.slice h l u) (.int .i64 E))
 go_enter Tryz.func276,Tryz.ntmps276
 go_wp2_with fail
 refine(uH J _ (uH z)).mono ?_
 rintro e O ⟨rfl,d⟩
 have D:=(uH K).all d
 have N:=aa ((uH z).trans (d.mono (uH z).size))
 have V:=D.c0;have X:=D.c1;have Y:=D.c2
 clear d D J z K
 go_wp2
 exact bodyPost_ret (v:=.tuple #[.int .u64 9218868437227405312,.int .u8 5]) (by simp[results,Tryz.results276,go_sem]) rfl ⟨rfl,uH N⟩
theorem FK{n:Bool}{L:List Nat}(d:al n L=true)(f:L≠ []):ai L≠0:=fun h=>f ((aG L (au d).2.1).1 h)
theorem oX(f:Bool)(h:Option Addr)(l:Nat)(A:List Nat)(E:Int)(w:World)(K:ag w h l A)(Y:jS f A E=true):
  Calls Tryz.prog 276 #[.agg #[.bool f,.slice h A.length l,.int .i64 E]] w fun e w'=>e=.returned (.tuple #[.int .u64 (bf (ai A) E:Nat),.int .u8 (bj (ai A) E)])∧Below w.heap.size w w':=by
 obtain⟨d1,d2,d3,d4,d5⟩:=bO Y
 have z:∀w',Below w.heap.size w w'→Calls Tryz.prog 208 #[.agg #[.bool f,.slice h A.length l,.int .i64 E]] w' fun e F=>e=.returned (.int .i64 (IntKind.i64.wrap (dw A+E)))∧Below w'.heap.size w' F:=fun w' V=>j4 f h l A E w' (K.below V) (by omega)
 rw[ig K.2.1 d1]at z
 by_cases L:A= []
 ·subst L
  have X:bf (ai []) E=0:=by simp[bf,ai]
  have u:bj (ai []) E=0:=by simp[bj,ai]
  rw[X,u]
  exact si f h l E _ w z
 ·have D:=FK d1 L
  have H:0<A.length:=List.length_pos_iff.2 L
  have ae:bl (ai A)≤16384:=by
   have h1:=aU (ai A) D
   have h2:=ui A K.2.1 512 d2
   have:=cf (Nat.lt_of_le_of_lt h1.2.1 h2)
   omega
  have hw:IntKind.i64.wrap ((bl (ai A):Int)+E)=(bl (ai A):Int)+E:=by simp only[IntKind.wrap_i64];omega
  rw[hw]at z
  by_cases M:1024<(bl (ai A):Int)+E
  ·have X:bf (ai A) E=9218868437227405312:=by unfold bf;rw[if_neg D,if_pos M]
   have u:bj (ai A) E=5:=by unfold bj;rw[if_neg D,if_pos M]
   rw[X,u]
   exact sj f h l A.length E _ w H M z
  ·have N:=cj (ai A) E D (by omega)
   obtain⟨l1,l2,l3⟩:=bU (ai A) E
   have O:=(ch (ai A) E D).1
   have hN:=Hm (ai A) E D
   have Z:=(aU (ai A) D).1
   have Q:∀w',Below w.heap.size w w'→Calls Tryz.prog 294 #[.agg #[.bool f,.slice h A.length l,.int .i64 E],.int .i64 (ar (ai A) E)] w' fun e F=>e=.returned (.int .u64 (cQ (ai A) E:Nat))∧Below w'.heap.size w' F:=fun w' V=>
    rZ f h l A E _ w' (K.below V) Y L (by omega) (by omega) hN
   have d:max ((bl (ai A):Int)+E-53) (-1074)=ar (ai A) E:=rfl
   have U:ar (ai A) E+1074=((ar (ai A) E+1074).toNat:Int):=by omega
   have u:bj (ai A) E=if ar (ai A) E≤E then 0 else if bf (ai A) E=9218868437227405312 then 5 else if bf (ai A) E<4503599627370496 then 3 else 1:=by unfold bj;rw[if_neg D,if_neg M]
   by_cases G:ar (ai A) E≤E
   ·rw[u,if_pos G]
    exact r8 f h l A.length _ _ _ E _ _ w H (by omega) d U (by omega) O z Q N (decide_eq_true G)
   ·rw[if_neg G]at u
    by_cases g2:bf (ai A) E=9218868437227405312
    ·rw[u,if_pos g2]
     exact r9 f h l A.length _ _ _ E _ _ w H (by omega) d U (by omega) O z Q N (decide_eq_false G) (by simp;omega)
    ·rw[if_neg g2]at u
     have J:((bf (ai A) E:Int)==9218868437227405312)=false:=by simp;omega
     by_cases g3:bf (ai A) E<4503599627370496
     ·rw[u,if_pos g3]
      exact se f h l A.length _ _ _ E _ _ w H (by omega) d U (by omega) O z Q N (decide_eq_false G) J (decide_eq_true (by omega))
     ·rw[u,if_neg g3]
      exact sf f h l A.length _ _ _ E _ _ w H (by omega) d U (by omega) O z Q N (decide_eq_false G) J (decide_eq_false (by omega))
def bY(neg:Bool)(r:Nat):Nat:=if neg=true then r+9223372036854775808 else r
theorem cu(r:Nat):bY true r=r+9223372036854775808:=if_pos rfl
theorem aQ(r:Nat):bY false r=r:=if_neg Bool.false_ne_true
theorem zv(r:Nat)(h:r<9223372036854775808):fN r=bY true r:=by rw[cu];unfold fN;exact if_neg (by omega)
theorem sl(u:Bool)(J:Option Addr)(K:Nat)(A:List Nat)(E:Int)(w:World)(hA:ag w J K A)(V:jS u A E=true)(hT:bT w):
  Calls Tryz.prog 251 #[.agg #[.bool u,.slice J A.length K,.int .i64 E]] w fun e w'=>e=.returned (.tuple #[.int .u64 (bY u (bf (ai A) E):Nat),.int .u8 (bj (ai A) E),.int .i64 0])∧Below w.heap.size w w':=by
 have la:=(bO V).2.1
 have M:=aa (fun w' h t=>h9 u J K A E w' h (by omega) t)
 have he:nf u A E=0:=by unfold nf;rw[V];rfl
 rw[he]at M
 have X:=aa (fun w' h=>oX u J K A E w' h V)
 have ae:=cH (ai A) E
 have hn:fN (bf (ai A) E)=bY true (bf (ai A) E):=zv _ (by omega)
 have CM:=aa (fun w'=>ez (bf (ai A) E) w' (by omega))
 rw[hn]at CM
 clear he V la
 have D:=aa ((Below.refl w.heap.size w).alloc (Nat.le_refl _) (.cells #[.bool u,.slice J A.length K,.int .i64 E] 41))
 have Y:=aa (ay.new w (.bool u) (.slice J A.length K) (.int .i64 E))
 have L:=aa (hA.below (uH D));have Z:=aa (hT.all (uH D))
 have F:bY false (bf (ai A) E)=bf (ai A) E:=aQ _
 clear hA hT ae hn
 generalize bj (ai A) E=fl at*
 generalize bf (ai A) E=R at*
 cases u
 ·rw[F]
  clear CM F
  go_enter Tryz.func251,Tryz.ntmps251
  go_wp2_with fail
  refine(uH M _ (uH L) (uH Z)).mono ?_
  rintro e w1 ⟨rfl,d⟩
  have G:=aa ((uH D).trans (d.mono (uH D).size))
  have l:=(uH Y).all d
  have H:=aa ((uH L).below d)
  have N:=l.c0;have O:=l.c1;have Q:=l.c2
  have U:=aa l
  clear d D M L Z Y l
  go_wp2_with fail
  refine(uH X _ (uH H)).mono ?_
  rintro e w2 ⟨rfl,f⟩
  have B2:=aa ((uH G).trans (f.mono (uH G).size))
  have z:=(uH U).all f
  clear N O Q
  have N:=z.c0;have O:=z.c1;have Q:=z.c2
  clear f z X G U
  go_wp2
  exact bodyPost_ret (v:=.tuple #[.int .u64 R,.int .u8 fl,.int .i64 0]) (by simp[results,Tryz.results251,go_sem]) rfl ⟨rfl,uH B2⟩
 ·clear F
  generalize bY true R=R' at*
  go_enter Tryz.func251,Tryz.ntmps251
  go_wp2_with fail
  refine(uH M _ (uH L) (uH Z)).mono ?_
  rintro e w1 ⟨rfl,d⟩
  have G:=aa ((uH D).trans (d.mono (uH D).size))
  have l:=(uH Y).all d
  have H:=aa ((uH L).below d)
  have N:=l.c0;have O:=l.c1;have Q:=l.c2
  have U:=aa l
  clear d D M L Z Y l
  go_wp2_with fail
  refine(uH X _ (uH H)).mono ?_
  rintro e w2 ⟨rfl,f⟩
  have B2:=aa ((uH G).trans (f.mono (uH G).size))
  have z:=(uH U).all f
  clear N O Q
  have N:=z.c0;have O:=z.c1;have Q:=z.c2
  clear f z X G U
  go_wp2_with(go_at_call 188;refine(uH CM _).mono ?_;rintro e w3 ⟨rfl,rfl⟩)
  exact bodyPost_ret (v:=.tuple #[.int .u64 R',.int .u8 fl,.int .i64 0]) (by simp[results,Tryz.results251,go_sem]) rfl ⟨rfl,uH B2⟩
theorem iL{w:World}{v:Value}{m e:Int}(h:aC w v m e)(l:m.natAbs<dt)(u:qn m e=true)(z:bT w):
  Calls Tryz.prog 251 #[v] w fun r w'=>r=.returned (.tuple #[.int .u64 (bY (decide (m<0)) (bf m.natAbs e):Nat),.int .u8 (bj m.natAbs e),.int .i64 0])∧Below w.heap.size w w':=by
 obtain⟨n,a,c,L,rfl,F,K,G,M,H⟩:=h.right l
 have d:n=decide (m<0):=by
  obtain⟨N,O,Q,U,f,_,_,J,_⟩:=h.parts
  simp only[Value.agg.injEq,Array.mk.injEq,List.cons.injEq,Value.bool.injEq]at f
  rw[f.1];exact J
 have D:ai L=m.natAbs:=by rw[←G,aM]
 have:=sl n a c L e w F (H.trans u) z
 rw[D,d]at this
 rw[d]
 exact this
theorem FL(b:Nat):(fM b).natAbs=fA b:=by unfold fM sg;split<;>simp
theorem FN(b:Nat)(d:aA b=true):fP b<2047:=by
 have:=mQ b
 unfold aA at d
 simp at d
 omega
theorem zw(b:Nat)(F:aA b=true):bf (fA b) (fE b)=b%9223372036854775808∧ar (fA b) (fE b)=fE b∧(bl (fA b):Int)+fE b≤1024:=by
 have K:=FN b F
 have G:b%9223372036854775808=fF b+fP b*4503599627370496:=by unfold fF fP;omega
 have H:=rF b
 rw[G]
 by_cases h:fP b=0
 ·have u:fA b=fF b:=by unfold fA;rw[if_pos h]
  have z:fE b= -1074:=by unfold fE;rw[if_pos h]
  rw[u,z,h]
  generalize fF b=f at*
  by_cases D:f=0
  ·subst D
   exact⟨by simp[bf],by decide,by decide⟩
  ·obtain⟨L,M,N⟩:=aU f D
   have d:bl f≤52:=by
    have J:(2:Nat)^(bl f-1)<2^52:=by rw[Fb];omega
    have:=cf J
    omega
   have l:ar f (-1074)= -1074:=by unfold ar;omega
   refine⟨?_,l,by omega⟩
   rw[cj f _ D (by omega)]
   unfold cQ
   rw[l]
   have:=iF f 0
   simp at this
   simp[this]
 ·have u:fA b=fF b+4503599627370496:=by unfold fA;rw[if_neg h]
  have z:fE b=(fP b:Int)-1075:=by unfold fE;rw[if_neg h]
  rw[u,z]
  generalize fF b=f at*
  generalize fP b=p at*
  have d:bl (f+4503599627370496)=53:=jV (by decide) (by show 2^52≤_;rw[Fb];omega) (by rw[yB];omega)
  have l:ar (f+4503599627370496) ((p:Int)-1075)=(p:Int)-1075:=by unfold ar;rw[d];omega
  refine⟨?_,l,by rw[d];omega⟩
  rw[cj _ _ (by omega) (by rw[d];omega)]
  unfold cQ
  rw[l]
  have:=iF (f+4503599627370496) 0
  simp at this
  rw[show(p:Int)-1075-((p:Int)-1075)=0 by omega,this]
  omega
theorem zA(z:Int)(h:z≠0):z.natAbs=(oM z).natAbs*2^tz z.natAbs:=by
 have f:=(fq z h).1
 have d:=congrArg Int.natAbs f
 rw[Int.natAbs_mul,Int.natAbs_pow]at d
 exact d
theorem jf(z:Int):decide (oM z<0)=decide (z<0):=by
 have h:=vF z
 unfold eY at h
 by_cases f:oM z<0
 ·rw[if_pos f]at h
  by_cases d:z<0
  ·rw[decide_eq_true f,decide_eq_true d]
  ·rw[if_neg d]at h
   split at h<;>omega
 ·rw[if_neg f]at h
  by_cases d:z<0
  ·rw[if_pos d]at h
   split at h<;>omega
  ·rw[decide_eq_false f,decide_eq_false d]
theorem jg(z e:Int):bf (oM z).natAbs (oE z e)=bf z.natAbs e∧(z≠0→ar (oM z).natAbs (oE z e)=ar z.natAbs e∧(bl (oM z).natAbs:Int)+oE z e=(bl z.natAbs:Int)+e):=by
 by_cases h:z=0
 ·subst h
  refine⟨by rw[cl];simp[bf],fun h=>absurd rfl h⟩
 ·have l:=zA z h
  have d:(oM z).natAbs≠0:=by have:=(gj z h).1;omega
  rw[dz z e h]
  generalize tz z.natAbs=k at*
  rw[l,dk]
  refine⟨rfl,fun _=>?_⟩
  have f:=jW (oM z).natAbs k d
  refine⟨?_,by rw[f];omega⟩
  unfold ar
  rw[f]
  congr 1
  omega
end Go.Proofs.YtdhmglmccafbnaaGreatDoor
