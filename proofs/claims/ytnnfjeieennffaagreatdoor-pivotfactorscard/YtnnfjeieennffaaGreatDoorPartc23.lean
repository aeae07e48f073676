/- Part 23 of the texts. -/
import Derived.Test.YtnnfjeieennffaaGreatDoorPartc22
set_option maxHeartbeats 4000000
set_option maxRecDepth 20000
namespace Go.Proofs.YtnnfjeieennffaaGreatDoor
open Go.RowKit
theorem uY(b:Nat)(h:b<18446744073709551616):bits .andNot .u64 (b:Int) 9223372036854775808=(fR b:Int):=by
 have d:=u64_andNot_nat b 9223372036854775808 h (by decide)
 refine d.trans ?_
 rw[show 18446744073709551615-9223372036854775808=2^63-1 by decide,Nat.and_two_pow_sub_one_eq_mod]
 rfl
theorem A8(x:Nat)(h:x<4096):x&&& 2048=x/2048*2048:=by
 have f:(x&&& 2^11)%2^11=0:=by rw[Nat.and_mod_two_pow];simp
 have d:(x&&& 2^11)/2^11=(x/2^11)&&& 1:=by rw[Nat.and_div_two_pow]
 rw[Nat.and_one_is_mod]at d
 have l:=Nat.div_add_mod (x&&& 2^11) (2^11)
 rw[f,d]at l
 rw[show(2048:Nat)=2^11 by decide]
 omega
theorem yr(b:Nat)(h:b<18446744073709551616):b&&& 9227875636482146303=b/9223372036854775808*9223372036854775808+b%4503599627370496:=by
 have d:(b&&& 9227875636482146303)%2^52=b%4503599627370496:=by
  rw[Nat.and_mod_two_pow,show 9227875636482146303%2^52=2^52-1 by decide,Nat.and_two_pow_sub_one_eq_mod,Nat.mod_mod]
 have f:(b&&& 9227875636482146303)/2^52=b/4503599627370496/2048*2048:=by
  rw[Nat.and_div_two_pow,show 9227875636482146303/2^52=2048 by decide]
  exact A8 _ (by omega)
 have:=Nat.div_add_mod (b&&& 9227875636482146303) (2^52)
 rw[d,f]at this
 omega
theorem nX(s:Bool)(q:Nat)(h:q<9223372036854775808):bits .andNot .u64 (bZ s q:Nat) 9218868437227405312=(bZ s (q%4503599627370496):Nat):=by
 have d:=u64_andNot_nat (bZ s q) 9218868437227405312 (ez s q h) (by decide)
 refine d.trans ?_
 rw[show 18446744073709551615-9218868437227405312=9227875636482146303 by decide,yr _ (ez s q h)]
 congr 1
 cases s
 ·rw[aU,aU];omega
 ·rw[cI,cI];omega
theorem A9(s:Bool)(f p:Nat)(m:f<4503599627370496)(z:p<2048):bits .or .u64 (bZ s f:Nat) ((p*4503599627370496:Nat):Int)=(bZ s (f+p*4503599627370496):Nat):=by
 have d:=bits_or_u64_nat (bZ s f) (p*4503599627370496) (ez s f (by omega)) (by omega)
 refine d.trans ?_
 congr 1
 obtain⟨t,A⟩:∃t,bZ s f=t*2048*4503599627370496+f∧t≤1:=by
  cases s
  ·exact⟨0,by rw[aU];omega,by omega⟩
  ·exact⟨1,by rw[cI];omega,by omega⟩
 have h:(bZ s f|||p*4503599627370496)%2^52=f:=by
  rw[Nat.or_mod_two_pow,show p*4503599627370496%2^52=0 by omega,Nat.or_zero]
  omega
 have l:(bZ s f|||p*4503599627370496)/2^52=p+t*2^11:=by
  rw[Nat.or_div_two_pow,show p*4503599627370496/2^52=p by omega,show bZ s f/2^52=t*2^11 by omega,Nat.or_comm]
  exact kj p t 11 (by omega)
 have:=Nat.div_add_mod (bZ s f|||p*4503599627370496) (2^52)
 rw[h,l]at this
 cases s
 ·rw[aU]at*;rw[aU];omega
 ·rw[cI]at*;rw[cI];omega
theorem Ba(k:Nat)(h:k<4096):bits .and .i64 (k:Int) 2047=((k%2048:Nat):Int):=by
 have d:=Go.bits_nat .i64 62 (by decide) (fun x f d=>by rw[IntKind.wrap_i64];simp at d;omega) k 2047 (by simp;omega) (by decide)
 refine d.1.trans ?_
 rw[show(2047:Nat)=2^11-1 by decide,Nat.and_two_pow_sub_one_eq_mod]
theorem s8(b:Nat)(w:World)(h:b<18446744073709551616):
  Calls Tryz.prog 185 #[.float .f64 b] w fun r w'=>r=.returned (.float .f64 (fR b))∧w=w':=by
 have d:=fun W=>kz b W
 have k:=uY b h
 generalize fR b=q at*
 have hF:=fun W=>d9 q W
 go_enter Tryz.func185,Tryz.ntmps185
 go_wp2_with(simp only[k])
 go_ret
 exact⟨rfl,rfl⟩
theorem kA(b q:Nat)(o:Option Ordering)(i:Bool)(w:World)(m:FloatKind.f64.format.order q 9218868437227405311=o)
  (l:(o=none∧i=false)∨(o=some .lt∧i=false)∨(o=some .eq∧i=false)∨(o=some .gt∧i=true))
  (f:∀w',Calls Tryz.prog 185 #[.float .f64 b] w' fun r d=>r=.returned (.float .f64 q)∧w'=d):
  Calls Tryz.prog 159 #[.float .f64 b,.int .i64 0] w fun r w'=>r=.returned (.bool i)∧w=w':=by
 have h:=aa f
 clear f
 rcases l with⟨rfl,rfl⟩|⟨rfl,rfl⟩|⟨rfl,rfl⟩|⟨rfl,rfl⟩
 all_goals
  go_enter Tryz.func159,Tryz.ntmps159
  go_wp2_with fail
  refine(uH h _).mono ?_
  rintro e t ⟨rfl,rfl⟩
  clear h
  go_wp2
  go_ret
  exact⟨rfl,rfl⟩
theorem s9(b:Nat)(o:Option Ordering)(i:Bool)(w:World)(f:FloatKind.f64.format.order b b=o)
  (d:(o=none∧i=true)∨(o=some .eq∧i=false)):
  Calls Tryz.prog 160 #[.float .f64 b] w fun r w'=>r=.returned (.bool i)∧w=w':=by
 rcases d with⟨rfl,rfl⟩|⟨rfl,rfl⟩
 all_goals
  go_enter Tryz.func160,Tryz.ntmps160
  go_wp2
  go_ret
  exact⟨rfl,rfl⟩
theorem pf(b:Nat)(w:World)(h:b<18446744073709551616):
  Calls Tryz.prog 162 #[.float .f64 0,.float .f64 b] w fun r w'=>r=.returned (.float .f64 (bZ (fS b) 0))∧w=w':=by
 have m:∀W,(callFunc 64 #[.float .f64 0]).run Tryz.prog W=.ok (.value (.int .u64 0)) W:=fun W=>kz 0 W
 have t:=fun W=>kz b W
 have l:bits .andNot .u64 0 9223372036854775808=0:=by decide+kernel
 have d:=wv b h
 cases hs:fS b
 ·rw[hs]at d
  simp only[Bool.false_eq_true,if_false]at d
  rw[aU]
  have hF:∀W,(callFunc 136 #[.int .u64 0]).run Tryz.prog W=.ok (.value (.float .f64 0)) W:=fun W=>d9 0 W
  have f:bits .or .u64 0 0=0:=by decide+kernel
  go_enter Tryz.func162,Tryz.ntmps162
  go_wp2_with(simp only[l,d,f])
  go_ret
  exact⟨rfl,rfl⟩
 ·rw[hs]at d
  simp only[if_true]at d
  rw[cI]
  have hF:∀W,(callFunc 136 #[.int .u64 9223372036854775808]).run Tryz.prog W=.ok (.value (.float .f64 9223372036854775808)) W:=fun W=>d9 9223372036854775808 W
  have f:bits .or .u64 0 9223372036854775808=9223372036854775808:=by decide+kernel
  go_enter Tryz.func162,Tryz.ntmps162
  go_wp2_with(simp only[l,d,f])
  go_ret
  exact⟨rfl,rfl⟩
theorem tc(s:Int)(o:Nat)(w:World)(d:(s=1∧o=9218868437227405312)∨(s= -1∧o=18442240474082181120)):
  Calls Tryz.prog 163 #[.int .i64 s] w fun e w'=>e=.returned (.float .f64 o)∧w=w':=by
 have f:∀W,(callFunc 136 #[.int .u64 9218868437227405312]).run Tryz.prog W=.ok (.value (.float .f64 9218868437227405312)) W:=fun W=>d9 9218868437227405312 W
 have h:∀W,(callFunc 136 #[.int .u64 18442240474082181120]).run Tryz.prog W=.ok (.value (.float .f64 18442240474082181120)) W:=fun W=>d9 18442240474082181120 W
 rcases d with⟨rfl,rfl⟩|⟨rfl,rfl⟩
 all_goals
  go_enter Tryz.func163,Tryz.ntmps163
  go_wp2
  go_ret
  exact⟨rfl,rfl⟩
theorem iC(b q r:Nat)(e:Int)(o:Option Ordering)(w:World)(m:FloatKind.f64.format.order q 4503599627370496=o)
  (l:(o=some .lt∧e= -52∧∀i w',(binOp .mul i (.float .f64 b) (.float .f64 4841369599423283200)).run Tryz.prog w'=.ok (.float .f64 r) w')∨(o=some .eq∧e=0∧r=b)∨(o=some .gt∧e=0∧r=b))
  (f:∀w',Calls Tryz.prog 185 #[.float .f64 b] w' fun r d=>r=.returned (.float .f64 q)∧w'=d):
  Calls Tryz.prog 161 #[.float .f64 b] w fun s w'=>s=.returned (.tuple #[.float .f64 r,.int .i64 e])∧w=w':=by
 have h:=aa f
 clear f
 rcases l with⟨rfl,rfl,z⟩|⟨rfl,rfl,rfl⟩|⟨rfl,rfl,rfl⟩
 all_goals
  go_enter Tryz.func161,Tryz.ntmps161
  go_wp2_with fail
  refine(uH h _).mono ?_
  rintro e t ⟨rfl,rfl⟩
  clear h
  go_wp2
  exact bodyPost_ret (v:=.tuple #[.float .f64 r,.int .i64 _]) (by simp[results,Tryz.results161,go_sem];try rfl) rfl ⟨rfl,rfl⟩
theorem yt(a x z p:Nat)(n e E:Int)(o:Option Ordering)(w:World)(L:FloatKind.f64.format.order a 0=o)(H:o=some .lt∨o=some .gt)
  (M:p<2048) (N:-5000≤n∧n≤5000) (O:-52≤e∧e≤0) (Q:(x:Int)/4503599627370496<4096) (U:bits .and .i64 ((x:Int)/4503599627370496) 2047=(p:Int)) (V:n+e+((p:Int)-1023)=E) (K:E< -1075)
  (h:∀w',Calls Tryz.prog 159 #[.float .f64 a,.int .i64 0] w' fun r d=>r=.returned (.bool false)∧w'=d)
  (l:∀w',Calls Tryz.prog 160 #[.float .f64 a] w' fun r d=>r=.returned (.bool false)∧w'=d)
  (m:∀w',Calls Tryz.prog 161 #[.float .f64 a] w' fun r d=>r=.returned (.tuple #[.float .f64 x,.int .i64 e])∧w'=d)
  (t:∀w',Calls Tryz.prog 162 #[.float .f64 0,.float .f64 x] w' fun r d=>r=.returned (.float .f64 z)∧w'=d)
  (X:∀W,(callFunc 64 #[.float .f64 x]).run Tryz.prog W=.ok (.value (.int .u64 x)) W):
  Calls Tryz.prog 135 #[.float .f64 a,.int .i64 n] w fun r w'=>r=.returned (.float .f64 z)∧w=w':=by
 have A:=aa h;have D:=aa l;have F:=aa m;have G:=aa t
 clear h l m t
 have Y:decide (E< -1075)=true:=decide_eq_true K
 rcases H with rfl|rfl
 all_goals
  go_enter Tryz.func135,Tryz.ntmps135
  go_wp2_with fail
  refine(uH A _).mono ?_
  rintro e f ⟨rfl,rfl⟩
  go_wp2_with fail
  refine(uH D _).mono ?_
  rintro e f ⟨rfl,rfl⟩
  go_wp2_with fail
  refine(uH F _).mono ?_
  rintro e f ⟨rfl,rfl⟩
  clear A D F
  go_wp2_with fail
  refine(uH G _).mono ?_
  rintro e f ⟨rfl,rfl⟩
  clear G
  go_wp2
  go_ret
  exact⟨rfl,rfl⟩
theorem uZ(a x z p:Nat)(n e E:Int)(o f:Option Ordering)(w:World)(Q:FloatKind.f64.format.order a 0=o)(K:o=some .lt∨o=some .gt)(L:FloatKind.f64.format.order x 0=f)
  (M:(f=some .lt∧z=18442240474082181120)∨(f=some .gt∧z=9218868437227405312))
  (U:p<2048) (V:-5000≤n∧n≤5000) (X:-52≤e∧e≤0) (Y:(x:Int)/4503599627370496<4096) (Z:bits .and .i64 ((x:Int)/4503599627370496) 2047=(p:Int)) (hE:n+e+((p:Int)-1023)=E) (N:1023<E)
  (l:∀w',Calls Tryz.prog 159 #[.float .f64 a,.int .i64 0] w' fun r d=>r=.returned (.bool false)∧w'=d)
  (m:∀w',Calls Tryz.prog 160 #[.float .f64 a] w' fun r d=>r=.returned (.bool false)∧w'=d)
  (t:∀w',Calls Tryz.prog 161 #[.float .f64 a] w' fun r d=>r=.returned (.tuple #[.float .f64 x,.int .i64 e])∧w'=d)
  (hB:∀W,(callFunc 64 #[.float .f64 x]).run Tryz.prog W=.ok (.value (.int .u64 x)) W):
  Calls Tryz.prog 135 #[.float .f64 a,.int .i64 n] w fun r w'=>r=.returned (.float .f64 z)∧w=w':=by
 have A:=aa l;have D:=aa m;have F:=aa t
 have G:=aa (fun w'=>tc 1 9218868437227405312 w' (by decide))
 have H:=aa (fun w'=>tc (-1) 18442240474082181120 w' (by decide))
 clear l m t
 have d1:decide (E< -1075)=false:=decide_eq_false (by omega)
 have d2:decide (1023<E)=true:=decide_eq_true N
 have O:-1075≤E:=by omega
 rcases M with⟨rfl,rfl⟩|⟨rfl,rfl⟩<;>rcases K with rfl|rfl
 all_goals
  go_enter Tryz.func135,Tryz.ntmps135
  go_wp2_with fail
  refine(uH A _).mono ?_
  rintro e h ⟨rfl,rfl⟩
  go_wp2_with fail
  refine(uH D _).mono ?_
  rintro e h ⟨rfl,rfl⟩
  go_wp2_with fail
  refine(uH F _).mono ?_
  rintro e h ⟨rfl,rfl⟩
  clear A D F
  go_wp2_with fail
  first|refine(uH G _).mono ?_ |refine(uH H _).mono ?_
  rintro e h ⟨rfl,rfl⟩
  clear G H
  go_wp2
  go_ret
  exact⟨rfl,rfl⟩
theorem yu(a x y v r p:Nat)(n e E:Int)(o:Option Ordering)(w:World)(F:FloatKind.f64.format.order a 0=o)(D:o=some .lt∨o=some .gt)
  (G:p<2048) (H:-5000≤n∧n≤5000) (K:-52≤e∧e≤0) (L:(x:Int)/4503599627370496<4096) (M:bits .and .i64 ((x:Int)/4503599627370496) 2047=(p:Int)) (N:n+e+((p:Int)-1023)=E) (O:-1022≤E) (Q:E≤1023)
  (U:bits .andNot .u64 (x:Int) 9218868437227405312=(y:Int)) (V:bits .or .u64 (y:Int) ((E+1023)*4503599627370496)=(v:Int))
  (hF:∀W,(callFunc 136 #[.int .u64 v]).run Tryz.prog W=.ok (.value (.float .f64 v)) W)
  (X:∀i w',(binOp .mul i (.float .f64 4607182418800017408) (.float .f64 v)).run Tryz.prog w'=.ok (.float .f64 r) w')
  (f:∀w',Calls Tryz.prog 159 #[.float .f64 a,.int .i64 0] w' fun r d=>r=.returned (.bool false)∧w'=d)
  (h:∀w',Calls Tryz.prog 160 #[.float .f64 a] w' fun r d=>r=.returned (.bool false)∧w'=d)
  (l:∀w',Calls Tryz.prog 161 #[.float .f64 a] w' fun r d=>r=.returned (.tuple #[.float .f64 x,.int .i64 e])∧w'=d)
  (Y:∀W,(callFunc 64 #[.float .f64 x]).run Tryz.prog W=.ok (.value (.int .u64 x)) W):
  Calls Tryz.prog 135 #[.float .f64 a,.int .i64 n] w fun s w'=>s=.returned (.float .f64 r)∧w=w':=by
 have m:=aa f;have t:=aa h;have z:=aa l
 clear f h l
 have Z:decide (E< -1075)=false:=decide_eq_false (by omega)
 have d2:decide (1023<E)=false:=decide_eq_false (by omega)
 have d3:decide (E< -1022)=false:=decide_eq_false (by omega)
 rcases D with rfl|rfl
 all_goals
  go_enter Tryz.func135,Tryz.ntmps135
  go_wp2_with fail
  refine(uH m _).mono ?_
  rintro e A ⟨rfl,rfl⟩
  go_wp2_with fail
  refine(uH t _).mono ?_
  rintro e A ⟨rfl,rfl⟩
  go_wp2_with fail
  refine(uH z _).mono ?_
  rintro e A ⟨rfl,rfl⟩
  clear m t z
  go_wp2
  go_ret
  exact⟨rfl,rfl⟩
theorem yv(a x y v r p:Nat)(n e E:Int)(o:Option Ordering)(w:World)(F:FloatKind.f64.format.order a 0=o)(D:o=some .lt∨o=some .gt)
  (G:p<2048) (H:-5000≤n∧n≤5000) (K:-52≤e∧e≤0) (L:(x:Int)/4503599627370496<4096) (M:bits .and .i64 ((x:Int)/4503599627370496) 2047=(p:Int)) (N:n+e+((p:Int)-1023)=E) (O:-1075≤E) (Q:E< -1022)
  (U:bits .andNot .u64 (x:Int) 9218868437227405312=(y:Int)) (V:bits .or .u64 (y:Int) ((E+53+1023)*4503599627370496)=(v:Int))
  (hF:∀W,(callFunc 136 #[.int .u64 v]).run Tryz.prog W=.ok (.value (.float .f64 v)) W)
  (X:∀i w',(binOp .mul i (.float .f64 4368491638549381120) (.float .f64 v)).run Tryz.prog w'=.ok (.float .f64 r) w')
  (f:∀w',Calls Tryz.prog 159 #[.float .f64 a,.int .i64 0] w' fun r d=>r=.returned (.bool false)∧w'=d)
  (h:∀w',Calls Tryz.prog 160 #[.float .f64 a] w' fun r d=>r=.returned (.bool false)∧w'=d)
  (l:∀w',Calls Tryz.prog 161 #[.float .f64 a] w' fun r d=>r=.returned (.tuple #[.float .f64 x,.int .i64 e])∧w'=d)
  (Y:∀W,(callFunc 64 #[.float .f64 x]).run Tryz.prog W=.ok (.value (.int .u64 x)) W):
  Calls Tryz.prog 135 #[.float .f64 a,.int .i64 n] w fun s w'=>s=.returned (.float .f64 r)∧w=w':=by
 have m:=aa f;have t:=aa h;have z:=aa l
 clear f h l
 have Z:decide (E< -1075)=false:=decide_eq_false (by omega)
 have d2:decide (1023<E)=false:=decide_eq_false (by omega)
 have d3:decide (E< -1022)=true:=decide_eq_true (by omega)
 rcases D with rfl|rfl
 all_goals
  go_enter Tryz.func135,Tryz.ntmps135
  go_wp2_with fail
  refine(uH m _).mono ?_
  rintro e A ⟨rfl,rfl⟩
  go_wp2_with fail
  refine(uH t _).mono ?_
  rintro e A ⟨rfl,rfl⟩
  go_wp2_with fail
  refine(uH z _).mono ?_
  rintro e A ⟨rfl,rfl⟩
  clear m t z
  go_wp2
  go_ret
  exact⟨rfl,rfl⟩
theorem vd(a:Nat)(n:Int)(w:World)(d:FloatKind.f64.format.order a 0=some .eq):
  Calls Tryz.prog 135 #[.float .f64 a,.int .i64 n] w fun s w'=>s=.returned (.float .f64 a)∧w=w':=by
 go_enter Tryz.func135,Tryz.ntmps135
 go_wp2
 go_ret
 exact⟨rfl,rfl⟩
theorem p7(a:Nat)(n:Int)(i k:Bool)(o:Option Ordering)(w:World)(D:FloatKind.f64.format.order a 0=o)(f:o=none∨o=some .lt∨o=some .gt)(z:(i=true)∨(i=false∧k=true))
  (h:∀w',Calls Tryz.prog 159 #[.float .f64 a,.int .i64 0] w' fun r d=>r=.returned (.bool i)∧w'=d)
  (l:∀w',Calls Tryz.prog 160 #[.float .f64 a] w' fun r d=>r=.returned (.bool k)∧w'=d):
  Calls Tryz.prog 135 #[.float .f64 a,.int .i64 n] w fun s w'=>s=.returned (.float .f64 a)∧w=w':=by
 have m:=aa h;have A:=aa l
 clear h l
 rcases z with rfl|⟨rfl,rfl⟩
 ·rcases f with rfl|rfl|rfl
  all_goals
   go_enter Tryz.func135,Tryz.ntmps135
   go_wp2_with fail
   refine(uH m _).mono ?_
   rintro e t ⟨rfl,rfl⟩
   go_wp2
   go_ret
   exact⟨rfl,rfl⟩
 ·rcases f with rfl|rfl|rfl
  all_goals
   go_enter Tryz.func135,Tryz.ntmps135
   go_wp2_with fail
   refine(uH m _).mono ?_
   rintro e t ⟨rfl,rfl⟩
   go_wp2_with fail
   refine(uH A _).mono ?_
   rintro e t ⟨rfl,rfl⟩
   go_wp2
   go_ret
   exact⟨rfl,rfl⟩
theorem Bb(a r:Nat)(n:Int)(w:World)
  (f:∀w',Calls Tryz.prog 135 #[.float .f64 a,.int .i64 n] w' fun s d=>s=.returned (.float .f64 r)∧w'=d):
  Calls Tryz.prog 92 #[.float .f64 a,.int .i64 n] w fun s w'=>s=.returned (.float .f64 r)∧w=w':=by
 have h:=aa f
 clear f
 go_enter Tryz.func92,Tryz.ntmps92
 go_wp2_with fail
 refine(uH h _).mono ?_
 rintro e l ⟨rfl,rfl⟩
 clear h
 go_wp2
 go_ret
 exact⟨rfl,rfl⟩
theorem qT(x y:Nat)(d:x<18446744073709551616)(f:y<18446744073709551616)(h:mN x y=false)(i:TypeId)(w:World):
  (binOp .mul i (.float .f64 x) (.float .f64 y)).run Tryz.prog w=.ok (.float .f64 (mV x y)) w:=by
 have:=s7 i x y w
 rw[lh x y d f h]at this
 exact this
theorem ve{x y:Nat}(d:ap x=true)(f:ap y=true):mN x y=false:=by
 obtain⟨h,l⟩:=bB d
 obtain⟨m,t⟩:=bB f
 unfold mN
 exact decide_eq_false (by omega)
theorem Ho:rv 4607182418800017408=2^1074:=by
 have:=sQ 4607182418800017408 (by decide)
 rw[this,show gM 4607182418800017408=2^52 by decide,show 4607182418800017408/4503599627370496-1=1022 by decide]
 exact nN 52 1022 1074 (by decide)
theorem kB{s:Bool}{v:Nat}(h:v<9218868437227405312):ap (bZ s v)=true:=(aQ _).2.2.2 (by rw[eC s v (by omega)];exact h)
theorem wI{s:Bool}{v:Nat}(h:v<9218868437227405312)(d:v≠0):fK (bZ s v)≠0:=fun e=>d (by have:=(aS _).1 e;rwa[eC s v (by omega)]at this)
theorem Bc(s:Bool)(v:Nat)(h:v<9218868437227405312)(l:v≠0):mV 4607182418800017408 (bZ s v)=bZ s v:=by
 have m:ap 4607182418800017408=true:=by decide
 have t:fK 4607182418800017408≠0:=by decide
 have z:fS 4607182418800017408=false:=by decide
 have A:fR 4607182418800017408=4607182418800017408:=by decide
 obtain⟨K,D⟩:∃K:Nat,K=1074:=⟨_,rfl⟩
 have d:=Ho
 rw[←D]at d
 have f:=GW (bZ s v) (ez s v (by omega)) (kB h)
 rw[eC s v (by omega)]at f
 rw[(li _ _ m (kB h) t (wI h l)).1,z,A,d,eC s v (by omega),gP s v (by omega),Bool.false_xor,Nat.mul_comm,nQ _ _ _ (-1074) (by omega),f]
theorem lw(r c:Nat)(d:r≤9218868437227405312)(f:c≤9218868437227405312):Ieee.double.order r c=some (compare (rv r:Int) (rv c:Int)):=by
 have:=pQ false false r c d f
 rw[aU,aU]at this
 exact this
theorem kC{r c:Nat}(d:c≤9218868437227405312)(h:r<c):Ieee.double.order r c=some .lt:=by
 rw[lw r c (by omega) d,Int.compare_eq_lt.2 (by have:=jT h;omega)]
theorem kD{r c:Nat}(d:r≤9218868437227405312)(h:c<r):Ieee.double.order r c=some .gt:=by
 rw[lw r c d (by omega),Int.compare_eq_gt.2 (by have:=jT h;omega)]
theorem kE(r:Nat)(d:r≤9218868437227405312):Ieee.double.order r r=some .eq:=by
 rw[lw r r d d,Int.compare_eq_eq.2 rfl]
theorem JI:fZ 0=0:=by decide
theorem wJ(a:Nat)(d:a<18446744073709551616)(f:fK a≠4):Ieee.double.order a 0=some (compare (fZ a) 0):=by
 have:=nK a 0 d (by decide) f (by decide)
 rwa[JI]at this
theorem iD(a:Nat)(d:a<18446744073709551616)(f:fK a≠4)(l:fK a≠0):Ieee.double.order a 0=if fS a=true then some .lt else some .gt:=by
 obtain⟨t,m⟩:=wG a l
 rw[wJ a d f,←m]
 by_cases h:fZ a<0
 ·rw[decide_eq_true h,if_pos rfl,Int.compare_eq_lt.2 h]
 ·rw[decide_eq_false h,if_neg (by decide),Int.compare_eq_gt.2 (by omega)]
theorem nY(a:Nat)(w:World)(t:a<18446744073709551616):
  Calls Tryz.prog 159 #[.float .f64 a,.int .i64 0] w fun r w'=>r=.returned (.bool (decide (fK a=3)))∧w=w':=by
 obtain⟨D,m,H⟩:=aQ a
 have F:=jF a
 have d:=fun w'=>s8 a w' t
 by_cases l:fK a=4
 ·rw[decide_eq_false (by omega)]
  have e:fK (fR a)=4:=by rw[←l];exact Eo (by unfold fR;omega)
  exact kA a (fR a) none false w (lg _ _ (by omega) (by decide) (.inl e)) (.inl ⟨rfl,rfl⟩) d
 ·have z:fR a≤9218868437227405312:=Nat.le_of_not_lt fun h=>l (D.2 h)
  by_cases f:fK a=3
  ·rw[decide_eq_true f]
   exact kA a (fR a) _ true w (kD z (by have:=m.1 f;omega)) (.inr (.inr (.inr ⟨rfl,rfl⟩))) d
  ·rw[decide_eq_false f]
   have G:fR a≠9218868437227405312:=fun h=>f (m.2 h)
   by_cases A:fR a=9218868437227405311
   ·rw[A]at d
    exact kA a _ _ false w (kE _ (by decide)) (.inr (.inr (.inl ⟨rfl,rfl⟩))) d
   ·exact kA a (fR a) _ false w (kC (by decide) (by omega)) (.inr (.inl ⟨rfl,rfl⟩)) d
theorem nZ(a:Nat)(w:World)(f:a<18446744073709551616):
  Calls Tryz.prog 160 #[.float .f64 a] w fun r w'=>r=.returned (.bool (decide (fK a=4)))∧w=w':=by
 by_cases d:fK a=4
 ·rw[decide_eq_true d]
  exact s9 a _ _ w (lg a a f f (.inl d)) (.inl ⟨rfl,rfl⟩)
 ·rw[decide_eq_false d]
  exact s9 a _ _ w (by rw[show FloatKind.f64.format.order a a=Ieee.double.order a a from rfl,nK a a f f d d,Int.compare_eq_eq.2 rfl]) (.inr ⟨rfl,rfl⟩)
theorem yw(a:Nat)(d:a<18446744073709551616)(l:ap a=true)(t:fK a≠0):
  ∃(q:Nat) (e:Int),(∀w,Calls Tryz.prog 161 #[.float .f64 a] w fun s w'=>s=.returned (.tuple #[.float .f64 (bZ (fS a) q),.int .i64 e])∧w=w')∧
   -52≤e∧e≤0∧4503599627370496≤q∧q<9218868437227405312∧∀n:Int,bw (rv (fR a)) (n-1074)=bw (rv q) (n+e-1074):=by
 have z:=iA a l
 have f:=fun w'=>s8 a w' d
 by_cases h:fR a<4503599627370496
 ·have A:fR a≠0:=fun e=>t ((aS a).2 e)
  obtain⟨q,m,F,G,H⟩:=uS (fS a) (fR a) A h
  rw[gp a d]at m
  refine⟨q,-52,fun w=>?_,by decide,by decide,F,G,fun n=>by rw[H];congr 1⟩
  refine iC a (fR a) (bZ (fS a) q) (-52) _ w (kC (by decide) h) (.inl ⟨rfl,rfl,fun i w'=>?_⟩) f
  rw[←m]
  exact qT a _ d (by decide) (ve l (by decide)) i w'
 ·refine⟨fR a,0,fun w=>?_,by decide,by decide,by omega,z,fun n=>by congr 1;omega⟩
  rw[gp a d]
  by_cases D:fR a=4503599627370496
  ·rw[D]at f
   exact iC a _ a 0 _ w (kE _ (by decide)) (.inr (.inl ⟨rfl,rfl,rfl⟩)) f
  ·exact iC a (fR a) a 0 _ w (kD (by omega) (by omega)) (.inr (.inr ⟨rfl,rfl,rfl⟩)) f
theorem yx(a:Nat)(n:Int)(w:World)(H:a<18446744073709551616)(fa:ap a=true)(a0:fK a≠0)(K:-5000≤n∧n≤5000):
  Calls Tryz.prog 135 #[.float .f64 a,.int .i64 n] w fun r w'=>r=.returned (.float .f64 (bZ (fS a) (bw (rv (fR a)) (n-1074))))∧w=w':=by
 obtain⟨q,e,m,V,X,q1,q2,hN⟩:=yw a H fa a0
 obtain⟨a3,a4⟩:=bB fa
 have t:=fun w'=>nY a w' H
 rw[decide_eq_false a3]at t
 have z:=fun w'=>nZ a w' H
 rw[decide_eq_false a4]at z
 rw[hN n]
 obtain⟨s,hs⟩:∃s,s=fS a:=⟨_,rfl⟩
 have L:FloatKind.f64.format.order a 0=(if s=true then some .lt else some .gt):=by rw[hs];exact iD a H a4 a0
 have M:(if s=true then some Ordering.lt else some Ordering.gt)=some .lt∨(if s=true then some Ordering.lt else some Ordering.gt)=some .gt:=by cases s<;>simp
 rw[←hs]at m⊢
 obtain⟨x,f⟩:∃x,x=bZ s q:=⟨_,rfl⟩
 have A:x<18446744073709551616:=by rw[f];exact ez s q (by omega)
 have xR:fR x=q:=by rw[f];exact eC s q (by omega)
 have xS:fS x=s:=by rw[f];exact gP s q (by omega)
 have xf:ap x=true:=by rw[f];exact kB q2
 have x0:fK x≠0:=by rw[f];exact wI q2 (by omega)
 have x4:=(bB xf).2
 rw[←f]at m
 have hp:fP x=q/4503599627370496:=by rw[←xR];rfl
 have N:bits .and .i64 ((x:Int)/4503599627370496) 2047=((fP x:Nat):Int):=by
  have:=Ba (x/4503599627370496) (by omega)
  rw[show((x:Int)/4503599627370496)=((x/4503599627370496:Nat):Int) by omega]
  refine this.trans ?_
  unfold fP
  congr 1
  omega
 have O:=fun W=>kz x W
 obtain⟨E,G⟩:∃E:Int,n+e+((fP x:Int)-1023)=E:=⟨_,rfl⟩
 have d:=mY x
 have hS:=qL q (n+e) E q1 (by rw[←G,hp];omega)
 rw[hS]
 have Q:(x:Int)/4503599627370496<4096:=by omega
 have D:q%4503599627370496<4503599627370496:=Nat.mod_lt _ (by decide)
 rcases(show E< -1075∨1023<E∨(-1022≤E∧E≤1023)∨(-1075≤E∧E< -1022) by omega)with h|h|h|h
 ·rw[yi q E h]
  have C4:=fun w'=>pf x w' A
  rw[xS]at C4
  exact yt a x (bZ s 0) (fP x) n e E _ w L M d K ⟨V,X⟩ Q N G h t z m C4 O
 ·rw[uR q E h]
  have Y:FloatKind.f64.format.order x 0=(if s=true then some .lt else some .gt):=by rw[←xS];exact iD x A x4 x0
  refine uZ a x (bZ s 9218868437227405312) (fP x) n e E _ _ w L M Y ?_ d K ⟨V,X⟩ Q N G h t z m O
  cases s
  ·exact .inr ⟨rfl,rfl⟩
  ·exact .inl ⟨rfl,rfl⟩
 ·rw[yh q E h.1 h.2]
  obtain⟨k,hk⟩:∃k:Nat,k=(E+1023).toNat:=⟨_,rfl⟩
  have l:(E+1023)*4503599627370496=((k*4503599627370496:Nat):Int):=by omega
  rw[←hk]
  have Z:=A9 s (q%4503599627370496) k D (by omega)
  have U:q%4503599627370496+k*4503599627370496<9218868437227405312:=by omega
  have ae:q%4503599627370496+k*4503599627370496≠0:=by omega
  have F:=nX s q (by omega)
  rw[←f]at F
  refine yu a x _ _ _ (fP x) n e E _ w L M d K ⟨V,X⟩ Q N G h.1 h.2 F (by rw[l];exact Z) (fun W=>d9 _ W) (fun i w'=>?_) t z m O
  have:=qT 4607182418800017408 (bZ s (q%4503599627370496+k*4503599627370496)) (by decide) (ez _ _ (by omega)) (ve (by decide) (kB U)) i w'
  rw[Bc s _ U ae]at this
  exact this
 ·obtain⟨k,hk⟩:∃k:Nat,k=(E+53+1023).toNat:=⟨_,rfl⟩
  have l:(E+53+1023)*4503599627370496=((k*4503599627370496:Nat):Int):=by omega
  have hZ:=yj s q E h.1 h.2
  rw[←hk]at hZ
  have Z:=A9 s (q%4503599627370496) k D (by omega)
  have U:q%4503599627370496+k*4503599627370496<9218868437227405312:=by omega
  have F:=nX s q (by omega)
  rw[←f]at F
  refine yv a x _ _ _ (fP x) n e E _ w L M d K ⟨V,X⟩ Q N G h.1 h.2 F (by rw[l];exact Z) (fun W=>d9 _ W) (fun i w'=>?_) t z m O
  have:=qT 4368491638549381120 (bZ s (q%4503599627370496+k*4503599627370496)) (by decide) (ez _ _ (by omega)) (ve (by decide) (kB U)) i w'
  rw[(yg _ _).1,hZ]at this
  exact this
def lV(a:Nat)(n:Int):Nat:=if fK a=4 then a else xV a n
theorem yy(a:Nat)(n:Int)(w:World)(f:a<18446744073709551616)(A:-5000≤n∧n≤5000):
  Calls Tryz.prog 92 #[.float .f64 a,.int .i64 n] w fun r w'=>r=.returned (.float .f64 (lV a n))∧w=w':=by
 refine Bb a _ n w fun w'=>?_
 have h:=fun w'=>nY a w' f
 have m:=fun w'=>nZ a w' f
 unfold lV
 by_cases d:fK a=4
 ·rw[if_pos d]
  rw[decide_eq_false (show¬fK a=3 by omega)]at h
  rw[decide_eq_true d]at m
  exact p7 a n false true _ w' (lg a 0 f (by decide) (.inl d)) (.inl rfl) (.inr ⟨rfl,rfl⟩) h m
 rw[if_neg d]
 unfold xV
 rw[if_neg d]
 by_cases t:fK a=3
 ·rw[if_pos (Or.inl t)]
  rw[decide_eq_true t]at h
  exact p7 a n true _ _ w' (iD a f d (by omega)) (by cases fS a<;>simp) (.inl rfl) h m
 by_cases l:fK a=0
 ·rw[if_pos (Or.inr l)]
  have D:fZ a=0:=by
   have:=gu a
   rw[(aS a).1 l,dR]at this
   omega
  exact vd a n w' (by rw[show FloatKind.f64.format.order a 0=Ieee.double.order a 0 from rfl,wJ a f d,Int.compare_eq_eq.2 D])
 ·rw[if_neg (by omega)]
  have z:=bf a t d
  obtain⟨β,H,G,K,L⟩:=iB a f z l
  have F:bw (fD a).natAbs (fX a+n)=bw (rv (fR a)) (n-1074):=by
   rw[G,dy];congr 1;omega
  rw[F]
  exact yx a n w' f z l A
theorem Bd(a:Nat)(n:Int)(w:World)(f:a<18446744073709551616):
  Calls Tryz.prog 63 #[.int .u64 (lV a n:Nat)] w fun r w'=>r=.returned (.int .u64 (xV a n:Nat))∧w=w':=by
 unfold lV
 by_cases d:fK a=4
 ·rw[if_pos d]
  have:=eY a w f
  rw[if_pos d]at this
  rw[show xV a n=9221120237041090560 by unfold xV;rw[if_pos d]]
  exact this
 ·rw[if_neg d]
  have:=eY (xV a n) w (pZ a n f)
  have h:fK (xV a n)≠4:=by
   unfold xV
   rw[if_neg d]
   split
   ·exact d
   ·exact gz _ _ (cN _ _)
  rw[if_neg h]at this
  exact this
end Go.Proofs.YtnnfjeieennffaaGreatDoor
namespace Go.Proofs.YtnnfjeieennffaaGreatDoor
def aX:Nat→Nat
 |0=>0
 |n+1=>if(aX n+1)*(aX n+1)≤n+1 then aX n+1 else aX n
theorem c8(m:Nat):(m+1)*(m+1)=m*m+2*m+1:=by rw[Nat.add_mul,Nat.mul_add];omega
theorem wK{a b:Nat}(h:a≤b):a*a≤b*b:=Nat.mul_le_mul h h
theorem Be{a b:Nat}(h:a<b):a*a<b*b:=Nat.mul_lt_mul_of_lt_of_le h (Nat.le_of_lt h) (by omega)
theorem cn{a b:Nat}:a*a<b*b↔a<b:=by
 constructor
 ·intro h
  rcases Nat.lt_or_ge a b with d|d
  ·exact d
  ·have:=wK d;omega
 ·exact Be
theorem bU(n:Nat):aX n*aX n≤n∧n<(aX n+1)*(aX n+1):=by
 induction n with
 |zero=>exact⟨Nat.le_refl _,by decide⟩
 |succ n ih=>
  unfold aX
  obtain⟨l,m⟩:=ih
  have d:=c8 (aX n)
  have f:=c8 (aX n+1)
  split
  ·rename_i h
   exact⟨h,by omega⟩
  ·rename_i h
   exact⟨by omega,by omega⟩
theorem eZ{n m:Nat}(d:m*m≤n)(f:n<(m+1)*(m+1)):aX n=m:=by
 obtain⟨t,z⟩:=bU n
 have h:aX n<m+1:=cn.1 (by omega)
 have l:m<aX n+1:=cn.1 (by omega)
 omega
theorem Bf{n m:Nat}(h:n≤m):aX n≤aX m:=by
 obtain⟨d,f⟩:=bU n
 obtain⟨l,t⟩:=bU m
 have:aX n<aX m+1:=cn.1 (by omega)
 omega
theorem i8(a p:Nat):a*p*(a*p)=a*a*(p*p):=by ac_rfl
theorem ly(N p:Nat)(d:0<p):aX (N*(p*p))/p=aX N:=by
 obtain⟨l,m⟩:=bU N
 obtain⟨D,F⟩:=bU (N*(p*p))
 have f:0<p*p:=Nat.mul_pos d d
 have t:aX N*p<aX (N*(p*p))+1:=by
  apply cn.1
  rw[i8]
  have:aX N*aX N*(p*p)≤N*(p*p):=Nat.mul_le_mul_right _ l
  omega
 have h:aX (N*(p*p))<(aX N+1)*p:=by
  apply cn.1
  rw[i8]
  have:N*(p*p)<(aX N+1)*(aX N+1)*(p*p):=(Nat.mul_lt_mul_right f).2 m
  omega
 have z:aX N≤aX (N*(p*p))/p:=(Nat.le_div_iff_mul_le d).2 (by omega)
 have A:aX (N*(p*p))/p<aX N+1:=(Nat.div_lt_iff_lt_mul d).2 h
 omega
def rS(N:Nat):Nat:=2*aX N+(if aX N*aX N=N then 0 else 1)
def Bg(N k:Nat):Nat:=aX N/2^k+(if(2*(aX N/2^k)+1)*2^k*((2*(aX N/2^k)+1)*2^k)<4*N∨((2*(aX N/2^k)+1)*2^k*((2*(aX N/2^k)+1)*2^k)=4*N∧aX N/2^k%2=1)then 1 else 0)
theorem vf(N k i:Nat):Bg (N*(2^i*2^i)) (k+i)=Bg N k:=by
 have f:0<2^i:=Nat.two_pow_pos _
 have d:0<2^i*2^i:=Nat.mul_pos f f
 have e:aX (N*(2^i*2^i))/2^(k+i)=aX N/2^k:=by
  rw[Nat.add_comm k i,Nat.pow_add,←Nat.div_div_eq_div_mul,ly N _ f]
 unfold Bg
 rw[e]
 generalize aX N/2^k=m
 have l:(2*m+1)*2^(k+i)*((2*m+1)*2^(k+i))=(2*m+1)*2^k*((2*m+1)*2^k)*(2^i*2^i):=by
  rw[Nat.pow_add];ac_rfl
 have t:4*(N*(2^i*2^i))=4*N*(2^i*2^i):=by ac_rfl
 rw[l,t]
 have z:((2*m+1)*2^k*((2*m+1)*2^k)*(2^i*2^i)<4*N*(2^i*2^i))↔(2*m+1)*2^k*((2*m+1)*2^k)<4*N:=Nat.mul_lt_mul_right d
 have A:((2*m+1)*2^k*((2*m+1)*2^k)*(2^i*2^i)=4*N*(2^i*2^i))↔(2*m+1)*2^k*((2*m+1)*2^k)=4*N:=
  ⟨fun h=>Nat.eq_of_mul_eq_mul_right d h,fun h=>by rw[h]⟩
 simp only[z,A]
theorem Bh(N k:Nat)(O:1≤k):cK (rS N) (k+1)=Bg N k:=by
 obtain⟨j,rfl⟩:∃j,k=j+1:=⟨k-1,by omega⟩
 obtain⟨X,Y⟩:=bU N
 have Q:0<2^j:=Nat.two_pow_pos _
 have l:(2:Nat)^(j+1)=2*2^j:=by rw[Nat.pow_succ,Nat.mul_comm]
 have H:(2:Nat)^(j+1+1)=2*(2*2^j):=by rw[Nat.pow_succ,l,Nat.mul_comm]
 have U:(if aX N*aX N=N then 0 else 1)≤1:=by split<;>omega
 have d:(if aX N*aX N=N then 0 else 1)=0↔aX N*aX N=N:=by split<;>simp_all
 unfold cK Bg rS
 rw[H,l]
 generalize (2:Nat)^j=g at*
 generalize (if aX N*aX N=N then 0 else 1)=t at*
 generalize aX N=q at*
 have m:=Nat.div_add_mod q (2*g)
 have V:=Nat.mod_lt q (show 0<2*g by omega)
 generalize L:q%(2*g)=a at*
 generalize M:q/(2*g)=b at*
 have z:(2*q+t)/(2*(2*g))=b:=by
  rw[←m,Nat.mul_add,←Nat.mul_assoc 2 (2*g) b,Nat.add_assoc]
  rw[Nat.mul_add_div (by omega),Nat.div_eq_of_lt (by omega),Nat.add_zero]
 have A:(2*q+t)%(2*(2*g))=2*a+t:=by
  rw[←m,Nat.mul_add,←Nat.mul_assoc 2 (2*g) b,Nat.add_assoc,Nat.mul_add_mod,Nat.mod_eq_of_lt (by omega)]
 rw[z,A]
 congr 1
 --half between two,as a square
 obtain⟨c,K⟩:∃c,c=2*g*b+g:=⟨_,rfl⟩
 have D:(2*b+1)*(2*g)*((2*b+1)*(2*g))=4*(c*c):=by
  have:(2*b+1)*(2*g)=2*c:=by rw[K,Nat.add_mul,Nat.one_mul,Nat.mul_add];ac_rfl
  rw[this,show(4:Nat)=2*2 by decide]
  ac_rfl
 rw[D]
 clear D M L z A
 rcases Nat.lt_trichotomy a g with h|h|h
 ·have f:(q+1)*(q+1)≤c*c:=wK (by omega)
  rw[if_neg (by omega),if_neg (by omega)]
 ·have f:c=q:=by omega
  subst f
  by_cases F:c*c=N
  ·have:=d.2 F
   by_cases G:b%2=1
   ·rw[if_pos (Or.inr ⟨by omega,G⟩),if_pos (Or.inr ⟨by omega,G⟩)]
   ·rw[if_neg (by omega),if_neg (by omega)]
  ·have:t≠0:=fun e=>F (d.1 e)
   rw[if_pos (Or.inl (by omega)),if_pos (Or.inl (by omega))]
 ·have f:c*c<q*q:=Be (by omega)
  rw[if_pos (Or.inl (by omega)),if_pos (Or.inl (by omega))]
theorem Je(N i:Nat)(H:0<aX N):bl (rS (N*(2^i*2^i)))=bl (rS N)+i:=by
 have f:0<2^i:=Nat.two_pow_pos _
 have t:rS N≠0:=by unfold rS;omega
 obtain⟨O,l,d⟩:=aY (rS N) t
 have K:2≤rS N:=by unfold rS;omega
 have z:2≤bl (rS N):=by
  rcases Nat.lt_or_ge (bl (rS N)) 2 with h|h
  ·have:bl (rS N)=1:=by omega
   rw[this]at d;omega
  ·exact h
 obtain⟨c,G⟩:∃c,bl (rS N)=c+2:=⟨bl (rS N)-2,by omega⟩
 rw[G]at l d⊢
 have A:(if aX N*aX N=N then 0 else 1)≤1:=by split<;>omega
 have D:2^c≤aX N:=by
  rw[show c+2-1=c+1 by omega,Nat.pow_succ]at l
  unfold rS at l
  omega
 have F:aX N<2^(c+1):=by
  rw[Nat.pow_succ]at d
  unfold rS at d
  omega
 have m:=ly N (2^i) f
 have L:2^(c+i)≤aX (N*(2^i*2^i)):=by
  rw[Nat.pow_add,←Nat.le_div_iff_mul_le f,m];exact D
 have M:aX (N*(2^i*2^i))<2^(c+1+i):=by
  rw[Nat.pow_add,←Nat.div_lt_iff_lt_mul f,m];exact F
 refine ke (by omega) ?_ ?_
 ·rw[show c+2+i-1=c+i+1 by omega,Nat.pow_succ]
  unfold rS
  omega
 ·rw[show c+2+i=c+1+i+1 by omega,Nat.pow_succ]
  unfold rS
  have A:(if aX (N*(2^i*2^i))*aX (N*(2^i*2^i))=N*(2^i*2^i)then 0 else 1)≤1:=by split<;>omega
  omega
theorem Hp{N:Nat}(l:9007199254740992≤aX N):55≤bl (rS N):=by
 have d:rS N≠0:=by unfold rS;omega
 obtain⟨m,t,f⟩:=aY (rS N) d
 have h:2^54≤rS N:=by
  have:(2:Nat)^54=2*9007199254740992:=by decide
  rw[this];unfold rS;omega
 have:=ch (Nat.lt_of_le_of_lt h f)
 omega
theorem qU(N i:Nat)(E:Int)(t:9007199254740992≤aX N):
  bw (rS (N*(2^i*2^i))) (E-i)=bw (rS N) E∧av (rS (N*(2^i*2^i))) (E-i)=av (rS N) E∧(bl (rS (N*(2^i*2^i))):Int)+(E-i)=(bl (rS N):Int)+E∧E+2≤av (rS N) E:=by
 have f:=Je N i (by omega)
 have z:=Hp t
 have A:rS N≠0:=by unfold rS;omega
 have l:rS (N*(2^i*2^i))≠0:=fun h=>by
  rw[h]at f
  have:bl 0=0:=rfl
  omega
 have m:av (rS (N*(2^i*2^i))) (E-i)=av (rS N) E:=by unfold av;rw[f];omega
 have d:(bl (rS (N*(2^i*2^i))):Int)+(E-i)=(bl (rS N):Int)+E:=by rw[f];omega
 have D:E+2≤av (rS N) E:=by have:=(bW (rS N) E).2.1;omega
 refine⟨?_,m,d,D⟩
 have F:cV (rS (N*(2^i*2^i))) (E-i)=cV (rS N) E:=by
  unfold cV
  rw[m]
  obtain⟨k,G⟩:∃k:Nat,av (rS N) E=E+k+1∧1≤k:=⟨(av (rS N) E-E-1).toNat,by omega,by omega⟩
  rw[show E-i-av (rS N) E= -((k+i+1:Nat):Int) by omega,show E-av (rS N) E= -((k+1:Nat):Int) by omega]
  rw[cZ _ _ (by omega),cZ _ _ (by omega),Bh _ _ (by omega),Bh _ _ (by omega)]
  exact vf _ _ _
 unfold bw
 rw[if_neg A,if_neg l,d,F,m]
theorem Hq(N i:Nat):aX (N*(2^i*2^i))*aX (N*(2^i*2^i))=N*(2^i*2^i)↔aX N*aX N=N:=by
 have f:0<2^i:=Nat.two_pow_pos _
 have t:0<2^i*2^i:=Nat.mul_pos f f
 constructor
 ·intro h
  have l:=ly N (2^i) f
  generalize L:aX (N*(2^i*2^i))=R at*
  --2^i goes into R,since its square goes into R's
  have A:∀(n a:Nat),(2^n*2^n)∣a*a→2^n∣a:=by
   intro n
   induction n with
   |zero=>intro a _;simp
   |succ n ih=>
    intro a z
    have H:2∣a*a:=Nat.dvd_trans ⟨2^n*2^(n+1),by rw[Nat.pow_succ];ac_rfl⟩ z
    have K:a%2=0:=by
     rcases Nat.mod_two_eq_zero_or_one a with h|h
     ·exact h
     ·exfalso
      have:a*a%2=1:=by rw[Nat.mul_mod,h]
      omega
    obtain⟨b,rfl⟩:∃b,a=2*b:=⟨a/2,by omega⟩
    have D:2^n*2^n∣b*b:=by
     obtain⟨c,m⟩:=z
     refine⟨c,?_⟩
     have:4*(b*b)=4*(2^n*2^n*c):=by
      have F:2*b*(2*b)=4*(b*b):=by rw[show(4:Nat)=2*2 by decide];ac_rfl
      have G:2^(n+1)*2^(n+1)*c=4*(2^n*2^n*c):=by rw[Nat.pow_succ,show(4:Nat)=2*2 by decide];ac_rfl
      rw[←F,m,G]
     omega
    obtain⟨d,l⟩:=ih b D
    exact⟨d,by rw[l,Nat.pow_succ];ac_rfl⟩
  obtain⟨c,m⟩:=A i R ⟨N,by rw[h];ac_rfl⟩
  rw[m,Nat.mul_div_cancel_left c f]at l
  rw[←l]
  have:c*c*(2^i*2^i)=N*(2^i*2^i):=by rw[←h,m];ac_rfl
  exact Nat.eq_of_mul_eq_mul_right t this
 ·intro h
  have:aX (N*(2^i*2^i))=aX N*2^i:=by
   refine eZ ?_ ?_
   ·rw[i8,h];exact Nat.le_refl _
   ·have:=c8 (aX N*2^i)
    rw[i8,h]at this
    omega
  rw[this,i8,h]
theorem wL(N i:Nat)(E:Int)(A:9007199254740992≤aX N):
  bF (oM (rS (N*(2^i*2^i)):Nat)).natAbs (oE (rS (N*(2^i*2^i)):Nat) (E-i))=bF (oM (rS N:Nat)).natAbs (oE (rS N:Nat) E):=by
 obtain⟨K,L,M,O⟩:=qU N i E A
 have f:=Hq N i
 by_cases d:aX N*aX N=N
 ·have m:=f.2 d
  have D:aX (N*(2^i*2^i))=aX N*2^i:=by
   refine eZ ?_ ?_
   ·rw[i8,d];exact Nat.le_refl _
   ·have:=c8 (aX N*2^i)
    rw[i8,d]at this
    omega
  have e:rS (N*(2^i*2^i))=rS N*2^i:=by
   unfold rS;rw[if_pos d,if_pos m,D,Nat.add_zero,Nat.add_zero,Nat.mul_assoc]
  have F:((rS (N*(2^i*2^i)):Nat):Int)=((rS N:Nat):Int)*2^i:=by rw[e,Int.natCast_mul,Int.natCast_pow];rfl
  have:=kt ((rS N:Nat):Int) i (E-i)
  rw[F,this.1,this.2,show E-(i:Int)+i=E by omega]
 ·have m:¬aX (N*(2^i*2^i))*aX (N*(2^i*2^i))=N*(2^i*2^i):=fun h=>d (f.1 h)
  have t:((rS N:Nat):Int)%2=1:=by unfold rS;rw[if_neg d];omega
  have z:((rS (N*(2^i*2^i)):Nat):Int)%2=1:=by unfold rS;rw[if_neg m];omega
  have z1:∀(v:Nat) (e:Int),(v:Int)%2=1→oM (v:Int)=v∧oE (v:Int) e=e:=fun v e h=>by
   have l:(v:Int)≠0:=by omega
   have a:=(fL (v:Int) l).unique (m':=(v:Int)) (k':=0) ⟨by simp,h⟩
   exact⟨a.1,by rw[dJ _ _ l,a.2];simp⟩
  rw[(z1 _ (E-i) z).1,(z1 _ (E-i) z).2,(z1 _ E t).1,(z1 _ E t).2,Int.natAbs_natCast,Int.natAbs_natCast]
  have G:rS N≠0:=by omega
  have H:rS (N*(2^i*2^i))≠0:=by omega
  unfold bF
  rw[if_neg G,if_neg H,M,L,K,if_neg (show¬av (rS N) E≤E-i by omega),if_neg (show¬av (rS N) E≤E by omega)]
open Go.RowKit
theorem Bi(m k p D α d:Nat)(l t:Int)(A:m*2^k=D*2^α)(L:2*l=(k:Int)-1074-p)(M:2*t=(α:Int)-1074-d)(F:9007199254740992≤aX (m*2^p))(G:9007199254740992≤aX (D*2^d)):
  bw (rS (m*2^p)) (l-1)=bw (rS (D*2^d)) (t-1)∧bF (oM (rS (m*2^p):Nat)).natAbs (oE (rS (m*2^p):Nat) (l-1))=bF (oM (rS (D*2^d):Nat)).natAbs (oE (rS (D*2^d):Nat) (t-1)):=by
 have z:∀(m k p D α d i:Nat),m*2^k=D*2^α→p+2*i+α=k+d→m*2^p*(2^i*2^i)=D*2^d:=by
  intro m k p D α d i A H
  have K:0<2^α:=Nat.two_pow_pos _
  refine Nat.eq_of_mul_eq_mul_right K ?_
  rw[←Nat.pow_add,Nat.mul_assoc,Nat.mul_assoc,←Nat.pow_add,←Nat.pow_add,show p+(i+i+α)=k+d by omega,Nat.pow_add,←Nat.mul_assoc,A]
  ac_rfl
 rcases Int.le_total t l with h|h
 ·obtain⟨i,H⟩:∃i:Nat,l-t=i:=⟨(l-t).toNat,by omega⟩
  have e:=z m k p D α d i A (by omega)
  have s:=qU (m*2^p) i (l-1) F
  have f:=wL (m*2^p) i (l-1) F
  rw[e,show l-1-(i:Int)=t-1 by omega]at s f
  exact⟨s.1.symm,f.symm⟩
 ·obtain⟨i,H⟩:∃i:Nat,t-l=i:=⟨(t-l).toNat,by omega⟩
  have e:=z D α d m k p i A.symm (by omega)
  have s:=qU (D*2^d) i (t-1) G
  have f:=wL (D*2^d) i (t-1) G
  rw[e,show t-1-(i:Int)=l-1 by omega]at s f
  exact⟨s.1,f⟩
def tS(a:Nat):Nat:=rS (rv (fR a)*2^120)
def tV(a:Nat):Nat:=bw (tS a) (-598)
def tF(a:Nat):Int:=bF (oM (tS a:Nat)).natAbs (oE (tS a:Nat) (-598))
def sV(a:Nat):Nat:=
 if fK a=4 then 9221120237041090560
 else if fK a=0∨a=9218868437227405312 then a
 else if fS a=true then 9221120237041090560
 else tV a
def sF(a:Nat):Int:=
 if fK a=4 then 0
 else if fK a=0∨a=9218868437227405312 then 0
 else if fS a=true then 16
 else tF a
def sN(a:Nat):Bool:=decide (fK a=4∨(fK a≠0∧fS a=true))
theorem qW{N:Nat}(h:2^106≤N):9007199254740992≤aX N:=by
 obtain⟨d,f⟩:=bU N
 have e:(9007199254740992:Nat)*9007199254740992=2^106:=by decide
 have:9007199254740992<aX N+1:=cn.1 (by omega)
 omega
theorem Hr(a:Nat)(d:fK a≠0):9007199254740992≤aX (rv (fR a)*2^120):=by
 have f:rv (fR a)≠0:=fun e=>d ((aS a).2 ((jU _).1 e))
 refine qW (Nat.le_trans (show 2^106≤1*2^120 by decide) (Nat.mul_le_mul_right _ (by omega)))
theorem n8(a m k p:Nat)(e:Int)(d:fK a≠0)(f:m*2^k=rv (fR a))(h:2*e=(k:Int)-1074-p)(l:9007199254740992≤aX (m*2^p)):
  bw (rS (m*2^p)) (e-1)=tV a∧bF (oM (rS (m*2^p):Nat)).natAbs (oE (rS (m*2^p):Nat) (e-1))=tF a:=by
 have:=Bi m k p (rv (fR a)) 0 120 e (-597) (by rw[f];simp) h (by omega) l (Hr a d)
 exact this
theorem qX(n:Nat):∀(f d:Nat),d*d≤n→n<(d+2^f)*(d+2^f)→Ieee.Datum.rootFrom n f d=aX n:=by
 intro f
 induction f with
 |zero=>
  intro d m l
  unfold Ieee.Datum.rootFrom
  rw[Nat.pow_zero]at l
  exact(eZ m l).symm
 |succ t ih=>
  intro d m l
  unfold Ieee.Datum.rootFrom
  rw[Nat.one_shiftLeft]
  have e:(2:Nat)^(t+1)=2^t+2^t:=by rw[Nat.pow_succ];omega
  show Ieee.Datum.rootFrom n t (if(d+2^t)*(d+2^t)≤n then d+2^t else d)=aX n
  split
  ·rename_i h
   refine ih _ h ?_
   rw[e,←Nat.add_assoc]at l
   exact l
  ·rename_i h
   exact ih _ m (by omega)
theorem oc(a:Nat)(l:a<18446744073709551616)(h:sN a=true):Ieee.double.sqrt a=none∧sV a=9221120237041090560:=by
 unfold Ieee.Format.sqrt
 rcases of_decide_eq_true h with h|⟨D,d⟩
 ·obtain⟨s,f,e⟩:=dL a l h
  refine⟨by rw[e];rfl,?_⟩
  unfold sV;rw[if_pos h]
 ·by_cases t:fK a=4
  ·obtain⟨s,f,e⟩:=dL a l t
   refine⟨by rw[e];rfl,?_⟩
   unfold sV;rw[if_pos t]
  ·have z:¬(fK a=0∨a=9218868437227405312):=by
    rintro(h|h)
    ·exact D h
    ·rw[h]at d;revert d;decide
   refine⟨?_,by unfold sV;rw[if_neg t,if_neg z,if_pos d]⟩
   by_cases A:fK a=3
   ·rw[bT a l A,d];rfl
   ·obtain⟨m,k,e,H⟩:=bX a l (bf a A t)
    have G:m≠0:=fun F=>D ((aS a).2 ((cw H).1 F))
    rw[e,d]
    show Option.map Ieee.double.write (if m=0 then _ else if true=true then none else _)=none
    rw[if_neg G,if_pos rfl];rfl
theorem og(a:Nat)(D:a<18446744073709551616)(h:sN a=false):Ieee.double.sqrt a=some (sV a):=by
 have U:=of_decide_eq_false h
 have V:fK a≠4:=fun e=>U (Or.inl e)
 have X:fK a≠0→fS a=false:=fun e=>by
  cases d:fS a
  ·rfl
  ·exact absurd (Or.inr ⟨e,d⟩) U
 unfold Ieee.Format.sqrt sV
 rw[if_neg V]
 by_cases G:fK a=3
 ·have d:=X (by omega)
  have Y:a=9218868437227405312:=by
   have:=gp a D
   rw[d,aU]at this
   have h3:=((aQ a).2.1.1 G)
   omega
  rw[if_pos (Or.inr Y),bT a D G,d]
  show some (Ieee.double.write (.infinity false))=_
  rw[dD,Y];rfl
 ·obtain⟨m,k,e,N⟩:=bX a D (bf a G V)
  rw[e]
  by_cases f:fK a=0
  ·have t:m=0:=(cw N).2 ((aS a).1 f)
   rw[if_pos (Or.inl f),t]
   show some (Ieee.double.nearest (fS a) 0 _)=_
   rw[dn,kv,←(aS a).1 f,gp a D]
  ·have d:=X f
   have t:m≠0:=fun e0=>f ((aS a).2 ((cw N).1 e0))
   have H:¬(fK a=0∨a=9218868437227405312):=by
    rintro(h|h)
    ·exact f h
    ·apply G;rw[h];decide
   rw[if_neg H,if_neg (show¬fS a=true by rw[d];decide),d]
   obtain⟨M,hM⟩:∃M:Nat,M=(108-m.log2)+((-1074+(k:Int)-((108-m.log2:Nat):Int))%2).toNat:=⟨_,rfl⟩
   show Option.map Ieee.double.write (if m=0 then _ else if false=true then none else some (.number false (2*(Ieee.Datum.rootFrom (m <<< ((108-m.log2)+((-1074+(k:Int)-((108-m.log2:Nat):Int))%2).toNat)) ((m <<< ((108-m.log2)+((-1074+(k:Int)-((108-m.log2:Nat):Int))%2).toNat)).log2/2+1) 0)+(Ieee.Datum.rootFrom (m <<< ((108-m.log2)+((-1074+(k:Int)-((108-m.log2:Nat):Int))%2).toNat)) ((m <<< ((108-m.log2)+((-1074+(k:Int)-((108-m.log2:Nat):Int))%2).toNat)).log2/2+1) 0*Ieee.Datum.rootFrom (m <<< ((108-m.log2)+((-1074+(k:Int)-((108-m.log2:Nat):Int))%2).toNat)) ((m <<< ((108-m.log2)+((-1074+(k:Int)-((108-m.log2:Nat):Int))%2).toNat)).log2/2+1) 0 != m <<< ((108-m.log2)+((-1074+(k:Int)-((108-m.log2:Nat):Int))%2).toNat)).toNat) ((-1074+(k:Int)-(((108-m.log2)+((-1074+(k:Int)-((108-m.log2:Nat):Int))%2).toNat:Nat):Int))/2-1)))=_
   rw[←hM,if_neg t,if_neg (by decide),Nat.shiftLeft_eq]
   obtain⟨F,O⟩:∃F:Int,2*F=(k:Int)-1074-M:=⟨((k:Int)-1074-M)/2,by omega⟩
   have K:(-1074+(k:Int)-(M:Int))/2=F:=by omega
   rw[K]
   have z:2^m.log2≤m:=by
    have Z:=aY m t
    have l1:bl m=m.log2+1:=by unfold bl;rw[if_neg t]
    rw[l1,show m.log2+1-1=m.log2 by omega]at Z
    exact Z.2.1
   have A:2^106≤m*2^M:=by
    have h1:2^m.log2*2^M≤m*2^M:=Nat.mul_le_mul_right _ z
    rw[←Nat.pow_add]at h1
    exact Nat.le_trans (dP (show 106≤m.log2+M by omega)) h1
   have l:Ieee.Datum.rootFrom (m*2^M) ((m*2^M).log2/2+1) 0=aX (m*2^M):=by
    have hn:m*2^M≠0:=by
     have:=Nat.two_pow_pos 106
     omega
    have b2:=aY _ hn
    have l2:bl (m*2^M)=(m*2^M).log2+1:=by unfold bl;rw[if_neg hn]
    rw[l2]at b2
    refine qX _ _ 0 (Nat.zero_le _) ?_
    rw[Nat.zero_add,←Nat.pow_add]
    exact Nat.lt_of_lt_of_le b2.2.2 (dP (by omega))
   rw[l]
   have L:2*aX (m*2^M)+(aX (m*2^M)*aX (m*2^M) != m*2^M).toNat=rS (m*2^M):=by
    unfold rS
    congr 1
    split
    ·rename_i Q;rw[Q];simp
    ·rename_i Q;simp[Q]
   rw[L]
   show some (Ieee.double.nearest false (rS (m*2^M)) _)=_
   rw[dn,aU,(n8 a m k M F f N O (qW A)).1]
end Go.Proofs.YtnnfjeieennffaaGreatDoor
