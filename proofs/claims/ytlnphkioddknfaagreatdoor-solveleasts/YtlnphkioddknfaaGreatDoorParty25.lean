/- Part 25 of the texts. -/
import Derived.Test.YtlnphkioddknfaaGreatDoorParty24
set_option maxHeartbeats 4000000
set_option maxRecDepth 20000
namespace Go.Proofs.YtlnphkioddknfaaGreatDoor
open Go.RowKit
theorem vi(b:Nat)(h:b<18446744073709551616):bits .andNot .u64 (b:Int) 9223372036854775808=(fR b:Int):=by
 have d:=u64_andNot_nat b 9223372036854775808 h (by decide)
 refine d.trans ?_
 rw[show 18446744073709551615-9223372036854775808=2^63-1 by decide,Nat.and_two_pow_sub_one_eq_mod]
 rfl
theorem Bx(x:Nat)(h:x<4096):x&&& 2048=x/2048*2048:=by
 have f:(x&&& 2^11)%2^11=0:=by rw[Nat.and_mod_two_pow];simp
 have d:(x&&& 2^11)/2^11=(x/2^11)&&& 1:=by rw[Nat.and_div_two_pow]
 rw[Nat.and_one_is_mod]at d
 have l:=Nat.div_add_mod (x&&& 2^11) (2^11)
 rw[f,d]at l
 rw[show(2048:Nat)=2^11 by decide]
 omega
theorem yC(b:Nat)(h:b<18446744073709551616):b&&& 9227875636482146303=b/9223372036854775808*9223372036854775808+b%4503599627370496:=by
 have d:(b&&& 9227875636482146303)%2^52=b%4503599627370496:=by
  rw[Nat.and_mod_two_pow,show 9227875636482146303%2^52=2^52-1 by decide,Nat.and_two_pow_sub_one_eq_mod,Nat.mod_mod]
 have f:(b&&& 9227875636482146303)/2^52=b/4503599627370496/2048*2048:=by
  rw[Nat.and_div_two_pow,show 9227875636482146303/2^52=2048 by decide]
  exact Bx _ (by omega)
 have:=Nat.div_add_mod (b&&& 9227875636482146303) (2^52)
 rw[d,f]at this
 omega
theorem nR(s:Bool)(q:Nat)(h:q<9223372036854775808):bits .andNot .u64 (cr s q:Nat) 9218868437227405312=(cr s (q%4503599627370496):Nat):=by
 have d:=u64_andNot_nat (cr s q) 9218868437227405312 (ey s q h) (by decide)
 refine d.trans ?_
 rw[show 18446744073709551615-9218868437227405312=9227875636482146303 by decide,yC _ (ey s q h)]
 congr 1
 cases s
 ·rw[a8,a8];omega
 ·rw[cI,cI];omega
theorem Bz(s:Bool)(f p:Nat)(m:f<4503599627370496)(y:p<2048):bits .or .u64 (cr s f:Nat) ((p*4503599627370496:Nat):Int)=(cr s (f+p*4503599627370496):Nat):=by
 have d:=bits_or_u64_nat (cr s f) (p*4503599627370496) (ey s f (by omega)) (by omega)
 refine d.trans ?_
 congr 1
 obtain⟨t,z⟩:∃t,cr s f=t*2048*4503599627370496+f∧t≤1:=by
  cases s
  ·exact⟨0,by rw[a8];omega,by omega⟩
  ·exact⟨1,by rw[cI];omega,by omega⟩
 have h:(cr s f|||p*4503599627370496)%2^52=f:=by
  rw[Nat.or_mod_two_pow,show p*4503599627370496%2^52=0 by omega,Nat.or_zero]
  omega
 have l:(cr s f|||p*4503599627370496)/2^52=p+t*2^11:=by
  rw[Nat.or_div_two_pow,show p*4503599627370496/2^52=p by omega,show cr s f/2^52=t*2^11 by omega,Nat.or_comm]
  exact ku p t 11 (by omega)
 have:=Nat.div_add_mod (cr s f|||p*4503599627370496) (2^52)
 rw[h,l]at this
 cases s
 ·rw[a8]at*;rw[a8];omega
 ·rw[cI]at*;rw[cI];omega
theorem BG(k:Nat)(h:k<4096):bits .and .i64 (k:Int) 2047=((k%2048:Nat):Int):=by
 have d:=Go.bits_nat .i64 62 (by decide) (fun x f d=>by rw[IntKind.wrap_i64];simp at d;omega) k 2047 (by simp;omega) (by decide)
 refine d.1.trans ?_
 rw[show(2047:Nat)=2^11-1 by decide,Nat.and_two_pow_sub_one_eq_mod]
theorem sW(b:Nat)(w:World)(h:b<18446744073709551616):
  Calls Tryz.prog 234 #[.float .f64 b] w fun r d=>r=.returned (.float .f64 (fR b))∧w=d:=by
 have f:=fun W=>kK b W
 have k:=vi b h
 generalize fR b=q at*
 have hF:=fun W=>d9 q W
 go_enter Tryz.func234,Tryz.ntmps234
 go_wp2_with(simp only[k])
 go_ret
 exact⟨rfl,rfl⟩
theorem kL(b q:Nat)(o:Option Ordering)(i:Bool)(w:World)(t:FloatKind.f64.format.order q 9218868437227405311=o)
  (m:(o=none∧i=false)∨(o=some .lt∧i=false)∨(o=some .eq∧i=false)∨(o=some .gt∧i=true))
  (h:∀d,Calls Tryz.prog 234 #[.float .f64 b] d fun r f=>r=.returned (.float .f64 q)∧d=f):
  Calls Tryz.prog 207 #[.float .f64 b,.int .i64 0] w fun r d=>r=.returned (.bool i)∧w=d:=by
 have l:=aa h
 clear h
 rcases m with⟨rfl,rfl⟩|⟨rfl,rfl⟩|⟨rfl,rfl⟩|⟨rfl,rfl⟩
 all_goals
  go_enter Tryz.func207,Tryz.ntmps207
  go_wp2_with fail
  refine(uH l _).mono ?_
  rintro e y ⟨rfl,rfl⟩
  clear l
  go_wp2
  go_ret
  exact⟨rfl,rfl⟩
theorem sX(b:Nat)(o:Option Ordering)(i:Bool)(w:World)(h:FloatKind.f64.format.order b b=o)
  (d:(o=none∧i=true)∨(o=some .eq∧i=false)):
  Calls Tryz.prog 208 #[.float .f64 b] w fun r f=>r=.returned (.bool i)∧w=f:=by
 rcases d with⟨rfl,rfl⟩|⟨rfl,rfl⟩
 all_goals
  go_enter Tryz.func208,Tryz.ntmps208
  go_wp2
  go_ret
  exact⟨rfl,rfl⟩
theorem o4(b:Nat)(w:World)(h:b<18446744073709551616):
  Calls Tryz.prog 210 #[.float .f64 0,.float .f64 b] w fun r m=>r=.returned (.float .f64 (cr (fS b) 0))∧w=m:=by
 have t:∀W,(callFunc 130 #[.float .f64 0]).run Tryz.prog W=.ok (.value (.int .u64 0)) W:=fun W=>kK 0 W
 have y:=fun W=>kK b W
 have l:bits .andNot .u64 0 9223372036854775808=0:=by decide+kernel
 have d:=wG b h
 cases hs:fS b
 ·rw[hs]at d
  simp only[Bool.false_eq_true,if_false]at d
  rw[a8]
  have hF:∀W,(callFunc 167 #[.int .u64 0]).run Tryz.prog W=.ok (.value (.float .f64 0)) W:=fun W=>d9 0 W
  have f:bits .or .u64 0 0=0:=by decide+kernel
  go_enter Tryz.func210,Tryz.ntmps210
  go_wp2_with(simp only[l,d,f])
  go_ret
  exact⟨rfl,rfl⟩
 ·rw[hs]at d
  simp only[if_true]at d
  rw[cI]
  have hF:∀W,(callFunc 167 #[.int .u64 9223372036854775808]).run Tryz.prog W=.ok (.value (.float .f64 9223372036854775808)) W:=fun W=>d9 9223372036854775808 W
  have f:bits .or .u64 0 9223372036854775808=9223372036854775808:=by decide+kernel
  go_enter Tryz.func210,Tryz.ntmps210
  go_wp2_with(simp only[l,d,f])
  go_ret
  exact⟨rfl,rfl⟩
theorem sY(s:Int)(o:Nat)(w:World)(d:(s=1∧o=9218868437227405312)∨(s= -1∧o=18442240474082181120)):
  Calls Tryz.prog 211 #[.int .i64 s] w fun e f=>e=.returned (.float .f64 o)∧w=f:=by
 have h:∀W,(callFunc 167 #[.int .u64 9218868437227405312]).run Tryz.prog W=.ok (.value (.float .f64 9218868437227405312)) W:=fun W=>d9 9218868437227405312 W
 have l:∀W,(callFunc 167 #[.int .u64 18442240474082181120]).run Tryz.prog W=.ok (.value (.float .f64 18442240474082181120)) W:=fun W=>d9 18442240474082181120 W
 rcases d with⟨rfl,rfl⟩|⟨rfl,rfl⟩
 all_goals
  go_enter Tryz.func211,Tryz.ntmps211
  go_wp2
  go_ret
  exact⟨rfl,rfl⟩
theorem iO(b q r:Nat)(e:Int)(o:Option Ordering)(w:World)(t:FloatKind.f64.format.order q 4503599627370496=o)
  (m:(o=some .lt∧e= -52∧∀i d,(binOp .mul i (.float .f64 b) (.float .f64 4841369599423283200)).run Tryz.prog d=.ok (.float .f64 r) d)∨(o=some .eq∧e=0∧r=b)∨(o=some .gt∧e=0∧r=b))
  (h:∀d,Calls Tryz.prog 234 #[.float .f64 b] d fun r f=>r=.returned (.float .f64 q)∧d=f):
  Calls Tryz.prog 209 #[.float .f64 b] w fun s d=>s=.returned (.tuple #[.float .f64 r,.int .i64 e])∧w=d:=by
 have l:=aa h
 clear h
 rcases m with⟨rfl,rfl,z⟩|⟨rfl,rfl,rfl⟩|⟨rfl,rfl,rfl⟩
 all_goals
  go_enter Tryz.func209,Tryz.ntmps209
  go_wp2_with fail
  refine(uH l _).mono ?_
  rintro e y ⟨rfl,rfl⟩
  clear l
  go_wp2
  exact bodyPost_ret (v:=.tuple #[.float .f64 r,.int .i64 _]) (by simp[results,Tryz.results209,go_sem];try rfl) rfl ⟨rfl,rfl⟩
theorem yD(a x z p:Nat)(n e E:Int)(o:Option Ordering)(w:World)(K:FloatKind.f64.format.order a 0=o)(H:o=some .lt∨o=some .gt)
  (L:p<2048) (M:-5000≤n∧n≤5000) (N:-52≤e∧e≤0) (O:(x:Int)/4503599627370496<4096) (Q:bits .and .i64 ((x:Int)/4503599627370496) 2047=(p:Int)) (U:n+e+((p:Int)-1023)=E) (I:E< -1075)
  (l:∀f,Calls Tryz.prog 207 #[.float .f64 a,.int .i64 0] f fun r d=>r=.returned (.bool false)∧f=d)
  (m:∀f,Calls Tryz.prog 208 #[.float .f64 a] f fun r d=>r=.returned (.bool false)∧f=d)
  (t:∀f,Calls Tryz.prog 209 #[.float .f64 a] f fun r d=>r=.returned (.tuple #[.float .f64 x,.int .i64 e])∧f=d)
  (y:∀f,Calls Tryz.prog 210 #[.float .f64 0,.float .f64 x] f fun r d=>r=.returned (.float .f64 z)∧f=d)
  (V:∀W,(callFunc 130 #[.float .f64 x]).run Tryz.prog W=.ok (.value (.int .u64 x)) W):
  Calls Tryz.prog 173 #[.float .f64 a,.int .i64 n] w fun r f=>r=.returned (.float .f64 z)∧w=f:=by
 have A:=aa l;have D:=aa m;have F:=aa t;have G:=aa y
 clear l m t y
 have X:decide (E< -1075)=true:=decide_eq_true I
 rcases H with rfl|rfl
 all_goals
  go_enter Tryz.func173,Tryz.ntmps173
  go_wp2_with fail
  refine(uH A _).mono ?_
  rintro e h ⟨rfl,rfl⟩
  go_wp2_with fail
  refine(uH D _).mono ?_
  rintro e h ⟨rfl,rfl⟩
  go_wp2_with fail
  refine(uH F _).mono ?_
  rintro e h ⟨rfl,rfl⟩
  clear A D F
  go_wp2_with fail
  refine(uH G _).mono ?_
  rintro e h ⟨rfl,rfl⟩
  clear G
  go_wp2
  go_ret
  exact⟨rfl,rfl⟩
theorem vk(a x z p:Nat)(n e E:Int)(o h:Option Ordering)(w:World)(O:FloatKind.f64.format.order a 0=o)(I:o=some .lt∨o=some .gt)(K:FloatKind.f64.format.order x 0=h)
  (L:(h=some .lt∧z=18442240474082181120)∨(h=some .gt∧z=9218868437227405312))
  (Q:p<2048) (U:-5000≤n∧n≤5000) (V:-52≤e∧e≤0) (X:(x:Int)/4503599627370496<4096) (Y:bits .and .i64 ((x:Int)/4503599627370496) 2047=(p:Int)) (Z:n+e+((p:Int)-1023)=E) (M:1023<E)
  (m:∀d,Calls Tryz.prog 207 #[.float .f64 a,.int .i64 0] d fun r f=>r=.returned (.bool false)∧d=f)
  (t:∀d,Calls Tryz.prog 208 #[.float .f64 a] d fun r f=>r=.returned (.bool false)∧d=f)
  (y:∀d,Calls Tryz.prog 209 #[.float .f64 a] d fun r f=>r=.returned (.tuple #[.float .f64 x,.int .i64 e])∧d=f)
  (hB:∀W,(callFunc 130 #[.float .f64 x]).run Tryz.prog W=.ok (.value (.int .u64 x)) W):
  Calls Tryz.prog 173 #[.float .f64 a,.int .i64 n] w fun r d=>r=.returned (.float .f64 z)∧w=d:=by
 have A:=aa m;have D:=aa t;have F:=aa y
 have G:=aa (fun d=>sY 1 9218868437227405312 d (by decide))
 have H:=aa (fun d=>sY (-1) 18442240474082181120 d (by decide))
 clear m t y
 have d1:decide (E< -1075)=false:=decide_eq_false (by omega)
 have d2:decide (1023<E)=true:=decide_eq_true M
 have N:-1075≤E:=by omega
 rcases L with⟨rfl,rfl⟩|⟨rfl,rfl⟩<;>rcases I with rfl|rfl
 all_goals
  go_enter Tryz.func173,Tryz.ntmps173
  go_wp2_with fail
  refine(uH A _).mono ?_
  rintro e l ⟨rfl,rfl⟩
  go_wp2_with fail
  refine(uH D _).mono ?_
  rintro e l ⟨rfl,rfl⟩
  go_wp2_with fail
  refine(uH F _).mono ?_
  rintro e l ⟨rfl,rfl⟩
  clear A D F
  go_wp2_with fail
  first|refine(uH G _).mono ?_ |refine(uH H _).mono ?_
  rintro e l ⟨rfl,rfl⟩
  clear G H
  go_wp2
  go_ret
  exact⟨rfl,rfl⟩
theorem yE(a x y v r p:Nat)(n e E:Int)(o:Option Ordering)(w:World)(G:FloatKind.f64.format.order a 0=o)(F:o=some .lt∨o=some .gt)
  (H:p<2048) (I:-5000≤n∧n≤5000) (K:-52≤e∧e≤0) (L:(x:Int)/4503599627370496<4096) (M:bits .and .i64 ((x:Int)/4503599627370496) 2047=(p:Int)) (N:n+e+((p:Int)-1023)=E) (O:-1022≤E) (Q:E≤1023)
  (U:bits .andNot .u64 (x:Int) 9218868437227405312=(y:Int)) (V:bits .or .u64 (y:Int) ((E+1023)*4503599627370496)=(v:Int))
  (hF:∀W,(callFunc 167 #[.int .u64 v]).run Tryz.prog W=.ok (.value (.float .f64 v)) W)
  (X:∀i d,(binOp .mul i (.float .f64 4607182418800017408) (.float .f64 v)).run Tryz.prog d=.ok (.float .f64 r) d)
  (h:∀d,Calls Tryz.prog 207 #[.float .f64 a,.int .i64 0] d fun r f=>r=.returned (.bool false)∧d=f)
  (l:∀d,Calls Tryz.prog 208 #[.float .f64 a] d fun r f=>r=.returned (.bool false)∧d=f)
  (m:∀d,Calls Tryz.prog 209 #[.float .f64 a] d fun r f=>r=.returned (.tuple #[.float .f64 x,.int .i64 e])∧d=f)
  (Y:∀W,(callFunc 130 #[.float .f64 x]).run Tryz.prog W=.ok (.value (.int .u64 x)) W):
  Calls Tryz.prog 173 #[.float .f64 a,.int .i64 n] w fun s d=>s=.returned (.float .f64 r)∧w=d:=by
 have t:=aa h;have z:=aa l;have A:=aa m
 clear h l m
 have Z:decide (E< -1075)=false:=decide_eq_false (by omega)
 have d2:decide (1023<E)=false:=decide_eq_false (by omega)
 have d3:decide (E< -1022)=false:=decide_eq_false (by omega)
 rcases F with rfl|rfl
 all_goals
  go_enter Tryz.func173,Tryz.ntmps173
  go_wp2_with fail
  refine(uH t _).mono ?_
  rintro e D ⟨rfl,rfl⟩
  go_wp2_with fail
  refine(uH z _).mono ?_
  rintro e D ⟨rfl,rfl⟩
  go_wp2_with fail
  refine(uH A _).mono ?_
  rintro e D ⟨rfl,rfl⟩
  clear t z A
  go_wp2
  go_ret
  exact⟨rfl,rfl⟩
theorem yF(a x y v r p:Nat)(n e E:Int)(o:Option Ordering)(w:World)(G:FloatKind.f64.format.order a 0=o)(F:o=some .lt∨o=some .gt)
  (H:p<2048) (I:-5000≤n∧n≤5000) (K:-52≤e∧e≤0) (L:(x:Int)/4503599627370496<4096) (M:bits .and .i64 ((x:Int)/4503599627370496) 2047=(p:Int)) (N:n+e+((p:Int)-1023)=E) (O:-1075≤E) (Q:E< -1022)
  (U:bits .andNot .u64 (x:Int) 9218868437227405312=(y:Int)) (V:bits .or .u64 (y:Int) ((E+53+1023)*4503599627370496)=(v:Int))
  (hF:∀W,(callFunc 167 #[.int .u64 v]).run Tryz.prog W=.ok (.value (.float .f64 v)) W)
  (X:∀i d,(binOp .mul i (.float .f64 4368491638549381120) (.float .f64 v)).run Tryz.prog d=.ok (.float .f64 r) d)
  (h:∀d,Calls Tryz.prog 207 #[.float .f64 a,.int .i64 0] d fun r f=>r=.returned (.bool false)∧d=f)
  (l:∀d,Calls Tryz.prog 208 #[.float .f64 a] d fun r f=>r=.returned (.bool false)∧d=f)
  (m:∀d,Calls Tryz.prog 209 #[.float .f64 a] d fun r f=>r=.returned (.tuple #[.float .f64 x,.int .i64 e])∧d=f)
  (Y:∀W,(callFunc 130 #[.float .f64 x]).run Tryz.prog W=.ok (.value (.int .u64 x)) W):
  Calls Tryz.prog 173 #[.float .f64 a,.int .i64 n] w fun s d=>s=.returned (.float .f64 r)∧w=d:=by
 have t:=aa h;have z:=aa l;have A:=aa m
 clear h l m
 have Z:decide (E< -1075)=false:=decide_eq_false (by omega)
 have d2:decide (1023<E)=false:=decide_eq_false (by omega)
 have d3:decide (E< -1022)=true:=decide_eq_true (by omega)
 rcases F with rfl|rfl
 all_goals
  go_enter Tryz.func173,Tryz.ntmps173
  go_wp2_with fail
  refine(uH t _).mono ?_
  rintro e D ⟨rfl,rfl⟩
  go_wp2_with fail
  refine(uH z _).mono ?_
  rintro e D ⟨rfl,rfl⟩
  go_wp2_with fail
  refine(uH A _).mono ?_
  rintro e D ⟨rfl,rfl⟩
  clear t z A
  go_wp2
  go_ret
  exact⟨rfl,rfl⟩
theorem vl(a:Nat)(n:Int)(w:World)(f:FloatKind.f64.format.order a 0=some .eq):
  Calls Tryz.prog 173 #[.float .f64 a,.int .i64 n] w fun s d=>s=.returned (.float .f64 a)∧w=d:=by
 go_enter Tryz.func173,Tryz.ntmps173
 go_wp2
 go_ret
 exact⟨rfl,rfl⟩
theorem pT(a:Nat)(n:Int)(i k:Bool)(o:Option Ordering)(w:World)(D:FloatKind.f64.format.order a 0=o)(h:o=none∨o=some .lt∨o=some .gt)(z:(i=true)∨(i=false∧k=true))
  (l:∀f,Calls Tryz.prog 207 #[.float .f64 a,.int .i64 0] f fun r d=>r=.returned (.bool i)∧f=d)
  (m:∀f,Calls Tryz.prog 208 #[.float .f64 a] f fun r d=>r=.returned (.bool k)∧f=d):
  Calls Tryz.prog 173 #[.float .f64 a,.int .i64 n] w fun s f=>s=.returned (.float .f64 a)∧w=f:=by
 have t:=aa l;have A:=aa m
 clear l m
 rcases z with rfl|⟨rfl,rfl⟩
 ·rcases h with rfl|rfl|rfl
  all_goals
   go_enter Tryz.func173,Tryz.ntmps173
   go_wp2_with fail
   refine(uH t _).mono ?_
   rintro e y ⟨rfl,rfl⟩
   go_wp2
   go_ret
   exact⟨rfl,rfl⟩
 ·rcases h with rfl|rfl|rfl
  all_goals
   go_enter Tryz.func173,Tryz.ntmps173
   go_wp2_with fail
   refine(uH t _).mono ?_
   rintro e y ⟨rfl,rfl⟩
   go_wp2_with fail
   refine(uH A _).mono ?_
   rintro e y ⟨rfl,rfl⟩
   go_wp2
   go_ret
   exact⟨rfl,rfl⟩
theorem BH(a r:Nat)(n:Int)(w:World)
  (h:∀d,Calls Tryz.prog 173 #[.float .f64 a,.int .i64 n] d fun s f=>s=.returned (.float .f64 r)∧d=f):
  Calls Tryz.prog 123 #[.float .f64 a,.int .i64 n] w fun s d=>s=.returned (.float .f64 r)∧w=d:=by
 have l:=aa h
 clear h
 go_enter Tryz.func123,Tryz.ntmps123
 go_wp2_with fail
 refine(uH l _).mono ?_
 rintro e m ⟨rfl,rfl⟩
 clear l
 go_wp2
 go_ret
 exact⟨rfl,rfl⟩
theorem qT(x y:Nat)(d:x<18446744073709551616)(f:y<18446744073709551616)(h:mN x y=false)(i:TypeId)(w:World):
  (binOp .mul i (.float .f64 x) (.float .f64 y)).run Tryz.prog w=.ok (.float .f64 (mV x y)) w:=by
 have:=sU i x y w
 rw[lu x y d f h]at this
 exact this
theorem vp{x y:Nat}(d:aC x=true)(f:aC y=true):mN x y=false:=by
 obtain⟨h,l⟩:=dL d
 obtain⟨m,t⟩:=dL f
 unfold mN
 exact decide_eq_false (by omega)
theorem Ia:rv 4607182418800017408=2^1074:=by
 have:=sH 4607182418800017408 (by decide)
 rw[this,show gM 4607182418800017408=2^52 by decide,show 4607182418800017408/4503599627370496-1=1022 by decide]
 exact nD 52 1022 1074 (by decide)
theorem kM{s:Bool}{v:Nat}(h:v<9218868437227405312):aC (cr s v)=true:=(bu _).2.2.2 (by rw[gV s v (by omega)];exact h)
theorem wV{s:Bool}{v:Nat}(h:v<9218868437227405312)(d:v≠0):fK (cr s v)≠0:=fun e=>d (by have:=(bs _).1 e;rwa[gV s v (by omega)]at this)
theorem BI(s:Bool)(v:Nat)(h:v<9218868437227405312)(l:v≠0):mV 4607182418800017408 (cr s v)=cr s v:=by
 have m:aC 4607182418800017408=true:=by decide
 have t:fK 4607182418800017408≠0:=by decide
 have y:fS 4607182418800017408=false:=by decide
 have z:fR 4607182418800017408=4607182418800017408:=by decide
 obtain⟨K,A⟩:∃K:Nat,K=1074:=⟨_,rfl⟩
 have d:=Ia
 rw[←A]at d
 have f:=He (cr s v) (ey s v (by omega)) (kM h)
 rw[gV s v (by omega)]at f
 rw[(nB _ _ m (kM h) t (wV h l)).1,y,z,d,gV s v (by omega),lk s v (by omega),Bool.false_xor,Nat.mul_comm,nF _ _ _ (-1074) (by omega),f]
theorem lF(r c:Nat)(d:r≤9218868437227405312)(f:c≤9218868437227405312):Ieee.double.order r c=some (compare (rv r:Int) (rv c:Int)):=by
 have:=pE false false r c d f
 rw[a8,a8]at this
 exact this
theorem kN{r c:Nat}(d:c≤9218868437227405312)(h:r<c):Ieee.double.order r c=some .lt:=by
 rw[lF r c (by omega) d,Int.compare_eq_lt.2 (by have:=ly h;omega)]
theorem kO{r c:Nat}(d:r≤9218868437227405312)(h:c<r):Ieee.double.order r c=some .gt:=by
 rw[lF r c d (by omega),Int.compare_eq_gt.2 (by have:=ly h;omega)]
theorem kP(r:Nat)(d:r≤9218868437227405312):Ieee.double.order r r=some .eq:=by
 rw[lF r r d d,Int.compare_eq_eq.2 rfl]
theorem JH:fZ 0=0:=by decide
theorem wW(a:Nat)(d:a<18446744073709551616)(f:fK a≠4):Ieee.double.order a 0=some (compare (fZ a) 0):=by
 have:=ny a 0 d (by decide) f (by decide)
 rwa[JH]at this
theorem iP(a:Nat)(d:a<18446744073709551616)(f:fK a≠4)(l:fK a≠0):Ieee.double.order a 0=if fS a=true then some .lt else some .gt:=by
 obtain⟨t,m⟩:=wT a l
 rw[wW a d f,←m]
 by_cases h:fZ a<0
 ·rw[decide_eq_true h,if_pos rfl,Int.compare_eq_lt.2 h]
 ·rw[decide_eq_false h,if_neg (by decide),Int.compare_eq_gt.2 (by omega)]
theorem nU(a:Nat)(w:World)(y:a<18446744073709551616):
  Calls Tryz.prog 207 #[.float .f64 a,.int .i64 0] w fun r l=>r=.returned (.bool (decide (fK a=3)))∧w=l:=by
 obtain⟨D,t,H⟩:=bu a
 have F:=kE a
 have d:=fun l=>sW a l y
 by_cases m:fK a=4
 ·rw[decide_eq_false (by omega)]
  have e:fK (fR a)=4:=by rw[←m];exact EK (by unfold fR;omega)
  exact kL a (fR a) none false w (lp _ _ (by omega) (by decide) (.inl e)) (.inl ⟨rfl,rfl⟩) d
 ·have z:fR a≤9218868437227405312:=Nat.le_of_not_lt fun h=>m (D.2 h)
  by_cases f:fK a=3
  ·rw[decide_eq_true f]
   exact kL a (fR a) _ true w (kO z (by have:=t.1 f;omega)) (.inr (.inr (.inr ⟨rfl,rfl⟩))) d
  ·rw[decide_eq_false f]
   have G:fR a≠9218868437227405312:=fun h=>f (t.2 h)
   by_cases A:fR a=9218868437227405311
   ·rw[A]at d
    exact kL a _ _ false w (kP _ (by decide)) (.inr (.inr (.inl ⟨rfl,rfl⟩))) d
   ·exact kL a (fR a) _ false w (kN (by decide) (by omega)) (.inr (.inl ⟨rfl,rfl⟩)) d
theorem nV(a:Nat)(w:World)(f:a<18446744073709551616):
  Calls Tryz.prog 208 #[.float .f64 a] w fun r h=>r=.returned (.bool (decide (fK a=4)))∧w=h:=by
 by_cases d:fK a=4
 ·rw[decide_eq_true d]
  exact sX a _ _ w (lp a a f f (.inl d)) (.inl ⟨rfl,rfl⟩)
 ·rw[decide_eq_false d]
  exact sX a _ _ w (by rw[show FloatKind.f64.format.order a a=Ieee.double.order a a from rfl,ny a a f f d d,Int.compare_eq_eq.2 rfl]) (.inr ⟨rfl,rfl⟩)
theorem yG(a:Nat)(f:a<18446744073709551616)(m:aC a=true)(y:fK a≠0):
  ∃(q:Nat) (e:Int),(∀w,Calls Tryz.prog 209 #[.float .f64 a] w fun s d=>s=.returned (.tuple #[.float .f64 (cr (fS a) q),.int .i64 e])∧w=d)∧
   -52≤e∧e≤0∧4503599627370496≤q∧q<9218868437227405312∧∀n:Int,bX (rv (fR a)) (n-1074)=bX (rv q) (n+e-1074):=by
 have z:=np a m
 have l:=fun d=>sW a d f
 by_cases h:fR a<4503599627370496
 ·have A:fR a≠0:=fun e=>y ((bs a).2 e)
  obtain⟨q,t,F,G,H⟩:=uV (fS a) (fR a) A h
  rw[gj a f]at t
  refine⟨q,-52,fun w=>?_,by decide,by decide,F,G,fun n=>by rw[H];congr 1⟩
  refine iO a (fR a) (cr (fS a) q) (-52) _ w (kN (by decide) h) (.inl ⟨rfl,rfl,fun i d=>?_⟩) l
  rw[←t]
  exact qT a _ f (by decide) (vp m (by decide)) i d
 ·refine⟨fR a,0,fun w=>?_,by decide,by decide,by omega,z,fun n=>by congr 1;omega⟩
  rw[gj a f]
  by_cases D:fR a=4503599627370496
  ·rw[D]at l
   exact iO a _ a 0 _ w (kP _ (by decide)) (.inr (.inl ⟨rfl,rfl,rfl⟩)) l
  ·exact iO a (fR a) a 0 _ w (kO (by omega) (by omega)) (.inr (.inr ⟨rfl,rfl,rfl⟩)) l
theorem yH(a:Nat)(n:Int)(w:World)(H:a<18446744073709551616)(fa:aC a=true)(a0:fK a≠0)(I:-5000≤n∧n≤5000):
  Calls Tryz.prog 173 #[.float .f64 a,.int .i64 n] w fun r d=>r=.returned (.float .f64 (cr (fS a) (bX (rv (fR a)) (n-1074))))∧w=d:=by
 obtain⟨q,e,t,U,V,q1,q2,hN⟩:=yG a H fa a0
 obtain⟨a3,a4⟩:=dL fa
 have y:=fun d=>nU a d H
 rw[decide_eq_false a3]at y
 have z:=fun d=>nV a d H
 rw[decide_eq_false a4]at z
 rw[hN n]
 obtain⟨s,hs⟩:∃s,s=fS a:=⟨_,rfl⟩
 have K:FloatKind.f64.format.order a 0=(if s=true then some .lt else some .gt):=by rw[hs];exact iP a H a4 a0
 have L:(if s=true then some Ordering.lt else some Ordering.gt)=some .lt∨(if s=true then some Ordering.lt else some Ordering.gt)=some .gt:=by cases s<;>simp
 rw[←hs]at t⊢
 obtain⟨x,l⟩:∃x,x=cr s q:=⟨_,rfl⟩
 have A:x<18446744073709551616:=by rw[l];exact ey s q (by omega)
 have xR:fR x=q:=by rw[l];exact gV s q (by omega)
 have xS:fS x=s:=by rw[l];exact lk s q (by omega)
 have xf:aC x=true:=by rw[l];exact kM q2
 have x0:fK x≠0:=by rw[l];exact wV q2 (by omega)
 have x4:=(dL xf).2
 rw[←l]at t
 have hp:fP x=q/4503599627370496:=by rw[←xR];rfl
 have M:bits .and .i64 ((x:Int)/4503599627370496) 2047=((fP x:Nat):Int):=by
  have:=BG (x/4503599627370496) (by omega)
  rw[show((x:Int)/4503599627370496)=((x/4503599627370496:Nat):Int) by omega]
  refine this.trans ?_
  unfold fP
  congr 1
  omega
 have N:=fun W=>kK x W
 obtain⟨E,G⟩:∃E:Int,n+e+((fP x:Int)-1023)=E:=⟨_,rfl⟩
 have f:=mQ x
 have hS:=qJ q (n+e) E q1 (by rw[←G,hp];omega)
 rw[hS]
 have O:(x:Int)/4503599627370496<4096:=by omega
 have D:q%4503599627370496<4503599627370496:=Nat.mod_lt _ (by decide)
 rcases(show E< -1075∨1023<E∨(-1022≤E∧E≤1023)∨(-1075≤E∧E< -1022) by omega)with h|h|h|h
 ·rw[yv q E h]
  have C4:=fun d=>o4 x d A
  rw[xS]at C4
  exact yD a x (cr s 0) (fP x) n e E _ w K L f I ⟨U,V⟩ O M G h y z t C4 N
 ·rw[uU q E h]
  have X:FloatKind.f64.format.order x 0=(if s=true then some .lt else some .gt):=by rw[←xS];exact iP x A x4 x0
  refine vk a x (cr s 9218868437227405312) (fP x) n e E _ _ w K L X ?_ f I ⟨U,V⟩ O M G h y z t N
  cases s
  ·exact .inr ⟨rfl,rfl⟩
  ·exact .inl ⟨rfl,rfl⟩
 ·rw[yu q E h.1 h.2]
  obtain⟨k,hk⟩:∃k:Nat,k=(E+1023).toNat:=⟨_,rfl⟩
  have m:(E+1023)*4503599627370496=((k*4503599627370496:Nat):Int):=by omega
  rw[←hk]
  have Y:=Bz s (q%4503599627370496) k D (by omega)
  have Q:q%4503599627370496+k*4503599627370496<9218868437227405312:=by omega
  have Z:q%4503599627370496+k*4503599627370496≠0:=by omega
  have F:=nR s q (by omega)
  rw[←l]at F
  refine yE a x _ _ _ (fP x) n e E _ w K L f I ⟨U,V⟩ O M G h.1 h.2 F (by rw[m];exact Y) (fun W=>d9 _ W) (fun i d=>?_) y z t N
  have:=qT 4607182418800017408 (cr s (q%4503599627370496+k*4503599627370496)) (by decide) (ey _ _ (by omega)) (vp (by decide) (kM Q)) i d
  rw[BI s _ Q Z]at this
  exact this
 ·obtain⟨k,hk⟩:∃k:Nat,k=(E+53+1023).toNat:=⟨_,rfl⟩
  have m:(E+53+1023)*4503599627370496=((k*4503599627370496:Nat):Int):=by omega
  have hZ:=yw s q E h.1 h.2
  rw[←hk]at hZ
  have Y:=Bz s (q%4503599627370496) k D (by omega)
  have Q:q%4503599627370496+k*4503599627370496<9218868437227405312:=by omega
  have F:=nR s q (by omega)
  rw[←l]at F
  refine yF a x _ _ _ (fP x) n e E _ w K L f I ⟨U,V⟩ O M G h.1 h.2 F (by rw[m];exact Y) (fun W=>d9 _ W) (fun i d=>?_) y z t N
  have:=qT 4368491638549381120 (cr s (q%4503599627370496+k*4503599627370496)) (by decide) (ey _ _ (by omega)) (vp (by decide) (kM Q)) i d
  rw[(yt _ _).1,hZ]at this
  exact this
def lV(a:Nat)(n:Int):Nat:=if fK a=4 then a else xV a n
theorem yI(a:Nat)(n:Int)(w:World)(h:a<18446744073709551616)(A:-5000≤n∧n≤5000):
  Calls Tryz.prog 123 #[.float .f64 a,.int .i64 n] w fun r d=>r=.returned (.float .f64 (lV a n))∧w=d:=by
 refine BH a _ n w fun d=>?_
 have l:=fun d=>nU a d h
 have t:=fun d=>nV a d h
 unfold lV
 by_cases f:fK a=4
 ·rw[if_pos f]
  rw[decide_eq_false (show¬fK a=3 by omega)]at l
  rw[decide_eq_true f]at t
  exact pT a n false true _ d (lp a 0 h (by decide) (.inl f)) (.inl rfl) (.inr ⟨rfl,rfl⟩) l t
 rw[if_neg f]
 unfold xV
 rw[if_neg f]
 by_cases y:fK a=3
 ·rw[if_pos (Or.inl y)]
  rw[decide_eq_true y]at l
  exact pT a n true _ _ d (iP a h f (by omega)) (by cases fS a<;>simp) (.inl rfl) l t
 by_cases m:fK a=0
 ·rw[if_pos (Or.inr m)]
  have D:fZ a=0:=by
   have:=gU a
   rw[(bs a).1 m,fO]at this
   omega
  exact vl a n d (by rw[show FloatKind.f64.format.order a 0=Ieee.double.order a 0 from rfl,wW a h f,Int.compare_eq_eq.2 D])
 ·rw[if_neg (by omega)]
  have z:=bh a y f
  obtain⟨β,H,G,I,K⟩:=jI a h z m
  have F:bX (fD a).natAbs (fX a+n)=bX (rv (fR a)) (n-1074):=by
   rw[G,dY];congr 1;omega
  rw[F]
  exact yH a n d h z m A
theorem BJ(a:Nat)(n:Int)(w:World)(f:a<18446744073709551616):
  Calls Tryz.prog 129 #[.int .u64 (lV a n:Nat)] w fun r l=>r=.returned (.int .u64 (xV a n:Nat))∧w=l:=by
 unfold lV
 by_cases d:fK a=4
 ·rw[if_pos d]
  have:=eZ a w f
  rw[if_pos d]at this
  rw[show xV a n=9221120237041090560 by unfold xV;rw[if_pos d]]
  exact this
 ·rw[if_neg d]
  have:=eZ (xV a n) w (nM a n f)
  have h:fK (xV a n)≠4:=by
   unfold xV
   rw[if_neg d]
   split
   ·exact d
   ·exact gy _ _ (eM _ _)
  rw[if_neg h]at this
  exact this
def cX(N:Nat):Nat:=N-bC N*bC N
theorem Jk(N p:Nat)(d:p<4):
  (4*cX N+p<4*bC N+1→bC (4*N+p)=2*bC N∧cX (4*N+p)=4*cX N+p)∧
  (¬4*cX N+p<4*bC N+1→bC (4*N+p)=2*bC N+1∧cX (4*N+p)=4*cX N+p-(4*bC N+1)):=by
 obtain⟨y,z⟩:=dh N
 have f:=gK (bC N)
 have l:=gK (2*bC N)
 have m:=gK (2*bC N+1)
 have t:2*bC N*(2*bC N)=4*(bC N*bC N):=by rw[show(4:Nat)=2*2 by decide];ac_rfl
 unfold cX
 refine⟨fun h=>?_,fun h=>?_⟩
 ·have e:bC (4*N+p)=2*bC N:=gu (by omega) (by omega)
  refine⟨e,?_⟩
  rw[e]
  omega
 ·have e:bC (4*N+p)=2*bC N+1:=gu (by omega) (by omega)
  refine⟨e,?_⟩
  rw[e]
  omega
theorem BK(N:Nat):cX N≤2*bC N:=by
 obtain⟨f,h⟩:=dh N
 have d:=gK (bC N)
 unfold cX
 omega
theorem vq(N:Nat):cX N=0↔bC N*bC N=N:=by
 obtain⟨d,f⟩:=dh N
 unfold cX
 omega
theorem BL{N k:Nat}(h:N<k*k):bC N<k:=by
 obtain⟨d,f⟩:=dh N
 exact eY.1 (by omega)
def lG(n i:Nat):Nat:=n/4^(32-i)
theorem yJ(n:Nat)(h:n<18446744073709551616):lG n 0=0:=by
 unfold lG
 rw[show(4:Nat)^(32-0)=18446744073709551616 by decide]
 omega
theorem BM(n:Nat):lG n 32=n:=by
 unfold lG
 simp
theorem yK(n i:Nat)(f:i<32):lG n (i+1)=4*lG n i+n/2^(2*(31-i))%4:=by
 unfold lG
 have e:(4:Nat)^(32-i)=4^(32-(i+1))*4:=by rw[←Nat.pow_succ];congr 1;omega
 have d:(2:Nat)^(2*(31-i))=4^(32-(i+1)):=by rw[Nat.pow_mul,show 32-(i+1)=31-i by omega]
 rw[e,d,←Nat.div_div_eq_div_mul]
 omega
theorem Fj(n i:Nat)(h:n<18446744073709551616):lG n i<18446744073709551616:=by
 unfold lG
 exact Nat.lt_of_le_of_lt (Nat.div_le_self _ _) h
theorem BN(n i:Nat)(h:n<18446744073709551616):bC (lG n i)<4294967296:=BL (Nat.lt_of_lt_of_le (Fj n i h) (by decide))
theorem nW(n i:Nat)(h:n<18446744073709551616)(f:i≤22):bC (n*4^i)<18014398509481984:=by
 refine BL ?_
 have d:(4:Nat)^i≤4^22:=Nat.pow_le_pow_right (by decide) f
 rw[show(4:Nat)^22=17592186044416 by decide]at d
 have l:n*4^i≤n*17592186044416:=Nat.mul_le_mul_left _ d
 omega
theorem yL(n i:Nat):n*4^(i+1)=4*(n*4^i)+0:=by rw[Nat.pow_succ];ac_rfl
def nS(b:Nat):Nat:=(fD b).natAbs*2^(64-bl (fD b).natAbs-((dT b)%2).toNat)
def nT(b:Nat):Int:=dT b+(dT b)%2
theorem jm(b:Nat)(m:b<18446744073709551616)(t:aC b=true)(y:fK b≠0):
  nS b<18446744073709551616∧4611686018427387904≤nS b:=by
 obtain⟨F,G,H,I,K,L,M,N⟩:=cT b m t y
 obtain⟨O,A,D⟩:=bK (fD b).natAbs (by omega)
 unfold nS
 have z:=Nat.two_pow_pos (64-bl (fD b).natAbs-((dT b)%2).toNat)
 have d:=(Nat.mul_lt_mul_right z).2 D
 have f:=Nat.mul_le_mul_right (2^(64-bl (fD b).natAbs-((dT b)%2).toNat)) A
 rw[←Nat.pow_add]at d f
 have h:2^(bl (fD b).natAbs+(64-bl (fD b).natAbs-((dT b)%2).toNat))≤2^64:=Nat.pow_le_pow_right (by decide) (by omega)
 have l:2^62≤2^(bl (fD b).natAbs-1+(64-bl (fD b).natAbs-((dT b)%2).toNat)):=Nat.pow_le_pow_right (by decide) (by omega)
 rw[show(2:Nat)^64=18446744073709551616 by decide]at h
 rw[show(2:Nat)^62=4611686018427387904 by decide]at l
 exact⟨Nat.lt_of_lt_of_le d h,Nat.le_trans l f⟩
theorem Fk(a:Nat)(h:a<18446744073709551616)(l:aC a=true)(f:fK a≠0):
  bX (rS (nS a*4^22)) (nT a/2-55)=tV a∧bM (oM (rS (nS a*4^22):Nat)).natAbs (oE (rS (nS a*4^22):Nat) (nT a/2-55))=tF a:=by
 obtain⟨α,D,t,F,G⟩:=jI a h l f
 obtain⟨H,I,K,L,M,N,O,Q⟩:=cT a h l f
 obtain⟨U,y⟩:=jm a h l f
 have m:nS a*4^22=(fD a).natAbs*2^(64-bl (fD a).natAbs-((dT a)%2).toNat+44):=by
  unfold nS
  rw[Nat.pow_add,Nat.mul_assoc]
 have d:9007199254740992≤bC (nS a*4^22):=by
  refine uX ?_
  rw[show(2:Nat)^106=4611686018427387904*4^22 by decide]
  exact Nat.mul_le_mul_right _ y
 rw[m]at d⊢
 have z:dT a=(bl (fD a).natAbs:Int)+fX a:=rfl
 have A:nT a=dT a+dT a%2:=rfl
 have:=sI a (fD a).natAbs α (64-bl (fD a).natAbs-((dT a)%2).toNat+44) (nT a/2-54) f t.symm (by omega) d
 rwa[show nT a/2-54-1=nT a/2-55 by omega]at this
theorem Jl(n:Nat)(h:n<18446744073709551616):rS (n*4^22)<36028797018963968:=by
 have:=nW n 22 h (by decide)
 unfold rS
 split<;>omega
def eE(w:World)(b:Nat)(x y:Value):Prop:=w.heap[b]? =some (.cells #[x,y] 254 (0,0))
theorem eE.c0{w:World}{b:Nat}{x y:Value}(h:eE w b x y):w.cell? ⟨b,0,none⟩=some x:=by rw[cell_of_row w b 0 _ _ _ h];rfl
theorem eE.c1{w:World}{b:Nat}{x y:Value}(h:eE w b x y):w.cell? ⟨b,1,none⟩=some y:=by rw[cell_of_row w b 1 _ _ _ h];rfl
theorem eE.free{w:World}{b:Nat}{x y:Value}(h:eE w b x y)(j:Nat):w.frozen? ⟨b,j,none⟩=false:=frozen_of_row w b j _ _ h
theorem eE.lt{w:World}{b:Nat}{x y:Value}(h:eE w b x y):b<w.heap.size:=(Array.getElem?_eq_some_iff.1 h).1
theorem eE.all{w d:World}{b:Nat}{x y:Value}(h:eE w b x y)(f:Below w.heap.size w d):eE d b x y:=(f.block b h.lt).trans h
theorem eE.new(w:World)(x y:Value):eE (w.alloc (.cells #[x,y] 254)) w.heap.size x y:=heap_alloc_new w _
theorem Fl(s p:Nat)(d:s<144115188075855872)(f:p<4):bits BinOp.or IntKind.u64 ((s:Int)*4) (p:Int)=((4*s+p:Nat):Int):=by
 have e:(s:Int)*4=((s*2^2:Nat):Int):=by omega
 rw[e,u64_or_nat (s*2^2) p (by omega) (by omega),Nat.or_comm,ku p s 2 (by omega)]
 congr 1
 omega
theorem BO(x:Nat)(h:x<144115188075855872):bits BinOp.or IntKind.u64 ((x:Int)*2) 1=((2*x+1:Nat):Int):=by
 have e:(x:Int)*2=((x*2^1:Nat):Int):=by omega
 rw[e]
 refine(u64_or_nat (x*2^1) 1 (by omega) (by omega)).trans ?_
 rw[Nat.or_comm,ku 1 x 1 (by omega)]
 congr 1
 omega
theorem eE.put{w:World}{b:Nat}{x y:Value}(h:eE w b x y)(u u':Value):eE ((w.setCell ⟨b,0,none⟩ u).setCell ⟨b,1,none⟩ u') b u u':=by
 have d:=heap_setCell_same w b 0 _ _ u h
 have f:=heap_setCell_same (w.setCell ⟨b,0,none⟩ u) b 1 _ _ u' d
 unfold eE
 rw[f]
 simp
theorem eE.oth{w:World}{b g:Nat}{x y:Value}(h:eE w b x y)(d:b≠g)(u u':Value):eE ((w.setCell ⟨g,0,none⟩ u).setCell ⟨g,1,none⟩ u') b x y:=
 (Below.heap_setCell _ ⟨g,1,none⟩ u' b d).trans ((Below.heap_setCell w ⟨g,0,none⟩ u b d).trans h)
theorem ke{B g:Nat}{a w:World}(h:Below B a w)(d:B≤g)(u u':Value):Below B a ((w.setCell ⟨g,0,none⟩ u).setCell ⟨g,1,none⟩ u'):=(h.setCell d u).setCell d u'
theorem Fm(r s p x y z:Nat)(w:World)(t:r<18014398509481984)(A:s≤2*r)(f:(x:Int)<(y:Int))
  (D:bits BinOp.or IntKind.u64 ((s:Int)*4) (p:Int)=(x:Int)) (F:bits BinOp.or IntKind.u64 ((r:Int)*2*2) 1=(y:Int)) (d:(r:Int)*2=(z:Int)):
  Calls Tryz.prog 289 #[.agg #[.int .u64 r,.int .u64 s],.int .u64 p] w fun e h=>e=.returned (.agg #[.int .u64 (z:Nat),.int .u64 (x:Nat)])∧Below w.heap.size w h:=by
 have l:=decide_eq_true f
 have m:=aa d
 clear d
 go_enter Tryz.func289,Tryz.ntmps289
 go_wp2
 go_quiet (fail)
 go_wp2
 rw[uH m]
 refine bodyPost_ret (v:=.agg #[.int .u64 (z:Nat),.int .u64 (x:Nat)]) (by simp[results,Tryz.results289,go_sem]) rfl ⟨rfl,?_⟩
 exact(((below_drewN (((Below.refl _ _).alloc (Nat.le_refl _) _).alloc (by simp) _) _).setCell (by simp) _).setCell (by simp) _)
theorem Fn(r s p x y z d:Nat)(w:World)(A:r<18014398509481984)(D:s≤2*r)(h:¬(x:Int)<(y:Int))(f:(x:Int)-(y:Int)=(d:Int))
  (F:bits BinOp.or IntKind.u64 ((s:Int)*4) (p:Int)=(x:Int)) (G:bits BinOp.or IntKind.u64 ((r:Int)*2*2) 1=(y:Int)) (H:bits BinOp.or IntKind.u64 ((r:Int)*2) 1=(z:Int)) (I:x<18446744073709551616):
  Calls Tryz.prog 289 #[.agg #[.int .u64 r,.int .u64 s],.int .u64 p] w fun e l=>e=.returned (.agg #[.int .u64 (z:Nat),.int .u64 (d:Nat)])∧Below w.heap.size w l:=by
 have m:=decide_eq_false h
 have t:=aa f
 clear f
 go_enter Tryz.func289,Tryz.ntmps289
 go_wp2
 go_quiet (fail)
 go_wp2
 rw[uH t]
 refine bodyPost_ret (v:=.agg #[.int .u64 (z:Nat),.int .u64 (d:Nat)]) (by simp[results,Tryz.results289,go_sem]) rfl ⟨rfl,?_⟩
 exact(((below_drewN (((Below.refl _ _).alloc (Nat.le_refl _) _).alloc (by simp) _) _).setCell (by simp) _).setCell (by simp) _)
end Go.Proofs.YtlnphkioddknfaaGreatDoor
