/- Part 47 of the texts. -/
import Derived.Test.YtlnphkioddknfaaGreatDoorParty45
import Derived.Test.YtlnphkioddknfaaGreatDoorParty46
import Derived.Test.YtlnphkioddknfaaGreatDoorChecked
import Derived.Lib.SmallJoins
set_option maxHeartbeats 32000000
set_option maxRecDepth 20000
namespace Go.Proofs.YtlnphkioddknfaaGreatDoor
open Go.RowKit
attribute [local go_sem ↓] Go.wp_at_zero Go.wp_at_succ
theorem wA(r c p q er:Int)(ao D:Option Addr)(k cap m d:Nat)(w:World)(G:er=1∨er=4)
  (M:∀z,Below w.heap.size w z→Calls Tryz.prog 19 #[.agg #[.int .i64 r,.int .i64 c,.slice ao k cap]] z fun e H=>e=.returned (.int .i64 er)∧Below z.heap.size z H):
  Calls Tryz.prog 24 #[.agg #[.int .i64 r,.int .i64 c,.slice ao k cap],.agg #[.int .i64 p,.int .i64 q,.slice D m d]] w fun e z=>e=.returned (.tuple #[.agg #[.int .i64 0,.int .i64 0,.slice none 0 0],.int .i64 er])∧Below w.heap.size w z:=by
 have N:=aa (bp w (.int .i64 r) (.int .i64 c) (.slice ao k cap) (.int .i64 p) (.int .i64 q) (.slice D m d) (.int .i64 0) (.int .i64 0) (.slice none 0 0))
 obtain⟨Q,U,V,X⟩:=uH N _ (by have:=Below.refl (((w.alloc (.cells #[.int .i64 r,.int .i64 c,.slice ao k cap] 24)).alloc (.cells #[.int .i64 p,.int .i64 q,.slice D m d] 24)).alloc (.cells #[.int .i64 0,.int .i64 0,.slice none 0 0] 24)).heap.size (((w.alloc (.cells #[.int .i64 r,.int .i64 c,.slice ao k cap] 24)).alloc (.cells #[.int .i64 p,.int .i64 q,.slice D m d] 24)).alloc (.cells #[.int .i64 0,.int .i64 0,.slice none 0 0] 24));simpa only[ad]using this)
 have t:=aa Q;have h:=aa U;have l:=aa V;have A:=aa X
 have O:=aa M
 clear M N Q U V X
 rcases G with rfl|rfl
 all_goals
  go_enter Tryz.func24,Tryz.ntmps24
  have I:=(uH h).c0;have K:=(uH h).c1;have L:=(uH h).c2;have u0:=(uH l).c0;have u1:=(uH l).c1;have u2:=(uH l).c2
  go_wp2_with fail
  clear I K L u0 u1 u2
  refine(uH O _ (uH t)).mono ?_
  rintro e wn ⟨rfl,f⟩
  replace h:=aa ((uH h).all f);replace l:=aa ((uH l).all f);replace A:=aa ((uH A).all f)
  replace t:=aa ((uH t).trans (f.mono (uH t).size))
  clear f
  have I:=(uH h).c0;have K:=(uH h).c1;have L:=(uH h).c2;have u0:=(uH l).c0;have u1:=(uH l).c1;have u2:=(uH l).c2
  go_wp2_with fail
  clear I K L u0 u1 u2
  refine(uH O _ (uH t)).mono ?_
  rintro e wn ⟨rfl,f⟩
  replace h:=aa ((uH h).all f);replace l:=aa ((uH l).all f);replace A:=aa ((uH A).all f)
  replace t:=aa ((uH t).trans (f.mono (uH t).size))
  clear f
  have y:=uH A
  have f0:=y.free 0;have f1:=y.free 1;have f2:=y.free 2
  have s0:=y.c0;have s1:=y.c1;have s2:=y.c2
  have F:=y.put (.int .i64 0) (.int .i64 0) (.slice none 0 0)
  have Y:=F.c0;have z1:=F.c1;have z2:=F.c2
  have Z:=aa (ai (uH t) (b:=w.heap.size+1+1) (by omega) (.int .i64 0) (.int .i64 0) (.slice none 0 0))
  clear F y
  go_wp2_with fail
  exact bodyPost_ret (v:=.tuple #[.agg #[.int .i64 0,.int .i64 0,.slice none 0 0],.int .i64 _]) (by simp[results,Tryz.results24,go_sem,Y,z1,z2]) rfl ⟨rfl,uH Z⟩
theorem wB(r c p q er:Int)(ao F:Option Addr)(k cap m d:Nat)(w:World)(L:er=1∨er=4)
  (M:∀y,Below w.heap.size w y→Calls Tryz.prog 19 #[.agg #[.int .i64 r,.int .i64 c,.slice ao k cap]] y fun e A=>e=.returned (.int .i64 0)∧Below y.heap.size y A)
  (N:∀y,Below w.heap.size w y→Calls Tryz.prog 19 #[.agg #[.int .i64 p,.int .i64 q,.slice F m d]] y fun e A=>e=.returned (.int .i64 er)∧Below y.heap.size y A):
  Calls Tryz.prog 24 #[.agg #[.int .i64 r,.int .i64 c,.slice ao k cap],.agg #[.int .i64 p,.int .i64 q,.slice F m d]] w fun e y=>e=.returned (.tuple #[.agg #[.int .i64 0,.int .i64 0,.slice none 0 0],.int .i64 er])∧Below w.heap.size w y:=by
 have O:=aa (bp w (.int .i64 r) (.int .i64 c) (.slice ao k cap) (.int .i64 p) (.int .i64 q) (.slice F m d) (.int .i64 0) (.int .i64 0) (.slice none 0 0))
 obtain⟨U,V,X,Y⟩:=uH O _ (by have:=Below.refl (((w.alloc (.cells #[.int .i64 r,.int .i64 c,.slice ao k cap] 24)).alloc (.cells #[.int .i64 p,.int .i64 q,.slice F m d] 24)).alloc (.cells #[.int .i64 0,.int .i64 0,.slice none 0 0] 24)).heap.size (((w.alloc (.cells #[.int .i64 r,.int .i64 c,.slice ao k cap] 24)).alloc (.cells #[.int .i64 p,.int .i64 q,.slice F m d] 24)).alloc (.cells #[.int .i64 0,.int .i64 0,.slice none 0 0] 24));simpa only[ad]using this)
 have t:=aa U;have h:=aa V;have l:=aa X;have D:=aa Y
 have K1:=aa M;have Q:=aa N
 clear M N O U V X Y
 rcases L with rfl|rfl
 all_goals
  go_enter Tryz.func24,Tryz.ntmps24
  have G:=(uH h).c0;have H:=(uH h).c1;have I:=(uH h).c2;have u0:=(uH l).c0;have u1:=(uH l).c1;have u2:=(uH l).c2
  go_wp2_with fail
  clear G H I u0 u1 u2
  refine(uH K1 _ (uH t)).mono ?_
  rintro e Z ⟨rfl,f⟩
  replace h:=aa ((uH h).all f);replace l:=aa ((uH l).all f);replace D:=aa ((uH D).all f)
  replace t:=aa ((uH t).trans (f.mono (uH t).size))
  clear f
  have G:=(uH h).c0;have H:=(uH h).c1;have I:=(uH h).c2;have u0:=(uH l).c0;have u1:=(uH l).c1;have u2:=(uH l).c2
  go_wp2_with fail
  clear G H I u0 u1 u2
  refine(uH Q _ (uH t)).mono ?_
  rintro e Z ⟨rfl,f⟩
  replace h:=aa ((uH h).all f);replace l:=aa ((uH l).all f);replace D:=aa ((uH D).all f)
  replace t:=aa ((uH t).trans (f.mono (uH t).size))
  clear f
  have G:=(uH h).c0;have H:=(uH h).c1;have I:=(uH h).c2;have u0:=(uH l).c0;have u1:=(uH l).c1;have u2:=(uH l).c2
  go_wp2_with fail
  clear G H I u0 u1 u2
  refine(uH Q _ (uH t)).mono ?_
  rintro e Z ⟨rfl,f⟩
  replace h:=aa ((uH h).all f);replace l:=aa ((uH l).all f);replace D:=aa ((uH D).all f)
  replace t:=aa ((uH t).trans (f.mono (uH t).size))
  clear f
  have z:=uH D
  have f0:=z.free 0;have f1:=z.free 1;have f2:=z.free 2
  have s0:=z.c0;have s1:=z.c1;have s2:=z.c2
  have K:=z.put (.int .i64 0) (.int .i64 0) (.slice none 0 0)
  have z0:=K.c0;have z1:=K.c1;have z2:=K.c2
  have BP:=aa (ai (uH t) (b:=w.heap.size+1+1) (by omega) (.int .i64 0) (.int .i64 0) (.slice none 0 0))
  clear K z
  go_wp2_with fail
  exact bodyPost_ret (v:=.tuple #[.agg #[.int .i64 0,.int .i64 0,.slice none 0 0],.int .i64 _]) (by simp[results,Tryz.results24,go_sem,z0,z1,z2]) rfl ⟨rfl,uH BP⟩
theorem rA(r c p q:Int)(ao M:Option Addr)(k cap m d:Nat)(w:World)(D:r<c∨(¬r<c∧¬r=p))
  (V:∀z,Below w.heap.size w z→Calls Tryz.prog 19 #[.agg #[.int .i64 r,.int .i64 c,.slice ao k cap]] z fun e K=>e=.returned (.int .i64 0)∧Below z.heap.size z K)
  (X:∀z,Below w.heap.size w z→Calls Tryz.prog 19 #[.agg #[.int .i64 p,.int .i64 q,.slice M m d]] z fun e K=>e=.returned (.int .i64 0)∧Below z.heap.size z K):
  Calls Tryz.prog 24 #[.agg #[.int .i64 r,.int .i64 c,.slice ao k cap],.agg #[.int .i64 p,.int .i64 q,.slice M m d]] w fun e z=>e=.returned (.tuple #[.agg #[.int .i64 0,.int .i64 0,.slice none 0 0],.int .i64 3])∧Below w.heap.size w z:=by
 have Y:=aa (bp w (.int .i64 r) (.int .i64 c) (.slice ao k cap) (.int .i64 p) (.int .i64 q) (.slice M m d) (.int .i64 0) (.int .i64 0) (.slice none 0 0))
 obtain⟨b0,x0,x1,x2⟩:=uH Y _ (by have:=Below.refl (((w.alloc (.cells #[.int .i64 r,.int .i64 c,.slice ao k cap] 24)).alloc (.cells #[.int .i64 p,.int .i64 q,.slice M m d] 24)).alloc (.cells #[.int .i64 0,.int .i64 0,.slice none 0 0] 24)).heap.size (((w.alloc (.cells #[.int .i64 r,.int .i64 c,.slice ao k cap] 24)).alloc (.cells #[.int .i64 p,.int .i64 q,.slice M m d] 24)).alloc (.cells #[.int .i64 0,.int .i64 0,.slice none 0 0] 24));simpa only[ad]using this)
 have t:=aa b0;have f:=aa x0;have h:=aa x1;have A:=aa x2
 have Z:=aa V;have K2:=aa X
 clear V X Y b0 x0 x1 x2
 have L:¬r<c→¬r=p→(r != p)=true:=fun _ e=>bne_iff_ne.2 e
 rcases D with D|⟨D,N⟩
 ·clear L
  go_enter Tryz.func24,Tryz.ntmps24
  have F:=(uH f).c0;have G:=(uH f).c1;have H:=(uH f).c2;have u0:=(uH h).c0;have u1:=(uH h).c1;have u2:=(uH h).c2
  go_wp2_with fail
  clear F G H u0 u1 u2
  refine(uH Z _ (uH t)).mono ?_
  rintro e U ⟨rfl,l⟩
  replace f:=aa ((uH f).all l);replace h:=aa ((uH h).all l);replace A:=aa ((uH A).all l)
  replace t:=aa ((uH t).trans (l.mono (uH t).size))
  clear l
  have F:=(uH f).c0;have G:=(uH f).c1;have H:=(uH f).c2;have u0:=(uH h).c0;have u1:=(uH h).c1;have u2:=(uH h).c2
  go_wp2_with fail
  clear F G H u0 u1 u2
  refine(uH K2 _ (uH t)).mono ?_
  rintro e U ⟨rfl,l⟩
  replace f:=aa ((uH f).all l);replace h:=aa ((uH h).all l);replace A:=aa ((uH A).all l)
  replace t:=aa ((uH t).trans (l.mono (uH t).size))
  clear l
  have F:=(uH f).c0;have G:=(uH f).c1;have H:=(uH f).c2;have u0:=(uH h).c0;have u1:=(uH h).c1;have u2:=(uH h).c2
  have y:=uH A
  have f0:=y.free 0;have f1:=y.free 1;have f2:=y.free 2
  have s0:=y.c0;have s1:=y.c1;have s2:=y.c2
  have I:=y.put (.int .i64 0) (.int .i64 0) (.slice none 0 0)
  have O:=I.c0;have z1:=I.c1;have z2:=I.c2
  have Q:=aa (ai (uH t) (b:=w.heap.size+1+1) (by omega) (.int .i64 0) (.int .i64 0) (.slice none 0 0))
  clear I y
  go_wp2_with fail
  exact bodyPost_ret (v:=.tuple #[.agg #[.int .i64 0,.int .i64 0,.slice none 0 0],.int .i64 3]) (by simp[results,Tryz.results24,go_sem,O,z1,z2]) rfl ⟨rfl,uH Q⟩
 ·replace L:=L D N
  go_enter Tryz.func24,Tryz.ntmps24
  have F:=(uH f).c0;have G:=(uH f).c1;have H:=(uH f).c2;have u0:=(uH h).c0;have u1:=(uH h).c1;have u2:=(uH h).c2
  go_wp2_with fail
  clear F G H u0 u1 u2
  refine(uH Z _ (uH t)).mono ?_
  rintro e U ⟨rfl,l⟩
  replace f:=aa ((uH f).all l);replace h:=aa ((uH h).all l);replace A:=aa ((uH A).all l)
  replace t:=aa ((uH t).trans (l.mono (uH t).size))
  clear l
  have F:=(uH f).c0;have G:=(uH f).c1;have H:=(uH f).c2;have u0:=(uH h).c0;have u1:=(uH h).c1;have u2:=(uH h).c2
  go_wp2_with fail
  clear F G H u0 u1 u2
  refine(uH K2 _ (uH t)).mono ?_
  rintro e U ⟨rfl,l⟩
  replace f:=aa ((uH f).all l);replace h:=aa ((uH h).all l);replace A:=aa ((uH A).all l)
  replace t:=aa ((uH t).trans (l.mono (uH t).size))
  clear l
  have F:=(uH f).c0;have G:=(uH f).c1;have H:=(uH f).c2;have u0:=(uH h).c0;have u1:=(uH h).c1;have u2:=(uH h).c2
  have y:=uH A
  have f0:=y.free 0;have f1:=y.free 1;have f2:=y.free 2
  have s0:=y.c0;have s1:=y.c1;have s2:=y.c2
  have I:=y.put (.int .i64 0) (.int .i64 0) (.slice none 0 0)
  have O:=I.c0;have z1:=I.c1;have z2:=I.c2
  have Q:=aa (ai (uH t) (b:=w.heap.size+1+1) (by omega) (.int .i64 0) (.int .i64 0) (.slice none 0 0))
  clear I y
  go_wp2_with fail
  exact bodyPost_ret (v:=.tuple #[.agg #[.int .i64 0,.int .i64 0,.slice none 0 0],.int .i64 3]) (by simp[results,Tryz.results24,go_sem,O,z1,z2]) rfl ⟨rfl,uH Q⟩
theorem rB(r c q:Nat)(ao F:Option Addr)(k cap m d:Nat)(Q R:List Nat)(w:World)(M:c≤r)
  (O:∀h,Below w.heap.size w h→Calls Tryz.prog 19 #[.agg #[.int .i64 r,.int .i64 c,.slice ao k cap]] h fun e z=>e=.returned (.int .i64 0)∧Below h.heap.size h z)
  (U:∀h,Below w.heap.size w h→Calls Tryz.prog 19 #[.agg #[.int .i64 r,.int .i64 q,.slice F m d]] h fun e z=>e=.returned (.int .i64 0)∧Below h.heap.size h z)
  (V:∀h,Below w.heap.size w h→Calls Tryz.prog 74 #[.agg #[.int .i64 r,.int .i64 c,.slice ao k cap]] h fun e z=>ur z false r c c Q R e∧Below h.heap.size h z):
  Calls Tryz.prog 24 #[.agg #[.int .i64 r,.int .i64 c,.slice ao k cap],.agg #[.int .i64 r,.int .i64 q,.slice F m d]] w fun e h=>e=.returned (.tuple #[.agg #[.int .i64 0,.int .i64 0,.slice none 0 0],.int .i64 2])∧Below w.heap.size w h:=by
 have X:=aa (bp w (.int .i64 r) (.int .i64 c) (.slice ao k cap) (.int .i64 r) (.int .i64 q) (.slice F m d) (.int .i64 0) (.int .i64 0) (.slice none 0 0))
 obtain⟨Z,x0,x1,x2⟩:=uH X _ (by have:=Below.refl (((w.alloc (.cells #[.int .i64 r,.int .i64 c,.slice ao k cap] 24)).alloc (.cells #[.int .i64 r,.int .i64 q,.slice F m d] 24)).alloc (.cells #[.int .i64 0,.int .i64 0,.slice none 0 0] 24)).heap.size (((w.alloc (.cells #[.int .i64 r,.int .i64 c,.slice ao k cap] 24)).alloc (.cells #[.int .i64 r,.int .i64 q,.slice F m d] 24)).alloc (.cells #[.int .i64 0,.int .i64 0,.slice none 0 0] 24));simpa only[ad]using this)
 have l:=aa Z;have t:=aa x0;have y:=aa x1;have A:=aa x2
 have K1:=aa O;have K2:=aa U;have Y:=aa V
 clear O U V X Z x0 x1 x2
 have ae:¬(r:Int)<(c:Int):=by omega
 have aj:((r:Int) != (r:Int))=false:=by simp
 clear M
 go_enter Tryz.func24,Tryz.ntmps24
 have G:=(uH t).c0;have H:=(uH t).c1;have I:=(uH t).c2;have u0:=(uH y).c0;have u1:=(uH y).c1;have u2:=(uH y).c2
 go_wp2_with fail
 clear G H I u0 u1 u2
 refine(uH K1 _ (uH l)).mono ?_
 rintro e wn ⟨rfl,f⟩
 replace t:=aa ((uH t).all f);replace y:=aa ((uH y).all f);replace A:=aa ((uH A).all f)
 replace l:=aa ((uH l).trans (f.mono (uH l).size))
 clear f
 have G:=(uH t).c0;have H:=(uH t).c1;have I:=(uH t).c2;have u0:=(uH y).c0;have u1:=(uH y).c1;have u2:=(uH y).c2
 go_wp2_with fail
 clear G H I u0 u1 u2
 refine(uH K2 _ (uH l)).mono ?_
 rintro e wn ⟨rfl,f⟩
 replace t:=aa ((uH t).all f);replace y:=aa ((uH y).all f);replace A:=aa ((uH A).all f)
 replace l:=aa ((uH l).trans (f.mono (uH l).size))
 clear f
 have G:=(uH t).c0;have H:=(uH t).c1;have I:=(uH t).c2;have u0:=(uH y).c0;have u1:=(uH y).c1;have u2:=(uH y).c2
 go_wp2_with fail
 clear G H I u0 u1 u2
 refine(uH Y _ (uH l)).mono ?_
 rintro e w3 ⟨K,f⟩
 replace t:=aa ((uH t).all f);replace y:=aa ((uH y).all f);replace A:=aa ((uH A).all f)
 replace l:=aa ((uH l).trans (f.mono (uH l).size))
 clear f Y
 rcases K with⟨e0,_⟩|⟨_,rfl⟩
 ·cases e0
 have N:=ab w3 (.cells #[.int .i64 0,.int .i64 0,.slice none 0 0,.int .i64 0,.int .i64 0,.slice none 0 0,.bool false] 89)
 have HW:=aa (cg.new w3 (.int .i64 0) (.int .i64 0) (.slice none 0 0) (.int .i64 0) (.int .i64 0) (.slice none 0 0) (.bool false))
 replace A:=aa ((uH A).all N)
 replace l:=aa ((uH l).trans (N.mono (uH l).size))
 clear N t y
 have v6:=(uH HW).c6
 have D:=uH A
 have f0:=D.free 0;have f1:=D.free 1;have f2:=D.free 2
 have s0:=D.c0;have s1:=D.c1;have s2:=D.c2
 have L:=D.put (.int .i64 0) (.int .i64 0) (.slice none 0 0)
 have z0:=L.c0;have z1:=L.c1;have z2:=L.c2
 have BP:=aa (ai (uH l) (b:=w.heap.size+1+1) (by omega) (.int .i64 0) (.int .i64 0) (.slice none 0 0))
 clear L D
 go_wp2_with fail
 exact bodyPost_ret (v:=.tuple #[.agg #[.int .i64 0,.int .i64 0,.slice none 0 0],.int .i64 2]) (by simp[results,Tryz.results24,go_sem,z0,z1,z2]) rfl ⟨rfl,uH BP⟩
theorem ut(r c q:Nat)(ao K:Option Addr)(k cap m d:Nat)(Q R:List Nat)(w:World)(V:c≤r)
  (Y:∀h,Below w.heap.size w h→Calls Tryz.prog 19 #[.agg #[.int .i64 r,.int .i64 c,.slice ao k cap]] h fun e z=>e=.returned (.int .i64 0)∧Below h.heap.size h z)
  (Z:∀h,Below w.heap.size w h→Calls Tryz.prog 19 #[.agg #[.int .i64 r,.int .i64 q,.slice K m d]] h fun e z=>e=.returned (.int .i64 0)∧Below h.heap.size h z)
  (C3:∀h,Below w.heap.size w h→Calls Tryz.prog 74 #[.agg #[.int .i64 r,.int .i64 c,.slice ao k cap]] h fun e z=>ur z true r c c Q R e∧Below h.heap.size h z)
  (C4:∀h G H,Below w.heap.size w h→ac h G H (ar R)→Calls Tryz.prog 20 #[.agg #[.int .i64 c,.int .i64 c,.slice G R.length H]] h fun e z=>e=.returned (.bool true)∧Below h.heap.size h z):
  Calls Tryz.prog 24 #[.agg #[.int .i64 r,.int .i64 c,.slice ao k cap],.agg #[.int .i64 r,.int .i64 q,.slice K m d]] w fun e h=>e=.returned (.tuple #[.agg #[.int .i64 0,.int .i64 0,.slice none 0 0],.int .i64 5])∧Below w.heap.size w h:=by
 have KB:=aa (bp w (.int .i64 r) (.int .i64 c) (.slice ao k cap) (.int .i64 r) (.int .i64 q) (.slice K m d) (.int .i64 0) (.int .i64 0) (.slice none 0 0))
 obtain⟨b0,x0,x1,x2⟩:=uH KB _ (by have:=Below.refl (((w.alloc (.cells #[.int .i64 r,.int .i64 c,.slice ao k cap] 24)).alloc (.cells #[.int .i64 r,.int .i64 q,.slice K m d] 24)).alloc (.cells #[.int .i64 0,.int .i64 0,.slice none 0 0] 24)).heap.size (((w.alloc (.cells #[.int .i64 r,.int .i64 c,.slice ao k cap] 24)).alloc (.cells #[.int .i64 r,.int .i64 q,.slice K m d] 24)).alloc (.cells #[.int .i64 0,.int .i64 0,.slice none 0 0] 24));simpa only[ad]using this)
 have l:=aa b0;have t:=aa x0;have y:=aa x1;have A:=aa x2
 have K1:=aa Y;have K2:=aa Z;have K3:=aa C3;have K4:=aa C4
 clear Y Z C3 C4 KB b0 x0 x1 x2
 have ae:¬(r:Int)<(c:Int):=by omega
 have aj:((r:Int) != (r:Int))=false:=by simp
 clear V
 go_enter Tryz.func24,Tryz.ntmps24
 have L:=(uH t).c0;have M:=(uH t).c1;have N:=(uH t).c2;have u0:=(uH y).c0;have u1:=(uH y).c1;have u2:=(uH y).c2
 go_wp2_with fail
 clear L M N u0 u1 u2
 refine(uH K1 _ (uH l)).mono ?_
 rintro e wn ⟨rfl,f⟩
 replace t:=aa ((uH t).all f);replace y:=aa ((uH y).all f);replace A:=aa ((uH A).all f)
 replace l:=aa ((uH l).trans (f.mono (uH l).size))
 clear f
 have L:=(uH t).c0;have M:=(uH t).c1;have N:=(uH t).c2;have u0:=(uH y).c0;have u1:=(uH y).c1;have u2:=(uH y).c2
 go_wp2_with fail
 clear L M N u0 u1 u2
 refine(uH K2 _ (uH l)).mono ?_
 rintro e wn ⟨rfl,f⟩
 replace t:=aa ((uH t).all f);replace y:=aa ((uH y).all f);replace A:=aa ((uH A).all f)
 replace l:=aa ((uH l).trans (f.mono (uH l).size))
 clear f
 have L:=(uH t).c0;have M:=(uH t).c1;have N:=(uH t).c2;have u0:=(uH y).c0;have u1:=(uH y).c1;have u2:=(uH y).c2
 go_wp2_with fail
 clear L M N u0 u1 u2
 refine(uH K3 _ (uH l)).mono ?_
 rintro e w3 ⟨O,f⟩
 replace t:=aa ((uH t).all f);replace y:=aa ((uH y).all f);replace A:=aa ((uH A).all f)
 replace l:=aa ((uH l).trans (f.mono (uH l).size))
 clear f K3
 rcases O with⟨_,qo,qc,G,H,rfl,hq,hr⟩|⟨e0,_⟩
 rotate_left
 ·cases e0
 have F:=ab w3 (.cells #[.int .i64 r,.int .i64 c,.slice qo Q.length qc,.int .i64 c,.int .i64 c,.slice G R.length H,.bool true] 89)
 have I:=aa (cg.new w3 (.int .i64 r) (.int .i64 c) (.slice qo Q.length qc) (.int .i64 c) (.int .i64 c) (.slice G R.length H) (.bool true))
 have HQ:=aa (hq.below F);have X:=aa (hr.below F)
 replace t:=aa ((uH t).all F);replace y:=aa ((uH y).all F);replace A:=aa ((uH A).all F)
 replace l:=aa ((uH l).trans (F.mono (uH l).size))
 clear F hq hr
 have v3:=(uH I).c3;have v4:=(uH I).c4;have v5:=(uH I).c5;have v6:=(uH I).c6
 go_wp2_with fail
 clear v3 v4 v5 v6
 refine(uH K4 _ G H (uH l) (uH X)).mono ?_
 rintro e w4 ⟨rfl,f⟩
 replace I:=aa ((uH I).all f);replace HQ:=aa ((uH HQ).below f);replace X:=aa ((uH X).below f)
 replace t:=aa ((uH t).all f);replace y:=aa ((uH y).all f);replace A:=aa ((uH A).all f)
 replace l:=aa ((uH l).trans (f.mono (uH l).size))
 clear f K4
 have D:=uH A
 have f0:=D.free 0;have f1:=D.free 1;have f2:=D.free 2
 have s0:=D.c0;have s1:=D.c1;have s2:=D.c2
 have U:=D.put (.int .i64 0) (.int .i64 0) (.slice none 0 0)
 have z0:=U.c0;have z1:=U.c1;have z2:=U.c2
 have BP:=aa (ai (uH l) (b:=w.heap.size+1+1) (by omega) (.int .i64 0) (.int .i64 0) (.slice none 0 0))
 clear U D
 go_wp2_with fail
 exact bodyPost_ret (v:=.tuple #[.agg #[.int .i64 0,.int .i64 0,.slice none 0 0],.int .i64 5]) (by simp[results,Tryz.results24,go_sem,z0,z1,z2]) rfl ⟨rfl,uH BP⟩
theorem qj(r c q:Nat)(ao bo:Option Addr)(k cap m d:Nat)(Q R U Y M:List Nat)(n u:Nat)(f:Int)(w:World)(ax:c≤r)
  (C1:∀l,Below w.heap.size w l→Calls Tryz.prog 19 #[.agg #[.int .i64 r,.int .i64 c,.slice ao k cap]] l fun e D=>e=.returned (.int .i64 0)∧Below l.heap.size l D)
  (C2:∀l,Below w.heap.size w l→Calls Tryz.prog 19 #[.agg #[.int .i64 r,.int .i64 q,.slice bo m d]] l fun e D=>e=.returned (.int .i64 0)∧Below l.heap.size l D)
  (C3:∀l,Below w.heap.size w l→Calls Tryz.prog 74 #[.agg #[.int .i64 r,.int .i64 c,.slice ao k cap]] l fun e D=>ur D true r c c Q R e∧Below l.heap.size l D)
  (C4:∀l V X,Below w.heap.size w l→ac l V X (ar R)→Calls Tryz.prog 20 #[.agg #[.int .i64 c,.int .i64 c,.slice V R.length X]] l fun e D=>e=.returned (.bool false)∧Below l.heap.size l D)
  (C5:∀l qo qc,Below w.heap.size w l→ac l qo qc (ar Q)→Calls Tryz.prog 28 #[.agg #[.int .i64 r,.int .i64 c,.slice qo Q.length qc]] l fun e D=>∃uo tc,e=.returned (.agg #[.int .i64 c,.int .i64 r,.slice uo U.length tc])∧ac D uo tc (ar U)∧Below l.heap.size l D)
  (C6:∀l uo tc,Below w.heap.size w l→ac l uo tc (ar U)→Calls Tryz.prog 36 #[.agg #[.int .i64 c,.int .i64 r,.slice uo U.length tc],.agg #[.int .i64 r,.int .i64 q,.slice bo m d]] l fun e D=>∃yo yc,e=.returned (.agg #[.int .i64 c,.int .i64 q,.slice yo Y.length yc])∧ac D yo yc (ar Y)∧Below l.heap.size l D)
  (C7:∀l V X yo yc,Below w.heap.size w l→ac l V X (ar R)→ac l yo yc (ar Y)→Calls Tryz.prog 13 #[.agg #[.int .i64 c,.int .i64 c,.slice V R.length X],.agg #[.int .i64 c,.int .i64 q,.slice yo Y.length yc]] l fun e D=>(∃L N,e=.returned (.tuple #[.agg #[.int .i64 n,.int .i64 u,.slice L M.length N],.int .i64 f])∧ac D L N (ar M))∧Below l.heap.size l D):
  Calls Tryz.prog 24 #[.agg #[.int .i64 r,.int .i64 c,.slice ao k cap],.agg #[.int .i64 r,.int .i64 q,.slice bo m d]] w fun e l=>(∃L N,e=.returned (.tuple #[.agg #[.int .i64 n,.int .i64 u,.slice L M.length N],.int .i64 f])∧ac l L N (ar M))∧Below w.heap.size w l:=by
 have KB:=aa (bp w (.int .i64 r) (.int .i64 c) (.slice ao k cap) (.int .i64 r) (.int .i64 q) (.slice bo m d) (.int .i64 0) (.int .i64 0) (.slice none 0 0))
 obtain⟨b0,x0,x1,x2⟩:=uH KB _ (by have:=Below.refl (((w.alloc (.cells #[.int .i64 r,.int .i64 c,.slice ao k cap] 24)).alloc (.cells #[.int .i64 r,.int .i64 q,.slice bo m d] 24)).alloc (.cells #[.int .i64 0,.int .i64 0,.slice none 0 0] 24)).heap.size (((w.alloc (.cells #[.int .i64 r,.int .i64 c,.slice ao k cap] 24)).alloc (.cells #[.int .i64 r,.int .i64 q,.slice bo m d] 24)).alloc (.cells #[.int .i64 0,.int .i64 0,.slice none 0 0] 24));simpa only[ad]using this)
 have A:=aa b0;have I:=aa x0;have t:=aa x1;have H:=aa x2
 have K1:=aa C1;have K2:=aa C2;have K3:=aa C3;have K4:=aa C4;have K5:=aa C5;have K6:=aa C6;have K7:=aa C7
 clear C1 C2 C3 C4 C5 C6 C7 KB b0 x0 x1 x2
 have a2:¬(r:Int)<(c:Int):=by omega
 have a3:((r:Int) != (r:Int))=false:=by simp
 clear ax
 go_enter Tryz.func24,Tryz.ntmps24
 have y0:=(uH I).c0;have y1:=(uH I).c1;have y2:=(uH I).c2;have u0:=(uH t).c0;have u1:=(uH t).c1;have u2:=(uH t).c2
 go_wp2_with fail
 clear y0 y1 y2 u0 u1 u2
 refine(uH K1 _ (uH A)).mono ?_
 rintro e wn ⟨rfl,z⟩
 replace I:=aa ((uH I).all z);replace t:=aa ((uH t).all z);replace H:=aa ((uH H).all z)
 replace A:=aa ((uH A).trans (z.mono (uH A).size))
 clear z
 have y0:=(uH I).c0;have y1:=(uH I).c1;have y2:=(uH I).c2;have u0:=(uH t).c0;have u1:=(uH t).c1;have u2:=(uH t).c2
 go_wp2_with fail
 clear y0 y1 y2 u0 u1 u2
 refine(uH K2 _ (uH A)).mono ?_
 rintro e wn ⟨rfl,z⟩
 replace I:=aa ((uH I).all z);replace t:=aa ((uH t).all z);replace H:=aa ((uH H).all z)
 replace A:=aa ((uH A).trans (z.mono (uH A).size))
 clear z
 have y0:=(uH I).c0;have y1:=(uH I).c1;have y2:=(uH I).c2;have u0:=(uH t).c0;have u1:=(uH t).c1;have u2:=(uH t).c2
 go_wp2_with fail
 clear y0 y1 y2 u0 u1 u2
 refine(uH K3 _ (uH A)).mono ?_
 rintro e Z ⟨am,z⟩
 replace I:=aa ((uH I).all z);replace t:=aa ((uH t).all z);replace H:=aa ((uH H).all z)
 replace A:=aa ((uH A).trans (z.mono (uH A).size))
 clear z K3
 rcases am with⟨_,qo,qc,V,X,rfl,hq,hr⟩|⟨e0,_⟩
 rotate_left
 ·cases e0
 have ba:=ab Z (.cells #[.int .i64 r,.int .i64 c,.slice qo Q.length qc,.int .i64 c,.int .i64 c,.slice V R.length X,.bool true] 89)
 have aI:=aa (uH H).lt
 have y:=aa (cg.new Z (.int .i64 r) (.int .i64 c) (.slice qo Q.length qc) (.int .i64 c) (.int .i64 c) (.slice V R.length X) (.bool true))
 have HQ:=aa (hq.below ba);have O:=aa (hr.below ba)
 replace I:=aa ((uH I).all ba);replace t:=aa ((uH t).all ba);replace H:=aa ((uH H).all ba)
 replace A:=aa ((uH A).trans (ba.mono (uH A).size))
 clear ba hq hr
 have v3:=(uH y).c3;have v4:=(uH y).c4;have v5:=(uH y).c5;have v6:=(uH y).c6
 go_wp2_with fail
 clear v3 v4 v5 v6
 refine(uH K4 _ V X (uH A) (uH O)).mono ?_
 rintro e w4 ⟨rfl,z⟩
 replace y:=aa ((uH y).all z);replace HQ:=aa ((uH HQ).below z);replace O:=aa ((uH O).below z)
 replace I:=aa ((uH I).all z);replace t:=aa ((uH t).all z);replace H:=aa ((uH H).all z)
 replace A:=aa ((uH A).trans (z.mono (uH A).size))
 clear z K4
 clear I
 go_wp2_with fail
 have hd:=(Below.refl w4.heap.size w4).drew
 replace y:=aa ((uH y).all hd);replace t:=aa ((uH t).all hd);replace H:=aa ((uH H).all hd);replace O:=aa ((uH O).below hd);replace A:=aa ((uH A).trans (hd.mono (uH A).size))
 replace HQ:=aa ((uH HQ).below hd)
 clear hd
 refine wp_region_held_drew (S:=fun l=>(l.cell? ⟨Z.heap.size,0,none⟩=some (.int .i64 (r:Nat))∧l.cell? ⟨Z.heap.size,1,none⟩=some (.int .i64 (c:Nat))∧l.cell? ⟨Z.heap.size,2,none⟩=some (.slice qo Q.length qc)∧l.cell? ⟨Z.heap.size,3,none⟩=some (.int .i64 (c:Nat))∧l.cell? ⟨Z.heap.size,4,none⟩=some (.int .i64 (c:Nat))∧l.cell? ⟨Z.heap.size,5,none⟩=some (.slice V R.length X))∧l.cell? ⟨w.heap.size+1,0,none⟩=some (.int .i64 (r:Nat))∧l.cell? ⟨w.heap.size+1,1,none⟩=some (.int .i64 (q:Nat))∧l.cell? ⟨w.heap.size+1,2,none⟩=some (.slice bo m d)) (by kernel_rfl) ?_ (fun K=>?_)
 ·exact⟨⟨(uH y).c0,(uH y).c1,(uH y).c2,(uH y).c3,(uH y).c4,(uH y).c5⟩,(uH t).c0,(uH t).c1,(uH t).c2⟩
 refine wpAnyH_take (i:=0) (oi:={dst:=some 42,op:=Op.fieldAddr 89 (Operand.tmp 6) 1,type:=0,pos:= "ref.go:110",after:=#[],guard:=none}) (v:=(Value.pointer (some ⟨Z.heap.size,3,none⟩))) rfl (by kernel_rfl) (by kernel_rfl) (by kernel_rfl) (fun _ _ _ h=>h) (Or.inl ⟨by rfl,?_⟩) (by assumption) ?_
 ·(intro w F;(try dsimp only at F);go_simp)
 simp only[Act.put,List.setIfInBounds_toArray,List.set_cons_zero,List.set_cons_succ]
 refine wpAnyH_take (i:=1) (oi:={dst:=some 43,op:=Op.load 24 (Operand.tmp 42),type:=24,pos:= "ref.go:110",after:=#[{on:=0,ground:=Ground.data}],guard:=none}) (v:=Value.agg #[.int .i64 (c:Nat),.int .i64 (c:Nat),.slice V R.length X]) rfl (by kernel_rfl) (by kernel_rfl) (by kernel_rfl) (fun _ _ _ h=>h) (Or.inl ⟨by rfl,?_⟩) (by assumption) ?_
 ·(intro w F;(try dsimp only at F);go_simp)
 simp only[Act.put,List.setIfInBounds_toArray,List.set_cons_zero,List.set_cons_succ]
 refine wpAnyH_take (i:=2) (oi:={dst:=some 44,op:=Op.fieldAddr 89 (Operand.tmp 6) 0,type:=0,pos:= "ref.go:110",after:=#[],guard:=none}) (v:=(Value.pointer (some ⟨Z.heap.size,0,none⟩))) rfl (by kernel_rfl) (by kernel_rfl) (by kernel_rfl) (fun _ _ _ h=>h) (Or.inl ⟨by rfl,?_⟩) (by assumption) ?_
 ·(intro w F;(try dsimp only at F);go_simp)
 simp only[Act.put,List.setIfInBounds_toArray,List.set_cons_zero,List.set_cons_succ]
 refine wpAnyH_take (i:=3) (oi:={dst:=some 45,op:=Op.load 24 (Operand.tmp 44),type:=24,pos:= "ref.go:110",after:=#[{on:=2,ground:=Ground.data}],guard:=none}) (v:=Value.agg #[.int .i64 (r:Nat),.int .i64 (c:Nat),.slice qo Q.length qc]) rfl (by kernel_rfl) (by kernel_rfl) (by kernel_rfl) (fun _ _ _ h=>h) (Or.inl ⟨by rfl,?_⟩) (by assumption) ?_
 ·(intro w F;(try dsimp only at F);go_simp)
 simp only[Act.put,List.setIfInBounds_toArray,List.set_cons_zero,List.set_cons_succ]
 refine wpAnyH_take (i:=5) (oi:={dst:=some 47,op:=Op.load 24 (Operand.tmp 3),type:=24,pos:= "ref.go:110",after:=#[],guard:=none}) (v:=Value.agg #[.int .i64 (r:Nat),.int .i64 (q:Nat),.slice bo m d]) rfl (by kernel_rfl) (by kernel_rfl) (by kernel_rfl) (fun _ _ _ h=>h) (Or.inl ⟨by rfl,?_⟩) (by assumption) ?_
 ·(intro w F;(try dsimp only at F);go_simp)
 simp only[Act.put,List.setIfInBounds_toArray,List.set_cons_zero,List.set_cons_succ]
 refine wpAnyH_ready (rs:=[4]) (by kernel_rfl) (by simp) ?_
 refine AllReadyH.cons (o:={dst:=some 46,op:=Op.call {callee:=Callee.value (Operand.func 28),args:=#[Operand.tmp 45],argTypes:=#[24]},type:=24,pos:= "ref.go:110",after:=#[{on:=3,ground:=Ground.data}],guard:=none}) rfl (fun K0 G=>?_) AllReadyH.nil
 go_simp
 refine(uH K5 _ qo qc (uH A) (uH HQ)).mono ?_
 rintro e w5 ⟨a0,a1,rfl,ht,z⟩
 replace y:=aa ((uH y).all z);replace t:=aa ((uH t).all z);replace H:=aa ((uH H).all z);replace O:=aa ((uH O).below z);replace A:=aa ((uH A).trans (z.mono (uH A).size))
 have HU:=aa ht
 clear z ht K5 HQ
 go_wp2_with fail
 refine G.out _ _ ?_ (fun K=>?_)
 ·exact⟨⟨(uH y).c0,(uH y).c1,(uH y).c2,(uH y).c3,(uH y).c4,(uH y).c5⟩,(uH t).c0,(uH t).c1,(uH t).c2⟩
 clear G K0
 refine wpAnyH_ready (rs:=[6]) (by kernel_rfl) (by simp) ?_
 refine AllReadyH.cons (o:={dst:=some 48,op:=Op.call {callee:=Callee.value (Operand.func 36),args:=#[Operand.tmp 46,Operand.tmp 47],argTypes:=#[24,24]},type:=24,pos:= "ref.go:110",after:=#[{on:=4,ground:=Ground.data},{on:=5,ground:=Ground.data},{on:=4,ground:=Ground.chain}],guard:=none}) rfl (fun K0 G=>?_) AllReadyH.nil
 go_simp
 refine(uH K6 _ a0 a1 (uH A) (uH HU)).mono ?_
 rintro e w6 ⟨yo,yc,rfl,hy,z⟩
 replace y:=aa ((uH y).all z);replace t:=aa ((uH t).all z);replace H:=aa ((uH H).all z);replace O:=aa ((uH O).below z);replace A:=aa ((uH A).trans (z.mono (uH A).size))
 have aj:=aa hy
 clear z hy K6 HU
 go_wp2_with fail
 refine G.out _ _ ?_ (fun K=>?_)
 ·exact⟨⟨(uH y).c0,(uH y).c1,(uH y).c2,(uH y).c3,(uH y).c4,(uH y).c5⟩,(uH t).c0,(uH t).c1,(uH t).c2⟩
 clear G K0
 refine wpAnyH_ready (rs:=[7]) (by kernel_rfl) (by simp) ?_
 refine AllReadyH.cons (o:={dst:=some 49,op:=Op.call {callee:=Callee.value (Operand.func 13),args:=#[Operand.tmp 43,Operand.tmp 48],argTypes:=#[24,24]},type:=26,pos:= "ref.go:110",after:=#[{on:=1,ground:=Ground.data},{on:=6,ground:=Ground.data},{on:=6,ground:=Ground.chain}],guard:=none}) rfl (fun K0 G=>?_) AllReadyH.nil
 go_simp
 refine(uH K7 _ V X yo yc (uH A) (uH O) (uH aj)).mono ?_
 rintro e w7 ⟨⟨L,N,rfl,hx⟩,z⟩
 replace y:=aa ((uH y).all z);replace t:=aa ((uH t).all z);replace H:=aa ((uH H).all z);replace O:=aa ((uH O).below z);replace A:=aa ((uH A).trans (z.mono (uH A).size))
 have ak:=aa hx
 clear z hx K7 aj
 go_wp2_with fail
 refine G.out _ _ ?_ (fun K=>?_)
 ·exact⟨⟨(uH y).c0,(uH y).c1,(uH y).c2,(uH y).c3,(uH y).c4,(uH y).c5⟩,(uH t).c0,(uH t).c1,(uH t).c2⟩
 clear G K0
 refine wpAnyH_take (i:=8) (oi:={dst:=some 50,op:=Op.extract (Operand.tmp 49) 0,type:=24,pos:= "ref.go:110",after:=#[{on:=7,ground:=Ground.data}],guard:=none}) (v:=Value.agg #[.int .i64 (n:Nat),.int .i64 (u:Nat),.slice L M.length N]) rfl (by kernel_rfl) (by kernel_rfl) (by kernel_rfl) (fun _ _ _ h=>h) (Or.inl ⟨by rfl,?_⟩) (by assumption) ?_
 ·(intro w F;(try dsimp only at F);go_simp)
 simp only[Act.put,List.setIfInBounds_toArray,List.set_cons_zero,List.set_cons_succ]
 refine wpAnyH_take (i:=9) (oi:={dst:=some 51,op:=Op.extract (Operand.tmp 49) 1,type:=25,pos:= "ref.go:110",after:=#[{on:=7,ground:=Ground.data}],guard:=none}) (v:=(Value.int .i64 f)) rfl (by kernel_rfl) (by kernel_rfl) (by kernel_rfl) (fun _ _ _ h=>h) (Or.inl ⟨by rfl,?_⟩) (by assumption) ?_
 ·(intro w F;(try dsimp only at F);go_simp)
 simp only[Act.put,List.setIfInBounds_toArray,List.set_cons_zero,List.set_cons_succ]
 refine wpAnyH_ready (rs:=[10]) (by kernel_rfl) (by simp) ?_
 refine AllReadyH.cons (o:={dst:=none,op:=Op.store 24 (Operand.tmp 4) (Operand.tmp 50),type:=0,pos:= "ref.go:110",after:=#[{on:=8,ground:=Ground.data},{on:=7,ground:=Ground.chain},{on:=0,ground:=Ground.phase},{on:=1,ground:=Ground.phase},{on:=2,ground:=Ground.phase},{on:=3,ground:=Ground.phase},{on:=4,ground:=Ground.phase},{on:=5,ground:=Ground.phase},{on:=6,ground:=Ground.phase},{on:=7,ground:=Ground.phase},{on:=8,ground:=Ground.phase},{on:=9,ground:=Ground.phase}],guard:=none}) rfl (fun K0 G=>?_) AllReadyH.nil
 have X3:=uH H
 have f0:=X3.free 0;have f1:=X3.free 1;have f2:=X3.free 2
 have s0:=X3.c0;have s1:=X3.c1;have s2:=X3.c2
 have XP:=X3.put (.int .i64 n) (.int .i64 u) (.slice L M.length N)
 have BP:=aa (ai (uH A) (b:=w.heap.size+1+1) (by omega) (.int .i64 n) (.int .i64 u) (.slice L M.length N))
 have QX:=aa ((uH ak).putM X3 (.int .i64 n) (.int .i64 u) (.slice L M.length N))
 have XR:=aa XP
 replace t:=aa (((uH t).other (p:=⟨w.heap.size+1+1,0,none⟩) (by show w.heap.size+1≠w.heap.size+1+1;omega) (.int .i64 n)).other (p:=⟨w.heap.size+1+1,1,none⟩) (by show w.heap.size+1≠w.heap.size+1+1;omega) (.int .i64 u))
 replace t:=aa ((uH t).other (p:=⟨w.heap.size+1+1,2,none⟩) (by show w.heap.size+1≠w.heap.size+1+1;omega) (.slice L M.length N))
 have ae:Z.heap.size≠w.heap.size+1+1:=by have:=uH aI;omega
 replace y:=aa ((((uH y).other (p:=⟨w.heap.size+1+1,0,none⟩) ae (.int .i64 n)).other (p:=⟨w.heap.size+1+1,1,none⟩) ae (.int .i64 u)).other (p:=⟨w.heap.size+1+1,2,none⟩) ae (.slice L M.length N))
 clear X3 XP H A O ak ae
 go_simp
 clear f0 f1 f2 s0 s1 s2
 refine G.out _ _ ?_ (fun K=>?_)
 ·exact⟨⟨(uH y).c0,(uH y).c1,(uH y).c2,(uH y).c3,(uH y).c4,(uH y).c5⟩,(uH t).c0,(uH t).c1,(uH t).c2⟩
 clear G K0
 refine wpAnyH_take (i:=11) (oi:={dst:=some 5,op:=Op.assign (Operand.tmp 51),type:=25,pos:= "ref.go:110",after:=#[{on:=9,ground:=Ground.data},{on:=10,ground:=Ground.chain},{on:=0,ground:=Ground.phase},{on:=1,ground:=Ground.phase},{on:=2,ground:=Ground.phase},{on:=3,ground:=Ground.phase},{on:=4,ground:=Ground.phase},{on:=5,ground:=Ground.phase},{on:=6,ground:=Ground.phase},{on:=7,ground:=Ground.phase},{on:=8,ground:=Ground.phase},{on:=9,ground:=Ground.phase},{on:=10,ground:=Ground.phase}],guard:=none}) (v:=(Value.int .i64 f)) rfl (by kernel_rfl) (by kernel_rfl) (by kernel_rfl) (fun _ _ _ h=>h) (Or.inl ⟨by rfl,?_⟩) (by assumption) ?_
 ·(intro w F;(try dsimp only at F);go_simp)
 simp only[Act.put,List.setIfInBounds_toArray,List.set_cons_zero,List.set_cons_succ]
 refine wpAnyH_done (by kernel_rfl) ?_ _
 have z0:=(uH XR).c0;have z1:=(uH XR).c1;have z2:=(uH XR).c2
 clear XR y t
 go_wp2_with fail
 exact bodyPost_ret (v:=.tuple #[.agg #[.int .i64 n,.int .i64 u,.slice L M.length N],.int .i64 f]) (by simp[results,Tryz.results24,go_sem,z0,z1,z2]) rfl ⟨⟨L,N,rfl,uH QX⟩,uH BP⟩
theorem oL(r c:Int)(ao f:Option Addr)(cap d:Nat)(I:List Int)(w:World)(h:ac w ao cap I)(y:ac w f d I)(F:I.length≤17592186043904):
  Calls Tryz.prog 23 #[.agg #[.int .i64 r,.int .i64 c,.slice ao I.length cap],.agg #[.int .i64 r,.int .i64 c,.slice f I.length d]] w fun e D=>e=.returned (.bool true)∧Below w.heap.size w D:=by
 have m:=ab w (.cells #[.int .i64 r,.int .i64 c,.slice ao I.length cap] 24)
 have z:=ab (w.alloc (.cells #[.int .i64 r,.int .i64 c,.slice ao I.length cap] 24)) (.cells #[.int .i64 r,.int .i64 c,.slice f I.length d] 24)
 have l:=m.trans (z.mono m.size)
 have K:=aa (tr ao f cap d I _ (h.below l) (y.below l) (by omega))
 have A:=aa l
 clear m z l h y
 generalize I.length=n at*
 go_enter Tryz.func23,Tryz.ntmps23
 go_wp2_with fail
 refine Calls.mono (uH K) ?_
 rintro e G ⟨rfl,t⟩
 clear K
 go_wp2
 go_ret
 exact⟨rfl,(uH A).trans (t.mono (uH A).size)⟩
def xC(base H:Nat)(X:World→Prop):Prop:=(∀w' w'',X w'→Below w'.heap.size w' w''→X w'')∧∀w' g j z0 z,X w'→w'.cell? ⟨g,j,none⟩=some (.int .u64 z0)→base≤g→g<H→X (w'.setCell ⟨g,j,none⟩ (.int .u64 z))
structure kl (X:World→Prop) (w wr:World) (H g1 g2:Nat) (r c p q:Int) (ao bo:Option Addr) (n cap m d:Nat) (po qo:Option Addr) (pc qc:Nat):Prop where
 bel:Below w.heap.size w wr
 a:aq wr w.heap.size (.int .i64 r) (.int .i64 c) (.slice ao n cap)
 b:aq wr (w.heap.size+1) (.int .i64 p) (.int .i64 q) (.slice bo m d)
 pb:aq wr g1 (.int .i64 r) (.int .i64 c) (.slice po n pc)
 qb:aq wr g2 (.int .i64 p) (.int .i64 q) (.slice qo m qc)
 cp:ft (w.heap.size+2) H wr po n
 cq:ft (w.heap.size+2) H wr qo m
 x:X wr
 k:xC (w.heap.size+2) H X
theorem kl.all{X:World→Prop}{w wr l:World}{H t y:Nat}{r c p q:Int}{ao z:Option Addr}{n cap m d:Nat}{A D:Option Addr}{F G:Nat}(h:kl X w wr H t y r c p q ao z n cap m d A D F G)(f:Below wr.heap.size wr l):kl X w l H t y r c p q ao z n cap m d A D F G:=
 ⟨h.bel.trans (f.mono h.bel.size),h.a.all f,h.b.all f,h.pb.all f,h.qb.all f,h.cp.below f,h.cq.below f,h.k.1 _ _ h.x f,h.k⟩
theorem kl.set{X:World→Prop}{w wr:World}{H l t:Nat}{r c p q:Int}{ao y:Option Addr}{n cap m d:Nat}{A D:Option Addr}{F G:Nat}(h:kl X w wr H l t r c p q ao y n cap m d A D F G){g j:Nat}{I:Int}(f:wr.cell? ⟨g,j,none⟩=some (.int .u64 I))(K:w.heap.size+2≤g)(L:g<H)(z:Int):kl X w (wr.setCell ⟨g,j,none⟩ (.int .u64 z)) H l t r c p q ao y n cap m d A D F G:=
 ⟨h.bel.setCell (p:=⟨g,j,none⟩) (by show w.heap.size≤g;omega) _,h.a.other (p:=⟨g,j,none⟩) (h.a.away f) _,h.b.other (p:=⟨g,j,none⟩) (h.b.away f) _,h.pb.other (p:=⟨g,j,none⟩) (h.pb.away f) _,h.qb.other (p:=⟨g,j,none⟩) (h.qb.away f) _,h.cp.set g j z,h.cq.set g j z,h.k.2 _ _ _ _ _ h.x f K L,h.k⟩
theorem kl.putP{X:World→Prop}{w wr:World}{H t y:Nat}{r c p q:Int}{ao A:Option Addr}{n cap m d:Nat}{f D:Option Addr}{F G:Nat}(h:kl X w wr H t y r c p q ao A n cap m d f D F G){j:Nat}(L:j<n):∃g l,f=some ⟨g,0,none⟩∧wr.cell? ⟨g,j,none⟩=some (.int .u64 l)∧wr.frozen? ⟨g,j,none⟩=false∧∀z,kl X w (wr.setCell ⟨g,j,none⟩ (.int .u64 z)) H t y r c p q ao A n cap m d f D F G:=by
 obtain⟨g,M,N,O,I⟩:=h.cp.resolve_left (by omega)
 obtain⟨l,K⟩:=I.cell L
 exact⟨g,l,M,K,I.free j,fun z=>h.set K N O z⟩
theorem kl.putQ{X:World→Prop}{w wr:World}{H t y:Nat}{r c p q:Int}{ao A:Option Addr}{n cap m d:Nat}{D f:Option Addr}{F G:Nat}(h:kl X w wr H t y r c p q ao A n cap m d D f F G){j:Nat}(L:j<m):∃g l,f=some ⟨g,0,none⟩∧wr.cell? ⟨g,j,none⟩=some (.int .u64 l)∧wr.frozen? ⟨g,j,none⟩=false∧∀z,kl X w (wr.setCell ⟨g,j,none⟩ (.int .u64 z)) H t y r c p q ao A n cap m d D f F G:=by
 obtain⟨g,M,N,O,I⟩:=h.cq.resolve_left (by omega)
 obtain⟨l,K⟩:=I.cell L
 exact⟨g,l,M,K,I.free j,fun z=>h.set K N O z⟩
theorem xC.ans{d H g f p2:Nat}{l:Option Addr}{m:Nat}{S:List Nat}:xC d H (fun W=>jV W H g f p2 l m S):=⟨fun _ _ h t=>h.all t,fun _ _ _ _ z h y _ A=>h.put y A z⟩
theorem gF(r c:Int)(ao:Option Addr)(cap:Nat)(I:List Int)(p q:Int)(O:Option Addr)(d:Nat)(J:List Int)(X p2:Nat)(S:List Nat)(f:Int)(w:World)(hI:ac w ao cap I)(hl:I.length≤17592186043904)(hJ:ac w O d J)(a3:J.length≤17592186043904)
  (C2:∀l A D V Z,Below w.heap.size w l→ac l A D I→ac l V Z J→Calls Tryz.prog 22 #[.agg #[.int .i64 r,.int .i64 c,.slice A I.length D],.agg #[.int .i64 p,.int .i64 q,.slice V J.length Z]] l fun e F=>∃so sd,e=.returned (.tuple #[.agg #[.int .i64 X,.int .i64 p2,.slice so S.length sd],.int .i64 f])∧bH l.heap.size so (ar S)∧ac F so sd (ar S)∧Below l.heap.size l F)
  (C3:∀l,Below w.heap.size w l→Calls Tryz.prog 24 #[.agg #[.int .i64 r,.int .i64 c,.slice ao I.length cap],.agg #[.int .i64 p,.int .i64 q,.slice O J.length d]] l fun e F=>∃yo yc,e=.returned (.tuple #[.agg #[.int .i64 X,.int .i64 p2,.slice yo S.length yc],.int .i64 f])∧ac F yo yc (ar S)∧Below l.heap.size l F)
  (CS:∀l xo xc yo yc,ac l xo xc (ar S)→ac l yo yc (ar S)→Calls Tryz.prog 14 #[.agg #[.int .i64 X,.int .i64 p2,.slice xo S.length xc],.int .i64 f,.agg #[.int .i64 X,.int .i64 p2,.slice yo S.length yc],.int .i64 f] l fun e F=>e=.returned (.bool true)∧Below l.heap.size l F)
  (CA:∀l,Below w.heap.size w l→Calls Tryz.prog 15 #[] l fun e F=>e=.returned (.bool true)∧Below l.heap.size l F):
  Calls Tryz.prog 5 #[.agg #[.int .i64 r,.int .i64 c,.slice ao I.length cap],.agg #[.int .i64 p,.int .i64 q,.slice O J.length d]] w fun e l=>e=.returned (.bool true)∧Below w.heap.size w l:=by
 have K2:=aa C2;have K3:=aa C3;have KS:=aa CS;have KA:=aa CA
 clear C2 C3 CS CA
 have KB:=aa (dE w (.int .i64 r) (.int .i64 c) (.slice ao I.length cap) (.int .i64 p) (.int .i64 q) (.slice O J.length d))
 obtain⟨b0,K,L⟩:=uH KB ((w.alloc (.cells #[.int .i64 r,.int .i64 c,.slice ao I.length cap] 24)).alloc (.cells #[.int .i64 p,.int .i64 q,.slice O J.length d] 24)) (by have:=Below.refl ((w.alloc (.cells #[.int .i64 r,.int .i64 c,.slice ao I.length cap] 24)).alloc (.cells #[.int .i64 p,.int .i64 q,.slice O J.length d] 24)).heap.size ((w.alloc (.cells #[.int .i64 r,.int .i64 c,.slice ao I.length cap] 24)).alloc (.cells #[.int .i64 p,.int .i64 q,.slice O J.length d] 24));simpa only[ad]using this)
 have ae:=aa K;have bb:=aa L;have a4:=aa b0;have a5:=aa (show(((w.alloc (.cells #[.int .i64 r,.int .i64 c,.slice ao I.length cap] 24)).alloc (.cells #[.int .i64 p,.int .i64 q,.slice O J.length d] 24))).heap.size=w.heap.size+1+1 by simp only[ad])
 have K1:=aa (p8 r c ao cap I _ (hI.below b0) hl)
 have bc:=aa (fun l (t:Below w.heap.size w l)=>p8 p q O d J l (hJ.below t) a3)
 have a2:=aa (fun Y l A D (o:bD Y l (.slice A I.length D) (cn I))=>o.same hI)
 have aj:=aa (fun Y l A D (o:bD Y l (.slice A J.length D) (cn J))=>o.same hJ)
 have be:=aa (fun l A D (t:Below w.heap.size w l) (h:ac l A D I)=>oL r c A ao D cap I l h (hI.below t) hl)
 have bi:=aa (fun l A D (t:Below w.heap.size w l) (h:ac l A D J)=>oL p q A O D d J l h (hJ.below t) a3)
 have bw:=aa (show I.length≤35184372088830 by omega);have bx:=aa (show J.length≤35184372088830 by omega)
 clear KB b0 K L hI hl hJ a3
 generalize bt:I.length=Q at*
 generalize bv:J.length=U at*
 have bj:=aa bt;have bm:=aa bv
 clear bt bv
 go_enter Tryz.func5,Tryz.ntmps5
 have y0:=(uH ae).c0;have y1:=(uH ae).c1;have y2:=(uH ae).c2
 go_wp2_with fail
 clear y0 y1 y2
 refine Calls.mono (uH K1) ?_
 rintro e w1 ⟨A,D,rfl,M,a1⟩
 have ak:=(uH a4).trans (a1.mono (uH a4).size)
 have y:=ab w1 (.cells #[.int .i64 r,.int .i64 c,.slice A Q D] 24)
 have zz:=ad w1 (.cells #[.int .i64 r,.int .i64 c,.slice A Q D] 24)
 have Q1:=aa ((uH a2 _ _ _ _ M).below y)
 have CP:=aa (((by rw[←uH bj]at M;have:=M.copy;rw[uH bj]at this;exact this:ft _ w1.heap.size w1 A Q).base (show w.heap.size+2≤_ from Nat.le_of_eq (uH a5).symm)).below y)
 have BX:=aa (aq.new w1 (.int .i64 r) (.int .i64 c) (.slice A Q D))
 have A1:=aa (((uH ae).all a1).all y);have A2:=aa (((uH bb).all a1).all y)
 have B1:=aa (ak.trans (y.mono ak.size))
 have bn:=aa (show w.heap.size+2≤w1.heap.size by have:=a1.size;have:=uH a5;omega)
 have ZZ:=aa zz
 clear M a1 ak y zz K1 ae bb a4 a2
 have K:=(uH A2).c0;have L:=(uH A2).c1;have x2:=(uH A2).c2
 go_wp2_with fail
 clear K L x2
 refine(uH bc _ (uH B1)).mono ?_
 rintro e H ⟨V,Z,rfl,N,G⟩
 have am:=(uH B1).trans (G.mono (uH B1).size)
 have y:=ab H (.cells #[.int .i64 p,.int .i64 q,.slice V U Z] 24)
 have bq:=ad H (.cells #[.int .i64 p,.int .i64 q,.slice V U Z] 24)
 have Q2:=aa ((uH aj _ _ _ _ N).below y)
 have CQ:=aa (((by rw[←uH bm]at N;have:=N.copy;rw[uH bm]at this;exact this:ft _ H.heap.size H V U).base (show w.heap.size+2≤_ by have:=uH bn;have:=uH ZZ;omega)).below y)
 replace CP:=aa (((((uH CP).upto (H':=H.heap.size) (by have:=G.size;have:=uH ZZ;omega))).below G).below y)
 replace Q1:=aa (((uH Q1).below G).below y)
 replace BX:=aa (((uH BX).all G).all y)
 have BY:=aa (aq.new H (.int .i64 p) (.int .i64 q) (.slice V U Z))
 replace A1:=aa (((uH A1).all G).all y);replace A2:=aa (((uH A2).all G).all y)
 have B2:=aa (am.trans (y.mono am.size))
 have br:=aa (show H.heap.size≤_ from Nat.le_trans (Nat.le_succ _) (Nat.le_of_eq bq.symm))
 clear N G am y B1 bc aj ZZ bq a5
 have y0:=(uH BX).c0;have y1:=(uH BX).c1;have y2:=(uH BX).c2
 have K:=(uH BY).c0;have L:=(uH BY).c1;have x2:=(uH BY).c2
 go_wp2_with fail
 clear y0 y1 y2 K L x2
 refine(uH K2 _ A D V Z (uH B2) (by exact uH Q1) (by exact uH Q2)).mono ?_
 rintro e w3 ⟨so,sd,rfl,ns,qs,t⟩
 have y:=ab w3 (.cells #[.int .i64 X,.int .i64 p2,.slice so S.length sd] 24)
 have ax:=(uH B2).trans (t.mono (uH B2).size)
 have m:=aa (show kl (fun W=>jV W H.heap.size w3.heap.size X p2 so sd S) w (w3.alloc (.cells #[.int .i64 X,.int .i64 p2,.slice so S.length sd] 24)) H.heap.size w1.heap.size H.heap.size r c p q ao O Q cap U d A V D Z from⟨ax.trans (y.mono ax.size),((uH A1).all t).all y,((uH A2).all t).all y,((uH BX).all t).all y,((uH BY).all t).all y,((uH CP).below t).below y,((uH CQ).below t).below y,⟨aq.new w3 _ _ _,qs.below y,bH.least ns (uH br)⟩,xC.ans⟩)
 replace Q1:=aa (((uH Q1).below t).below y);replace Q2:=aa (((uH Q2).below t).below y)
 clear ns qs t y ax A1 A2 BX BY CP CQ B2 K2 bn br
 have y0:=(uH m).pb.c0;have y1:=(uH m).pb.c1;have y2:=(uH m).pb.c2;have K:=(uH m).a.c0;have L:=(uH m).a.c1;have x2:=(uH m).a.c2
 go_wp2_with fail
 clear y0 y1 y2 K L x2
 refine Calls.mono (uH be _ A D (uH m).bel (uH Q1)) ?_
 rintro e w5 ⟨rfl,t⟩
 replace m:=aa ((uH m).all t);replace Q2:=aa ((uH Q2).below t)
 clear t be Q1
 have y0:=(uH m).qb.c0;have y1:=(uH m).qb.c1;have y2:=(uH m).qb.c2;have K:=(uH m).b.c0;have L:=(uH m).b.c1;have x2:=(uH m).b.c2
 go_wp2_with fail
 clear y0 y1 y2 K L x2
 refine Calls.mono (uH bi _ V Z (uH m).bel (uH Q2)) ?_
 rintro e w6 ⟨rfl,t⟩
 replace m:=aa ((uH m).all t)
 clear t bi Q2
 go_wp2_with fail
 go_loopw[9] (fun a wr=>∃j:Nat,j≤Q∧a=.int .i64 j∧Hid (kl (fun W=>jV W H.heap.size w3.heap.size X p2 so sd S) w wr H.heap.size w1.heap.size H.heap.size r c p q ao O Q cap U d A V D Z)) (fun a _=>Q-(intOf a).toNat)
 case atStart=>exact⟨0,Nat.zero_le _,rfl,m⟩
 case round=>
  clear m
  obtain⟨j,hj,rfl,hX⟩:=hrel
  have t2:=(uH hX).pb.c2
  by_cases a6:j<Q
  ·have aI:(j:Int)<(Q:Int):=by omega
   have bz:=uH bw
   obtain⟨g,z0,rfl,cz,fz,a0⟩:=(uH hX).putP a6
   have a7:=aa (fun z=>a0 z)
   clear a0 hX
   go_wp2_with fail
   go_region_with fail
   all_goals
    go_wp2_with fail
    go_round
    case rel=>exact⟨j+1,by omega,by go_num,aa ((uH a7 _).all (Below.refl _ _).drew)⟩
    case measure=>simp[intOf];omega
  ·have a9:j=Q:=by omega
   have aI:¬((j:Int)<(Q:Int)):=by omega
   have m:=hX
   clear hX a9
   go_wp2_with fail
   clear t2 aI
   go_loopw[10] (fun a wr=>∃j:Nat,j≤U∧a=.int .i64 j∧Hid (kl (fun W=>jV W H.heap.size w3.heap.size X p2 so sd S) w wr H.heap.size w1.heap.size H.heap.size r c p q ao O Q cap U d A V D Z)) (fun a _=>U-(intOf a).toNat)
   case atStart=>exact⟨0,Nat.zero_le _,rfl,m⟩
   case round=>
    clear m
    obtain⟨j,hj,rfl,hX⟩:=hrel
    have t2:=(uH hX).qb.c2
    by_cases a6:j<U
    ·have aI:(j:Int)<(U:Int):=by omega
     have bz:=uH bx
     obtain⟨g,z0,rfl,cz,fz,a0⟩:=(uH hX).putQ a6
     have a7:=aa (fun z=>a0 z)
     clear a0 hX
     go_wp2_with fail
     go_region_with fail
     all_goals
      go_wp2_with fail
      go_round
      case rel=>exact⟨j+1,by omega,by go_num,aa ((uH a7 _).all (Below.refl _ _).drew)⟩
      case measure=>simp[intOf];omega
    ·have a9:j=U:=by omega
     have aI:¬((j:Int)<(U:Int)):=by omega
     have m:=hX
     clear hX a9
     have y0:=(uH m).a.c0;have y1:=(uH m).a.c1;have y2:=(uH m).a.c2;have K:=(uH m).b.c0;have L:=(uH m).b.c1;have x2:=(uH m).b.c2
     go_wp2_with fail
     clear t2 aI
     clear y0 y1 y2 K L x2
     refine(uH K3 _ (uH m).bel).mono ?_
     rintro e w7 ⟨yo,yc,rfl,hy,t⟩
     have y:=ab w7 (.cells #[.int .i64 X,.int .i64 p2,.slice yo S.length yc] 24)
     have XY:=aa (aq.new w7 (.int .i64 X) (.int .i64 p2) (.slice yo S.length yc))
     have HY:=aa (hy.below y)
     replace m:=aa (((uH m).all t).all y)
     clear t y hy K3
     have y0:=(uH m).x.box.c0;have y1:=(uH m).x.box.c1;have y2:=(uH m).x.box.c2;have K:=(uH XY).c0;have L:=(uH XY).c1;have x2:=(uH XY).c2
     go_wp2_with fail
     clear y0 y1 y2 K L x2
     refine(uH KS _ so sd yo yc (uH m).x.bits (uH HY)).mono ?_
     rintro e w8 ⟨rfl,t⟩
     have BE:=aa ((uH m).bel.trans (t.mono (uH m).bel.size))
     clear t m XY HY KS
     go_wp2_with fail
     refine(uH KA _ (uH BE)).mono ?_
     rintro e w9 ⟨rfl,t⟩
     replace BE:=aa ((uH BE).trans (t.mono (uH BE).size))
     clear t KA
     go_wp2
     go_ret
     exact⟨rfl,uH BE⟩
end Go.Proofs.YtlnphkioddknfaaGreatDoor
namespace Go.Proofs.YtlnphkioddknfaaGreatDoor
open Go.RowKit
theorem gR.new{w t:World}{f:Int}{n q:Nat}{M:List Nat}{e:Ending}(h:gR w t f n q M e):∃d m,e=.returned (.tuple #[.agg #[.int .i64 ((if f=0 then n else 0:Nat):Int),.int .i64 ((if f=0 then q else 0:Nat):Int),.slice d (if f=0 then M else []).length m],.int .i64 f])∧bH w.heap.size d (ar (if f=0 then M else []))∧ac t d m (ar (if f=0 then M else [])):=by
 rcases h with⟨rfl,d,m,rfl,y,z,A,_⟩|⟨l,rfl⟩
 ·refine⟨d,m,?_,?_,?_⟩
  ·rw[if_pos rfl,if_pos rfl,if_pos rfl,A]
  ·rw[if_pos rfl];exact y
  ·rw[if_pos rfl];exact z
 ·refine⟨none,0,?_,?_,?_⟩
  ·rw[if_neg l,if_neg l,if_neg l];rfl
  ·rw[if_neg l];exact .inl rfl
  ·rw[if_neg l];exact ac.none t 0
theorem zO(r c q h A:Nat)(F D:Option Addr)(S B:List Nat)(w:World)(G:Mx w F h r c S)(Q:Mx w D A r q B)(fS:bG S=true)(fB:bG B=true)(y:c≤r):
  Calls Tryz.prog 24 #[.agg #[.int .i64 r,.int .i64 c,.slice F S.length h],.agg #[.int .i64 r,.int .i64 q,.slice D B.length A]] w fun e d=>(∃xo xc,e=.returned (.tuple #[.agg #[.int .i64 ((if pk r c q S B=0 then c else 0:Nat):Int),.int .i64 ((if pk r c q S B=0 then q else 0:Nat):Int),.slice xo (if pk r c q S B=0 then zU r c q S B else []).length xc],.int .i64 (pk r c q S B)])∧ac d xo xc (ar (if pk r c q S B=0 then zU r c q S B else [])))∧Below w.heap.size w d:=by
 have r6:=G.2.2.1;have t:=G.2.2.2;have q6:=Q.2.2.2
 have hm:min r c=c:=by omega
 have sS:=G.small;have sB:=Q.small
 have C1:∀d,Below w.heap.size w d→Calls Tryz.prog 19 #[.agg #[.int .i64 r,.int .i64 c,.slice F S.length h]] d fun e f=>e=.returned (.int .i64 0)∧Below d.heap.size d f:=fun d l=>by
  have:=cD r c F h (ar S) d (G.1.below l) (by rw[al];omega)
  rw[jx G fS,al]at this
  exact this
 have C2:∀d,Below w.heap.size w d→Calls Tryz.prog 19 #[.agg #[.int .i64 r,.int .i64 q,.slice D B.length A]] d fun e f=>e=.returned (.int .i64 0)∧Below d.heap.size d f:=fun d l=>by
  have:=cD r q D A (ar B) d (Q.1.below l) (by rw[al];omega)
  rw[jx Q fB,al]at this
  exact this
 have eQ:JD r c S=oI r c S:=by unfold JD oI;rw[hm]
 have eR:JE r c S=i8 r c S:=by unfold JE i8;rw[hm]
 have N:=fun d (l:Below w.heap.size w d)=>us r c h F S d (G.below l)
 rw[eQ,eR,hm]at N
 cases hk:iX r c S with
 |false=>
  have e2:pk r c q S B=2:=by unfold pk;rw[hk];rfl
  rw[hk]at N
  rw[e2]
  simp only[if_neg (show¬((2:Int)=0) by decide)]
  refine(rB r c q F D S.length h B.length A _ _ w y C1 C2 N).mono ?_
  rintro e d ⟨rfl,l⟩
  exact⟨⟨none,0,rfl,ac.none d 0⟩,l⟩
 |true=>
  rw[hk]at N
  have fT:=xB G.2.1 y hk
  have lT:(i8 r c S).length=c*c:=by unfold i8 qX;exact bg _ _ _
  have lQ:(oI r c S).length=r*c:=by unfold oI qX;exact bg _ _ _
  have lY:(jO r c q S B).length=c*q:=by unfold jO FH;exact bg _ _ _
  have U:=fun d H I (l:Below w.heap.size w d) (O:ac d H I (ar (i8 r c S)))=>uq c c I H (i8 r c S) d ⟨O,lT,t,t⟩
  have C5:∀d X Y,Below w.heap.size w d→ac d X Y (ar (oI r c S))→Calls Tryz.prog 28 #[.agg #[.int .i64 r,.int .i64 c,.slice X (oI r c S).length Y]] d fun e f=>∃K h,e=.returned (.agg #[.int .i64 c,.int .i64 r,.slice K (mH r c (oI r c S)).length h])∧ac f K h (ar (mH r c (oI r c S)))∧Below d.heap.size d f:=fun d X Y l hq=>by
   refine(zc r c Y X (oI r c S) d ⟨hq,lQ,r6,t⟩).mono ?_
   rintro e f ⟨v,rfl,⟨po,pc,rfl,_,V⟩,m⟩
   exact⟨po,pc,rfl,V,m⟩
  have C6:∀d K h,Below w.heap.size w d→ac d K h (ar (mH r c (oI r c S)))→Calls Tryz.prog 36 #[.agg #[.int .i64 c,.int .i64 r,.slice K (mH r c (oI r c S)).length h],.agg #[.int .i64 r,.int .i64 q,.slice D B.length A]] d fun e f=>∃L M,e=.returned (.agg #[.int .i64 c,.int .i64 q,.slice L (jO r c q S B).length M])∧ac f L M (ar (jO r c q S B))∧Below d.heap.size d f:=fun d K h l hu=>by
   refine(wz c r q h A K D (mH r c (oI r c S)) B d ⟨hu,bg _ _ _,t,r6⟩ (Q.below l)).mono ?_
   rintro e f ⟨v,rfl,⟨po,pc,rfl,_,V⟩,m⟩
   exact⟨po,pc,rfl,V,m⟩
  cases hf:DB c c (i8 r c S)with
  |true=>
   have e5:pk r c q S B=5:=by unfold pk;rw[hk,hf];rfl
   rw[hf]at U
   rw[e5]
   simp only[if_neg (show¬((5:Int)=0) by decide)]
   refine(ut r c q F D S.length h B.length A _ _ w y C1 C2 N U).mono ?_
   rintro e d ⟨rfl,l⟩
   exact⟨⟨none,0,rfl,ac.none d 0⟩,l⟩
  |false=>
   rw[hf]at U
   cases hy2:bG (jO r c q S B)with
   |true=>
    have eU:pk r c q S B=Gg c (i8 r c S) (rx c q (i8 r c S) (jO r c q S B)):=by unfold pk;rw[hk,hf,hy2];rfl
    rw[eU,show zU r c q S B=rx c q (i8 r c S) (jO r c q S B)from rfl]
    refine qj r c q F D S.length h B.length A _ _ _ (jO r c q S B) _ _ _ _ w y C1 C2 N U C5 C6 (fun d H I L M l O Z=>?_)
    refine(uk c q I M H L (i8 r c S) (jO r c q S B) d ⟨O,lT,t,t⟩ ⟨Z,lY,t,q6⟩ fT hy2).mono ?_
    rintro e f ⟨z,m⟩
    exact⟨z.one,m⟩
   |false=>
    have ae:pk r c q S B=4:=by unfold pk;rw[hk,hf,hy2];rfl
    rw[ae]
    simp only[if_neg (show¬((4:Int)=0) by decide)]
    refine qj r c q F D S.length h B.length A _ _ _ (jO r c q S B) _ _ _ _ w y C1 C2 N U C5 C6 (fun d H I L M l O Z=>?_)
    have e4:dO c c c q (ar (i8 r c S)) (ar (jO r c q S B))=4:=by
     have h1:gG (c:Int) (c:Int) (ar (i8 r c S))=0:=jx (w:=d) (ao:=H) (cap:=I) ⟨O,lT,t,t⟩ fT
     have V:gG (c:Int) (q:Int) (ar (jO r c q S B))=4:=by
      unfold gG
      have aj:Mx d L M c q (jO r c q S B):=⟨Z,lY,t,q6⟩
      rw[al,kT aj]
      have:fu (ar (jO r c q S B)) (jO r c q S B).length=false:=hy2
      rw[this]
      rfl
     unfold dO ml
     rw[h1,V]
     rfl
    have ak:c*c≤36:=Nat.mul_le_mul t t
    have am:c*q≤36:=Nat.mul_le_mul t q6
    have:=ui c c c q H L I M (ar (i8 r c S)) (ar (jO r c q S B)) d O Z (by rw[al,lT];omega) (by rw[al,lY];omega) (by rw[e4];decide)
    rw[e4,al,al]at this
    refine this.mono ?_
    rintro e f ⟨z,m⟩
    exact⟨by have:=z.one;simpa only[if_neg (show¬((4:Int)=0) by decide)]using this,m⟩
theorem qk{S:List Nat}(h:∀x∈S,aC x=true):bG S=true:=by
 rw[kZ]
 intro k d
 rw[List.getD_eq_getElem?_getD,List.getElem?_eq_getElem d]
 exact h _ (List.getElem_mem d)
theorem JB{r c p q:Int}{I J:List Int}(h:ml r c I p q J≠0):(gG r c I=1∨gG r c I=4)∨(gG r c I=0∧(gG p q J=1∨gG p q J=4)):=by
 unfold ml at h
 rcases eg r c I with e|e|e
 ·rw[if_pos e]at h
  rcases eg p q J with d|d|d
  ·exact absurd d h
  ·exact .inr ⟨e,.inl d⟩
  ·exact .inr ⟨e,.inr d⟩
 ·exact .inl (.inl e)
 ·exact .inl (.inr e)
theorem lO(r c:Int)(ao:Option Addr)(cap:Nat)(I:List Int)(p s:Int)(M:Option Addr)(d:Nat)(J:List Int)(w:World)(Z:ac w ao cap I)(hl:I.length≤17592186043904)(_hr:-9223372036854775808≤r∧r≤9223372036854775807)(_hc:-9223372036854775808≤c∧c≤9223372036854775807)(hJ:ac w M d J)(V:J.length≤17592186043904)(_hp:-9223372036854775808≤p∧p≤9223372036854775807)(_hs:-9223372036854775808≤s∧s≤9223372036854775807)(hT:b7 w):
  Calls Tryz.prog 5 #[.agg #[.int .i64 r,.int .i64 c,.slice ao I.length cap],.agg #[.int .i64 p,.int .i64 s,.slice M J.length d]] w fun e m=>e=.returned (.bool true)∧Below w.heap.size w m:=by
 have KA:=um w hT
 have ae:∀m A D N O (f:Int),ac m A D (ar [])→ac m N O (ar [])→Calls Tryz.prog 14 #[.agg #[.int .i64 ((0:Nat):Int),.int .i64 ((0:Nat):Int),.slice A ([]:List Nat).length D],.int .i64 f,.agg #[.int .i64 ((0:Nat):Int),.int .i64 ((0:Nat):Int),.slice N ([]:List Nat).length O],.int .i64 f] m fun e h=>e=.returned (.bool true)∧Below m.heap.size m h:=fun m A D N O f y z=>oJ _ _ _ D O A N [] m y z (Nat.zero_le _)
 have CK:=fun m G H K L (y:ac m G H I) (z:ac m K L J)=>fun h (t:Below m.heap.size m h)=>gQ r c p s G K H L I J h (y.below t) (z.below t) (by omega) (by omega)
 have R1:=fun m (t:Below w.heap.size w m)=>cD r c ao cap I m (Z.below t) (by omega)
 have R2:=fun m (t:Below w.heap.size w m)=>cD p s M d J m (hJ.below t) (by omega)
 by_cases U:ml r c I p s J=0
 ·have X:gG r c I=0:=by
   unfold ml at U
   by_cases e:gG r c I=0
   ·exact e
   ·rw[if_neg e]at U;exact U
  have aj:gG p s J=0:=by
   unfold ml at U
   rwa[if_pos X]at U
  by_cases ak:r<c∨(¬r<c∧¬r=p)
  ·rw[X]at R1
   rw[aj]at R2
   refine gF r c ao cap I p s M d J 0 0 [] 3 w Z hl hJ V (fun m G H K L t y z=>?_) (fun m t=>?_) (fun m A D N O y z=>ae m A D N O 3 y z) KA
   ·refine(uf r c p s I.length H J.length L G K m ak (fun h l=>?_)).mono ?_
    ·have:=CK m G H K L y z h l
     rw[U]at this
     exact this
    ·rintro e h ⟨rfl,l⟩
     exact⟨none,0,rfl,.inl rfl,ac.none h 0,l⟩
   ·refine(rA r c p s ao M I.length cap J.length d m ak (fun h l=>R1 h (t.trans (l.mono t.size))) (fun h l=>R2 h (t.trans (l.mono t.size)))).mono ?_
    rintro e h ⟨rfl,l⟩
    exact⟨none,0,rfl,ac.none h 0,l⟩
  ·obtain⟨n,F,e1,e2,Y,eI,fI⟩:=Mx.asked Z X
   obtain⟨n2,q,e3,e4,Q,eJ,fJ⟩:=Mx.asked hJ aj
   have a1:n2=n:=by omega
   have am:F≤n:=by omega
   rw[a1]at Q e3
   have lI:(cn I).length=I.length:=by rw[←al,eI]
   have lJ:(cn J).length=J.length:=by rw[←al,eJ]
   have ax:=qk fI;have aI:=qk fJ
   subst e1 e2 e3 e4
   refine gF n F ao cap I n q M d J (if pk n F q (cn I) (cn J)=0 then F else 0) (if pk n F q (cn I) (cn J)=0 then q else 0) (if pk n F q (cn I) (cn J)=0 then zU n F q (cn I) (cn J)else []) (pk n F q (cn I) (cn J)) w Z hl hJ V (fun m G H K L t y z=>?_) (fun m t=>?_) (fun m A D N O y z=>oJ _ _ _ D O A N _ m y z ?_) KA
   ·have m1:Mx m G H n F (cn I):=⟨by rw[eI];exact y,Y.2⟩
    have m2:Mx m K L n q (cn J):=⟨by rw[eJ];exact z,Q.2⟩
    have:=ul n F q H L G K (cn I) (cn J) m m1 m2 ax aI am (hT.all t)
    rw[lI,lJ]at this
    refine this.mono ?_
    rintro e h ⟨a0,l⟩
    obtain⟨A,D,rfl,k1,k2⟩:=a0.new
    exact⟨A,D,rfl,k1,k2,l⟩
   ·have:=zO n F q cap d ao M (cn I) (cn J) m (Y.below t) (Q.below t) ax aI am
    rw[lI,lJ]at this
    refine this.mono ?_
    rintro e h ⟨⟨A,D,rfl,k⟩,l⟩
    exact⟨A,D,rfl,k,l⟩
   ·split
    ·have e:(zU n F q (cn I) (cn J)).length=F*q:=mL _ _ _ _ _ _
     have:F*q≤36:=Nat.mul_le_mul Y.2.2.2 Q.2.2.2
     omega
    ·exact Nat.zero_le _
 ·refine gF r c ao cap I p s M d J 0 0 [] (ml r c I p s J) w Z hl hJ V (fun m G H K L t y z=>?_) (fun m t=>?_) (fun m A D N O y z=>ae m A D N O _ y z) KA
  ·refine(zJ r c p s (ml r c I p s J) I.length H J.length L G K m ?_ (fun h l=>CK m G H K L y z h l)).mono ?_
   ·unfold ml
    rcases JB U with(e|e)|⟨e,e'|e'⟩
    ·rw[e,if_neg (by decide)];exact .inl rfl
    ·rw[e,if_neg (by decide)];exact .inr rfl
    ·rw[if_pos e];exact .inl e'
    ·rw[if_pos e];exact .inr e'
   ·rintro e h ⟨rfl,l⟩
    exact⟨none,0,rfl,.inl rfl,ac.none h 0,l⟩
  ·rcases JB U with he|⟨he,a2⟩
   ·have e0:ml r c I p s J=gG r c I:=by
     unfold ml
     rcases he with e|e<;>rw[e,if_neg (by decide)]
    rw[e0]
    refine(wA r c p s (gG r c I) ao M I.length cap J.length d m he (fun h l=>R1 h (t.trans (l.mono t.size)))).mono ?_
    rintro e h ⟨rfl,l⟩
    exact⟨none,0,rfl,ac.none h 0,l⟩
   ·have e0:ml r c I p s J=gG p s J:=by
     unfold ml
     rw[if_pos he]
    rw[e0]
    rw[he]at R1
    refine(wB r c p s (gG p s J) ao M I.length cap J.length d m a2 (fun h l=>R1 h (t.trans (l.mono t.size))) (fun h l=>R2 h (t.trans (l.mono t.size)))).mono ?_
    rintro e h ⟨rfl,l⟩
    exact⟨none,0,rfl,ac.none h 0,l⟩
end Go.Proofs.YtlnphkioddknfaaGreatDoor
namespace Go.Proofs.YtlnphkioddknfaaGreatDoor
open Go.ChangeShapes Go.WideShapes Go.ChangeAt Go.RowKit Go.Joins
theorem Tryz.own:ownKnob Tryz.prog.godebug=none:=by kernel_rfl
theorem Tryz.laidOut:laidOutB Tryz.prog=true:=by kernel_rfl
end Go.Proofs.YtlnphkioddknfaaGreatDoor
namespace Go.Proofs.YtlnphkioddknfaaGreatDoor
theorem jW{x:Int}(h:(Lit.int .i64 x).wf=true):-9223372036854775808≤x∧x≤9223372036854775807:=by
 simp[Lit.wf,IntKind.min,IntKind.max,IntKind.signed,IntKind.bits]at h
 omega
end Go.Proofs.YtlnphkioddknfaaGreatDoor
