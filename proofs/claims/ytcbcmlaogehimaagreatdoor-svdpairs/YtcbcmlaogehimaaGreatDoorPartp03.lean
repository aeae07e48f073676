/- Part 3 of the texts. -/
import Derived.Test.YtcbcmlaogehimaaGreatDoorPartp02
set_option maxHeartbeats 4000000
namespace Go.Proofs.YtcbcmlaogehimaaGreatDoor
open Go.RowKit
theorem cn{d:World}{g:Nat}{x y z:Value}(A:cu d g x y z):∀u,Below d.heap.size d u→Below d.heap.size d u∧u.cell? ⟨g,0,none⟩=some x∧u.cell? ⟨g,1,none⟩=some y∧u.cell? ⟨g,2,none⟩=some z:=fun _ h=>⟨h,(A.all h).c0,(A.all h).c1,(A.all h).c2⟩
theorem eW{u z d:World}{p:Prop}(h:Below u.heap.size u z∧p)(A:Below z.heap.size z d):Below u.heap.size u d:=h.1.trans (A.mono h.1.size)
theorem cT{w d u:World}{p:Prop}(z:Hid (Below w.heap.size w d))(h:Below d.heap.size d u∧p):Below w.heap.size w u:=z.out.trans (h.1.mono z.out.size)
theorem d9(w:World):Calls Tryz.prog 200 #[.int .u64 0] w fun e d=>e=.returned (.agg #[.bool false,.int .u64 0,.int .u64 0])∧Below w.heap.size w d:=by
 have h:=fO 0 w (by decide)
 simpa[fV,fS,fP,fF]using h
theorem eY(w:World):Calls Tryz.prog 200 #[.int .u64 9223372036854775808] w fun e d=>e=.returned (.agg #[.bool true,.int .u64 0,.int .u64 0])∧Below w.heap.size w d:=by
 have h:=fO 9223372036854775808 w (by decide)
 simpa[fV,fS,fP,fF]using h
theorem gl(w:World):Calls Tryz.prog 200 #[.int .u64 9218868437227405312] w fun e d=>e=.returned (.agg #[.bool false,.int .u64 2047,.int .u64 0])∧Below w.heap.size w d:=by
 have h:=fO 9218868437227405312 w (by decide)
 simpa[fV,fS,fP,fF]using h
theorem gN(w:World):Calls Tryz.prog 200 #[.int .u64 18442240474082181120] w fun e d=>e=.returned (.agg #[.bool true,.int .u64 2047,.int .u64 0])∧Below w.heap.size w d:=by
 have h:=fO 18442240474082181120 w (by decide)
 simpa[fV,fS,fP,fF]using h
theorem FP(b:Nat)(w:World)(C:∀h,Calls Tryz.prog 200 #[.int .u64 b] h fun e u=>e=.returned (.agg #[.bool false,.int .u64 0,.int .u64 0])∧Below h.heap.size h u):
  Calls Tryz.prog 164 #[.int .u64 b] w fun e h=>e=.returned (.int .i64 0)∧Below w.heap.size w h:=by
 have I:=ac d9
 have A:=ac C
 clear C
 go_enter Tryz.func164,Tryz.ntmps164
 go_wp2_with fail
 refine(uH A _).mono ?_
 rintro e F ⟨rfl,d⟩
 clear A
 go_wp2
 refine ap (fun W=>Below w.heap.size w W∧cu W F.heap.size (.bool false) (.int .u64 0) (.int .u64 0)) ⟨d.alloc d.size _,cu.new _ _ _ _⟩ ?_
 rintro G ⟨H,z⟩
 clear d
 generalize F.heap.size=g at*
 have D:=ac (cn z);have J:=ac H;have K:=ac z;clear z H
 go_region_held3(fun h=>Below G.heap.size G h∧h.cell? ⟨g,0,none⟩=some (.bool false)∧h.cell? ⟨g,1,none⟩=some (.int .u64 0)∧h.cell? ⟨g,2,none⟩=some (.int .u64 0))
  (first|exact uH D _ (Below.refl _ _).drew|exact uH D _ (by assumption)|fail "NO KEEP")
  (first|(go_at_call 200;refine(uH I _).mono ?_;rintro e O ⟨rfl,d⟩;have L:=eW (by assumption) d;clear d)|fail "NO ARM")
 go_wp2
 go_ret
 exact⟨rfl,cT J (by assumption)⟩
theorem FQ(b:Nat)(w:World)(C:∀h,Calls Tryz.prog 200 #[.int .u64 b] h fun e J=>e=.returned (.agg #[.bool false,.int .u64 2047,.int .u64 0])∧Below h.heap.size h J):
  Calls Tryz.prog 164 #[.int .u64 b] w fun e h=>e=.returned (.int .i64 3)∧Below w.heap.size w h:=by
 have F:=ac d9
 have G:=ac eY
 have H:=ac gl
 have L:=ac C
 clear C
 go_enter Tryz.func164,Tryz.ntmps164
 go_wp2_with fail
 refine(uH L _).mono ?_
 rintro e O ⟨rfl,d⟩
 clear L
 go_wp2
 refine ap (fun W=>Below w.heap.size w W∧cu W O.heap.size (.bool false) (.int .u64 2047) (.int .u64 0)) ⟨d.alloc d.size _,cu.new _ _ _ _⟩ ?_
 rintro A ⟨D,u⟩
 clear d
 generalize O.heap.size=g at*
 have z:=ac (cn u);have I:=ac D;have K:=ac u;clear u D
 iterate 2 (go_region_held3(fun h=>Below A.heap.size A h∧h.cell? ⟨g,0,none⟩=some (.bool false)∧h.cell? ⟨g,1,none⟩=some (.int .u64 2047)∧h.cell? ⟨g,2,none⟩=some (.int .u64 0))
  (first|exact uH z _ (Below.refl _ _).drew|exact uH z _ (by assumption)|fail "NO KEEP")
  (first|(go_at_call 200;(first|(refine(uH F _).mono ?_;clear F)|(refine(uH G _).mono ?_;clear G)|(refine(uH H _).mono ?_;clear H));rintro e U ⟨rfl,d⟩;have Q:=eW (by assumption) d;clear d)|fail "NO ARM");go_wp2;refine ap (fun W=>Below w.heap.size w W∧cu W g (.bool false) (.int .u64 2047) (.int .u64 0)) ⟨cT I (by assumption),(uH K).all (And.left (by assumption))⟩ ?_;clear z I K;rintro A ⟨D,u⟩;have z:=ac (cn u);have I:=ac D;have K:=ac u;clear u D)
 go_region_held3(fun h=>Below A.heap.size A h∧h.cell? ⟨g,0,none⟩=some (.bool false)∧h.cell? ⟨g,1,none⟩=some (.int .u64 2047)∧h.cell? ⟨g,2,none⟩=some (.int .u64 0))
  (first|exact uH z _ (Below.refl _ _).drew|exact uH z _ (by assumption)|fail "NO KEEP")
  (first|(go_at_call 200;(first|(refine(uH F _).mono ?_;clear F)|(refine(uH G _).mono ?_;clear G)|(refine(uH H _).mono ?_;clear H));rintro e U ⟨rfl,d⟩;have Q:=eW (by assumption) d;clear d)|fail "NO ARM")
 go_wp2
 go_ret
 exact⟨rfl,cT I (by assumption)⟩
theorem FR(b:Nat)(f:Nat)(w:World)(C:∀h,Calls Tryz.prog 200 #[.int .u64 b] h fun e K=>e=.returned (.agg #[.bool false,.int .u64 0,.int .u64 f])∧Below h.heap.size h K)(Y:((f:Int)==0)=false):
  Calls Tryz.prog 164 #[.int .u64 b] w fun e h=>e=.returned (.int .i64 1)∧Below w.heap.size w h:=by
 have F:=ac d9
 have G:=ac eY
 have H:=ac gl
 have I:=ac gN
 have O:=ac C
 clear C
 go_enter Tryz.func164,Tryz.ntmps164
 go_wp2_with fail
 refine(uH O _).mono ?_
 rintro e Q ⟨rfl,d⟩
 clear O
 go_wp2
 refine ap (fun W=>Below w.heap.size w W∧cu W Q.heap.size (.bool false) (.int .u64 0) (.int .u64 f)) ⟨d.alloc d.size _,cu.new _ _ _ _⟩ ?_
 rintro A ⟨D,u⟩
 clear d
 generalize Q.heap.size=g at*
 have z:=ac (cn u);have J:=ac D;have L:=ac u;clear u D
 iterate 3 (go_region_held3(fun h=>Below A.heap.size A h∧h.cell? ⟨g,0,none⟩=some (.bool false)∧h.cell? ⟨g,1,none⟩=some (.int .u64 0)∧h.cell? ⟨g,2,none⟩=some (.int .u64 f))
  (first|exact uH z _ (Below.refl _ _).drew|exact uH z _ (by assumption)|fail "NO KEEP")
  (first|(go_at_call 200;(first|(refine(uH F _).mono ?_;clear F)|(refine(uH G _).mono ?_;clear G)|(refine(uH H _).mono ?_;clear H)|(refine(uH I _).mono ?_;clear I));rintro e X ⟨rfl,d⟩;have U:=eW (by assumption) d;clear d)|fail "NO ARM");go_wp2;refine ap (fun W=>Below w.heap.size w W∧cu W g (.bool false) (.int .u64 0) (.int .u64 f)) ⟨cT J (by assumption),(uH L).all (And.left (by assumption))⟩ ?_;clear z J L;rintro A ⟨D,u⟩;have z:=ac (cn u);have J:=ac D;have L:=ac u;clear u D)
 go_region_held3(fun h=>Below A.heap.size A h∧h.cell? ⟨g,0,none⟩=some (.bool false)∧h.cell? ⟨g,1,none⟩=some (.int .u64 0)∧h.cell? ⟨g,2,none⟩=some (.int .u64 f))
  (first|exact uH z _ (Below.refl _ _).drew|exact uH z _ (by assumption)|fail "NO KEEP")
  (first|(go_at_call 200;(first|(refine(uH F _).mono ?_;clear F)|(refine(uH G _).mono ?_;clear G)|(refine(uH H _).mono ?_;clear H)|(refine(uH I _).mono ?_;clear I));rintro e X ⟨rfl,d⟩;have U:=eW (by assumption) d;clear d)|fail "NO ARM")
 go_wp2
 go_ret
 exact⟨rfl,cT J (by assumption)⟩
theorem FS(b:Nat)(f:Nat)(w:World)(C:∀h,Calls Tryz.prog 200 #[.int .u64 b] h fun e K=>e=.returned (.agg #[.bool false,.int .u64 2047,.int .u64 f])∧Below h.heap.size h K)(Y:((f:Int)==0)=false):
  Calls Tryz.prog 164 #[.int .u64 b] w fun e h=>e=.returned (.int .i64 4)∧Below w.heap.size w h:=by
 have F:=ac d9
 have G:=ac eY
 have H:=ac gl
 have I:=ac gN
 have O:=ac C
 clear C
 go_enter Tryz.func164,Tryz.ntmps164
 go_wp2_with fail
 refine(uH O _).mono ?_
 rintro e Q ⟨rfl,d⟩
 clear O
 go_wp2
 refine ap (fun W=>Below w.heap.size w W∧cu W Q.heap.size (.bool false) (.int .u64 2047) (.int .u64 f)) ⟨d.alloc d.size _,cu.new _ _ _ _⟩ ?_
 rintro A ⟨D,u⟩
 clear d
 generalize Q.heap.size=g at*
 have z:=ac (cn u);have J:=ac D;have L:=ac u;clear u D
 iterate 3 (go_region_held3(fun h=>Below A.heap.size A h∧h.cell? ⟨g,0,none⟩=some (.bool false)∧h.cell? ⟨g,1,none⟩=some (.int .u64 2047)∧h.cell? ⟨g,2,none⟩=some (.int .u64 f))
  (first|exact uH z _ (Below.refl _ _).drew|exact uH z _ (by assumption)|fail "NO KEEP")
  (first|(go_at_call 200;(first|(refine(uH F _).mono ?_;clear F)|(refine(uH G _).mono ?_;clear G)|(refine(uH H _).mono ?_;clear H)|(refine(uH I _).mono ?_;clear I));rintro e X ⟨rfl,d⟩;have U:=eW (by assumption) d;clear d)|fail "NO ARM");go_wp2;refine ap (fun W=>Below w.heap.size w W∧cu W g (.bool false) (.int .u64 2047) (.int .u64 f)) ⟨cT J (by assumption),(uH L).all (And.left (by assumption))⟩ ?_;clear z J L;rintro A ⟨D,u⟩;have z:=ac (cn u);have J:=ac D;have L:=ac u;clear u D)
 go_region_held3(fun h=>Below A.heap.size A h∧h.cell? ⟨g,0,none⟩=some (.bool false)∧h.cell? ⟨g,1,none⟩=some (.int .u64 2047)∧h.cell? ⟨g,2,none⟩=some (.int .u64 f))
  (first|exact uH z _ (Below.refl _ _).drew|exact uH z _ (by assumption)|fail "NO KEEP")
  (first|(go_at_call 200;(first|(refine(uH F _).mono ?_;clear F)|(refine(uH G _).mono ?_;clear G)|(refine(uH H _).mono ?_;clear H)|(refine(uH I _).mono ?_;clear I));rintro e X ⟨rfl,d⟩;have U:=eW (by assumption) d;clear d)|fail "NO ARM")
 go_wp2
 go_ret
 exact⟨rfl,cT J (by assumption)⟩
theorem FT(b:Nat)(p:Nat)(f:Nat)(w:World)(C:∀h,Calls Tryz.prog 200 #[.int .u64 b] h fun e K=>e=.returned (.agg #[.bool false,.int .u64 p,.int .u64 f])∧Below h.heap.size h K)(Y:((p:Int)==0)=false)(Z:((p:Int)==2047)=false):
  Calls Tryz.prog 164 #[.int .u64 b] w fun e h=>e=.returned (.int .i64 2)∧Below w.heap.size w h:=by
 have F:=ac d9
 have G:=ac eY
 have H:=ac gl
 have I:=ac gN
 have O:=ac C
 clear C
 go_enter Tryz.func164,Tryz.ntmps164
 go_wp2_with fail
 refine(uH O _).mono ?_
 rintro e Q ⟨rfl,d⟩
 clear O
 go_wp2
 refine ap (fun W=>Below w.heap.size w W∧cu W Q.heap.size (.bool false) (.int .u64 p) (.int .u64 f)) ⟨d.alloc d.size _,cu.new _ _ _ _⟩ ?_
 rintro A ⟨D,u⟩
 clear d
 generalize Q.heap.size=g at*
 have z:=ac (cn u);have J:=ac D;have L:=ac u;clear u D
 iterate 3 (go_region_held3(fun h=>Below A.heap.size A h∧h.cell? ⟨g,0,none⟩=some (.bool false)∧h.cell? ⟨g,1,none⟩=some (.int .u64 p)∧h.cell? ⟨g,2,none⟩=some (.int .u64 f))
  (first|exact uH z _ (Below.refl _ _).drew|exact uH z _ (by assumption)|fail "NO KEEP")
  (first|(go_at_call 200;(first|(refine(uH F _).mono ?_;clear F)|(refine(uH G _).mono ?_;clear G)|(refine(uH H _).mono ?_;clear H)|(refine(uH I _).mono ?_;clear I));rintro e X ⟨rfl,d⟩;have U:=eW (by assumption) d;clear d)|fail "NO ARM");go_wp2;refine ap (fun W=>Below w.heap.size w W∧cu W g (.bool false) (.int .u64 p) (.int .u64 f)) ⟨cT J (by assumption),(uH L).all (And.left (by assumption))⟩ ?_;clear z J L;rintro A ⟨D,u⟩;have z:=ac (cn u);have J:=ac D;have L:=ac u;clear u D)
 go_region_held3(fun h=>Below A.heap.size A h∧h.cell? ⟨g,0,none⟩=some (.bool false)∧h.cell? ⟨g,1,none⟩=some (.int .u64 p)∧h.cell? ⟨g,2,none⟩=some (.int .u64 f))
  (first|exact uH z _ (Below.refl _ _).drew|exact uH z _ (by assumption)|fail "NO KEEP")
  (first|(go_at_call 200;(first|(refine(uH F _).mono ?_;clear F)|(refine(uH G _).mono ?_;clear G)|(refine(uH H _).mono ?_;clear H)|(refine(uH I _).mono ?_;clear I));rintro e X ⟨rfl,d⟩;have U:=eW (by assumption) d;clear d)|fail "NO ARM")
 go_wp2
 go_ret
 exact⟨rfl,cT J (by assumption)⟩
theorem FU(b:Nat)(w:World)(C:∀h,Calls Tryz.prog 200 #[.int .u64 b] h fun e I=>e=.returned (.agg #[.bool true,.int .u64 0,.int .u64 0])∧Below h.heap.size h I):
  Calls Tryz.prog 164 #[.int .u64 b] w fun e h=>e=.returned (.int .i64 0)∧Below w.heap.size w h:=by
 have F:=ac d9
 have G:=ac eY
 have K:=ac C
 clear C
 go_enter Tryz.func164,Tryz.ntmps164
 go_wp2_with fail
 refine(uH K _).mono ?_
 rintro e L ⟨rfl,d⟩
 clear K
 go_wp2
 refine ap (fun W=>Below w.heap.size w W∧cu W L.heap.size (.bool true) (.int .u64 0) (.int .u64 0)) ⟨d.alloc d.size _,cu.new _ _ _ _⟩ ?_
 rintro A ⟨D,u⟩
 clear d
 generalize L.heap.size=g at*
 have z:=ac (cn u);have H:=ac D;have J:=ac u;clear u D
 iterate 1 (go_region_held3(fun h=>Below A.heap.size A h∧h.cell? ⟨g,0,none⟩=some (.bool true)∧h.cell? ⟨g,1,none⟩=some (.int .u64 0)∧h.cell? ⟨g,2,none⟩=some (.int .u64 0))
  (first|exact uH z _ (Below.refl _ _).drew|exact uH z _ (by assumption)|fail "NO KEEP")
  (first|(go_at_call 200;(first|(refine(uH F _).mono ?_;clear F)|(refine(uH G _).mono ?_;clear G));rintro e Q ⟨rfl,d⟩;have O:=eW (by assumption) d;clear d)|fail "NO ARM");go_wp2;refine ap (fun W=>Below w.heap.size w W∧cu W g (.bool true) (.int .u64 0) (.int .u64 0)) ⟨cT H (by assumption),(uH J).all (And.left (by assumption))⟩ ?_;clear z H J;rintro A ⟨D,u⟩;have z:=ac (cn u);have H:=ac D;have J:=ac u;clear u D)
 go_region_held3(fun h=>Below A.heap.size A h∧h.cell? ⟨g,0,none⟩=some (.bool true)∧h.cell? ⟨g,1,none⟩=some (.int .u64 0)∧h.cell? ⟨g,2,none⟩=some (.int .u64 0))
  (first|exact uH z _ (Below.refl _ _).drew|exact uH z _ (by assumption)|fail "NO KEEP")
  (first|(go_at_call 200;(first|(refine(uH F _).mono ?_;clear F)|(refine(uH G _).mono ?_;clear G));rintro e Q ⟨rfl,d⟩;have O:=eW (by assumption) d;clear d)|fail "NO ARM")
 go_wp2
 go_ret
 exact⟨rfl,cT H (by assumption)⟩
theorem FW(b:Nat)(w:World)(C:∀h,Calls Tryz.prog 200 #[.int .u64 b] h fun e K=>e=.returned (.agg #[.bool true,.int .u64 2047,.int .u64 0])∧Below h.heap.size h K):
  Calls Tryz.prog 164 #[.int .u64 b] w fun e h=>e=.returned (.int .i64 3)∧Below w.heap.size w h:=by
 have F:=ac d9
 have G:=ac eY
 have H:=ac gl
 have I:=ac gN
 have O:=ac C
 clear C
 go_enter Tryz.func164,Tryz.ntmps164
 go_wp2_with fail
 refine(uH O _).mono ?_
 rintro e Q ⟨rfl,d⟩
 clear O
 go_wp2
 refine ap (fun W=>Below w.heap.size w W∧cu W Q.heap.size (.bool true) (.int .u64 2047) (.int .u64 0)) ⟨d.alloc d.size _,cu.new _ _ _ _⟩ ?_
 rintro A ⟨D,u⟩
 clear d
 generalize Q.heap.size=g at*
 have z:=ac (cn u);have J:=ac D;have L:=ac u;clear u D
 iterate 3 (go_region_held3(fun h=>Below A.heap.size A h∧h.cell? ⟨g,0,none⟩=some (.bool true)∧h.cell? ⟨g,1,none⟩=some (.int .u64 2047)∧h.cell? ⟨g,2,none⟩=some (.int .u64 0))
  (first|exact uH z _ (Below.refl _ _).drew|exact uH z _ (by assumption)|fail "NO KEEP")
  (first|(go_at_call 200;(first|(refine(uH F _).mono ?_;clear F)|(refine(uH G _).mono ?_;clear G)|(refine(uH H _).mono ?_;clear H)|(refine(uH I _).mono ?_;clear I));rintro e X ⟨rfl,d⟩;have U:=eW (by assumption) d;clear d)|fail "NO ARM");go_wp2;refine ap (fun W=>Below w.heap.size w W∧cu W g (.bool true) (.int .u64 2047) (.int .u64 0)) ⟨cT J (by assumption),(uH L).all (And.left (by assumption))⟩ ?_;clear z J L;rintro A ⟨D,u⟩;have z:=ac (cn u);have J:=ac D;have L:=ac u;clear u D)
 go_region_held3(fun h=>Below A.heap.size A h∧h.cell? ⟨g,0,none⟩=some (.bool true)∧h.cell? ⟨g,1,none⟩=some (.int .u64 2047)∧h.cell? ⟨g,2,none⟩=some (.int .u64 0))
  (first|exact uH z _ (Below.refl _ _).drew|exact uH z _ (by assumption)|fail "NO KEEP")
  (first|(go_at_call 200;(first|(refine(uH F _).mono ?_;clear F)|(refine(uH G _).mono ?_;clear G)|(refine(uH H _).mono ?_;clear H)|(refine(uH I _).mono ?_;clear I));rintro e X ⟨rfl,d⟩;have U:=eW (by assumption) d;clear d)|fail "NO ARM")
 go_wp2
 go_ret
 exact⟨rfl,cT J (by assumption)⟩
theorem FX(b:Nat)(f:Nat)(w:World)(C:∀h,Calls Tryz.prog 200 #[.int .u64 b] h fun e K=>e=.returned (.agg #[.bool true,.int .u64 0,.int .u64 f])∧Below h.heap.size h K)(Y:((f:Int)==0)=false):
  Calls Tryz.prog 164 #[.int .u64 b] w fun e h=>e=.returned (.int .i64 1)∧Below w.heap.size w h:=by
 have F:=ac d9
 have G:=ac eY
 have H:=ac gl
 have I:=ac gN
 have O:=ac C
 clear C
 go_enter Tryz.func164,Tryz.ntmps164
 go_wp2_with fail
 refine(uH O _).mono ?_
 rintro e Q ⟨rfl,d⟩
 clear O
 go_wp2
 refine ap (fun W=>Below w.heap.size w W∧cu W Q.heap.size (.bool true) (.int .u64 0) (.int .u64 f)) ⟨d.alloc d.size _,cu.new _ _ _ _⟩ ?_
 rintro A ⟨D,u⟩
 clear d
 generalize Q.heap.size=g at*
 have z:=ac (cn u);have J:=ac D;have L:=ac u;clear u D
 iterate 3 (go_region_held3(fun h=>Below A.heap.size A h∧h.cell? ⟨g,0,none⟩=some (.bool true)∧h.cell? ⟨g,1,none⟩=some (.int .u64 0)∧h.cell? ⟨g,2,none⟩=some (.int .u64 f))
  (first|exact uH z _ (Below.refl _ _).drew|exact uH z _ (by assumption)|fail "NO KEEP")
  (first|(go_at_call 200;(first|(refine(uH F _).mono ?_;clear F)|(refine(uH G _).mono ?_;clear G)|(refine(uH H _).mono ?_;clear H)|(refine(uH I _).mono ?_;clear I));rintro e X ⟨rfl,d⟩;have U:=eW (by assumption) d;clear d)|fail "NO ARM");go_wp2;refine ap (fun W=>Below w.heap.size w W∧cu W g (.bool true) (.int .u64 0) (.int .u64 f)) ⟨cT J (by assumption),(uH L).all (And.left (by assumption))⟩ ?_;clear z J L;rintro A ⟨D,u⟩;have z:=ac (cn u);have J:=ac D;have L:=ac u;clear u D)
 go_region_held3(fun h=>Below A.heap.size A h∧h.cell? ⟨g,0,none⟩=some (.bool true)∧h.cell? ⟨g,1,none⟩=some (.int .u64 0)∧h.cell? ⟨g,2,none⟩=some (.int .u64 f))
  (first|exact uH z _ (Below.refl _ _).drew|exact uH z _ (by assumption)|fail "NO KEEP")
  (first|(go_at_call 200;(first|(refine(uH F _).mono ?_;clear F)|(refine(uH G _).mono ?_;clear G)|(refine(uH H _).mono ?_;clear H)|(refine(uH I _).mono ?_;clear I));rintro e X ⟨rfl,d⟩;have U:=eW (by assumption) d;clear d)|fail "NO ARM")
 go_wp2
 go_ret
 exact⟨rfl,cT J (by assumption)⟩
theorem FY(b:Nat)(f:Nat)(w:World)(C:∀h,Calls Tryz.prog 200 #[.int .u64 b] h fun e K=>e=.returned (.agg #[.bool true,.int .u64 2047,.int .u64 f])∧Below h.heap.size h K)(Y:((f:Int)==0)=false):
  Calls Tryz.prog 164 #[.int .u64 b] w fun e h=>e=.returned (.int .i64 4)∧Below w.heap.size w h:=by
 have F:=ac d9
 have G:=ac eY
 have H:=ac gl
 have I:=ac gN
 have O:=ac C
 clear C
 go_enter Tryz.func164,Tryz.ntmps164
 go_wp2_with fail
 refine(uH O _).mono ?_
 rintro e Q ⟨rfl,d⟩
 clear O
 go_wp2
 refine ap (fun W=>Below w.heap.size w W∧cu W Q.heap.size (.bool true) (.int .u64 2047) (.int .u64 f)) ⟨d.alloc d.size _,cu.new _ _ _ _⟩ ?_
 rintro A ⟨D,u⟩
 clear d
 generalize Q.heap.size=g at*
 have z:=ac (cn u);have J:=ac D;have L:=ac u;clear u D
 iterate 3 (go_region_held3(fun h=>Below A.heap.size A h∧h.cell? ⟨g,0,none⟩=some (.bool true)∧h.cell? ⟨g,1,none⟩=some (.int .u64 2047)∧h.cell? ⟨g,2,none⟩=some (.int .u64 f))
  (first|exact uH z _ (Below.refl _ _).drew|exact uH z _ (by assumption)|fail "NO KEEP")
  (first|(go_at_call 200;(first|(refine(uH F _).mono ?_;clear F)|(refine(uH G _).mono ?_;clear G)|(refine(uH H _).mono ?_;clear H)|(refine(uH I _).mono ?_;clear I));rintro e X ⟨rfl,d⟩;have U:=eW (by assumption) d;clear d)|fail "NO ARM");go_wp2;refine ap (fun W=>Below w.heap.size w W∧cu W g (.bool true) (.int .u64 2047) (.int .u64 f)) ⟨cT J (by assumption),(uH L).all (And.left (by assumption))⟩ ?_;clear z J L;rintro A ⟨D,u⟩;have z:=ac (cn u);have J:=ac D;have L:=ac u;clear u D)
 go_region_held3(fun h=>Below A.heap.size A h∧h.cell? ⟨g,0,none⟩=some (.bool true)∧h.cell? ⟨g,1,none⟩=some (.int .u64 2047)∧h.cell? ⟨g,2,none⟩=some (.int .u64 f))
  (first|exact uH z _ (Below.refl _ _).drew|exact uH z _ (by assumption)|fail "NO KEEP")
  (first|(go_at_call 200;(first|(refine(uH F _).mono ?_;clear F)|(refine(uH G _).mono ?_;clear G)|(refine(uH H _).mono ?_;clear H)|(refine(uH I _).mono ?_;clear I));rintro e X ⟨rfl,d⟩;have U:=eW (by assumption) d;clear d)|fail "NO ARM")
 go_wp2
 go_ret
 exact⟨rfl,cT J (by assumption)⟩
theorem FZ(b:Nat)(p:Nat)(f:Nat)(w:World)(C:∀h,Calls Tryz.prog 200 #[.int .u64 b] h fun e K=>e=.returned (.agg #[.bool true,.int .u64 p,.int .u64 f])∧Below h.heap.size h K)(Y:((p:Int)==0)=false)(Z:((p:Int)==2047)=false):
  Calls Tryz.prog 164 #[.int .u64 b] w fun e h=>e=.returned (.int .i64 2)∧Below w.heap.size w h:=by
 have F:=ac d9
 have G:=ac eY
 have H:=ac gl
 have I:=ac gN
 have O:=ac C
 clear C
 go_enter Tryz.func164,Tryz.ntmps164
 go_wp2_with fail
 refine(uH O _).mono ?_
 rintro e Q ⟨rfl,d⟩
 clear O
 go_wp2
 refine ap (fun W=>Below w.heap.size w W∧cu W Q.heap.size (.bool true) (.int .u64 p) (.int .u64 f)) ⟨d.alloc d.size _,cu.new _ _ _ _⟩ ?_
 rintro A ⟨D,u⟩
 clear d
 generalize Q.heap.size=g at*
 have z:=ac (cn u);have J:=ac D;have L:=ac u;clear u D
 iterate 3 (go_region_held3(fun h=>Below A.heap.size A h∧h.cell? ⟨g,0,none⟩=some (.bool true)∧h.cell? ⟨g,1,none⟩=some (.int .u64 p)∧h.cell? ⟨g,2,none⟩=some (.int .u64 f))
  (first|exact uH z _ (Below.refl _ _).drew|exact uH z _ (by assumption)|fail "NO KEEP")
  (first|(go_at_call 200;(first|(refine(uH F _).mono ?_;clear F)|(refine(uH G _).mono ?_;clear G)|(refine(uH H _).mono ?_;clear H)|(refine(uH I _).mono ?_;clear I));rintro e X ⟨rfl,d⟩;have U:=eW (by assumption) d;clear d)|fail "NO ARM");go_wp2;refine ap (fun W=>Below w.heap.size w W∧cu W g (.bool true) (.int .u64 p) (.int .u64 f)) ⟨cT J (by assumption),(uH L).all (And.left (by assumption))⟩ ?_;clear z J L;rintro A ⟨D,u⟩;have z:=ac (cn u);have J:=ac D;have L:=ac u;clear u D)
 go_region_held3(fun h=>Below A.heap.size A h∧h.cell? ⟨g,0,none⟩=some (.bool true)∧h.cell? ⟨g,1,none⟩=some (.int .u64 p)∧h.cell? ⟨g,2,none⟩=some (.int .u64 f))
  (first|exact uH z _ (Below.refl _ _).drew|exact uH z _ (by assumption)|fail "NO KEEP")
  (first|(go_at_call 200;(first|(refine(uH F _).mono ?_;clear F)|(refine(uH G _).mono ?_;clear G)|(refine(uH H _).mono ?_;clear H)|(refine(uH I _).mono ?_;clear I));rintro e X ⟨rfl,d⟩;have U:=eW (by assumption) d;clear d)|fail "NO ARM")
 go_wp2
 go_ret
 exact⟨rfl,cT J (by assumption)⟩
theorem cZ(b:Nat)(w:World)(h:b<18446744073709551616):
  Calls Tryz.prog 164 #[.int .u64 b] w fun e z=>e=.returned (.int .i64 (fK b))∧Below w.heap.size w z:=by
 have C:=fun z=>fO b z h
 unfold fV at C
 unfold fK
 generalize fF b=f at*
 generalize fP b=p at*
 generalize fS b=s at*
 by_cases A:p=2047
 ·subst A
  rw[if_pos rfl]
  by_cases d:f=0
  ·subst d
   rw[if_pos rfl]
   cases s
   ·exact FQ b w C
   ·exact FW b w C
  ·rw[if_neg d]
   have u:((f:Int)==0)=false:=by simp;omega
   cases s
   ·exact FS b f w C u
   ·exact FY b f w C u
 ·rw[if_neg A]
  by_cases d:p=0
  ·subst d
   rw[if_pos rfl]
   by_cases D:f=0
   ·subst D
    rw[if_pos rfl]
    cases s
    ·exact FP b w C
    ·exact FU b w C
   ·rw[if_neg D]
    have u:((f:Int)==0)=false:=by simp;omega
    cases s
    ·exact FR b f w C u
    ·exact FX b f w C u
  ·rw[if_neg d]
   have F:((p:Int)==0)=false:=by simp;omega
   have G:((p:Int)==2047)=false:=by simp;omega
   cases s
   ·exact FT b p f w C F G
   ·exact FZ b p f w C F G
def ai(b:Nat):Bool:=decide (fP b≠2047)
theorem gO(b:Nat):(ai b=false∧(fK b=3∨fK b=4))∨(ai b=true∧(fK b=0∨fK b=1∨fK b=2)):=by
 unfold fK ai
 by_cases d:fP b=2047
 ·left
  refine⟨by simp[d],?_⟩
  rw[if_pos d]
  split<;>simp
 ·right
  refine⟨by simp[d],?_⟩
  rw[if_neg d]
  split
  ·split<;>simp
  ·simp
theorem g8(b:Nat)(w:World)(h:b<18446744073709551616):
  Calls Tryz.prog 118 #[.int .u64 b] w fun e d=>e=.returned (.bool (ai b))∧Below w.heap.size w d:=by
 have z:=ac (fun d=>cZ b d h)
 have A:=gO b
 generalize ai b=q at*
 generalize fK b=k at*
 rcases A with⟨rfl,rfl|rfl⟩|⟨rfl,rfl|rfl|rfl⟩
 all_goals
  clear h
  go_enter Tryz.func118,Tryz.ntmps118
  go_wp2_with(go_at_call 164;refine(uH z _).mono ?_;rintro e D ⟨rfl,u⟩)
  go_ret
  exact⟨rfl,u⟩
theorem g9(b:Nat)(w:World)(h:b<18446744073709551616):
  Calls Tryz.prog 88 #[.int .u64 b] w fun e d=>e=.returned (.bool (ai b))∧w=d:=by
 have z:=ac (fun d=>kw b d h)
 have A:=qE b
 unfold ai
 generalize fP b=k at*
 clear h
 by_cases u:k=2047
 ·subst u
  go_enter Tryz.func88,Tryz.ntmps88
  go_wp2_with(go_at_call 114;refine(uH z _).mono ?_;rintro e D ⟨rfl,rfl⟩)
  go_ret
  exact⟨rfl,rfl⟩
 ·rw[decide_eq_true u]
  have F:(k:Int)<2047:=by omega
  clear u A
  go_enter Tryz.func88,Tryz.ntmps88
  go_wp2_with(go_at_call 114;refine(uH z _).mono ?_;rintro e D ⟨rfl,rfl⟩)
  go_ret
  exact⟨rfl,rfl⟩
theorem jO(b:Nat)(w:World)(h:b<18446744073709551616):
  Calls Tryz.prog 89 #[.int .u64 b] w fun e u=>e=.returned (.int .i64 (fK b))∧w=u:=by
 have z:=ac (fun u=>kw b u h)
 have A:=ac (fun u=>qG b u h)
 unfold fK
 generalize fF b=f at*
 generalize fP b=p at*
 clear h
 by_cases G:p=2047
 ·subst G
  rw[if_pos rfl]
  by_cases d:f=0
  ·subst d
   rw[if_pos rfl]
   go_enter Tryz.func89,Tryz.ntmps89
   go_wp2_with(first|(go_at_call 114;refine(uH z _).mono ?_;rintro e D ⟨rfl,rfl⟩)|(go_at_call 113;refine(uH A _).mono ?_;rintro e F ⟨rfl,rfl⟩))
   go_ret
   exact⟨rfl,rfl⟩
  ·rw[if_neg d]
   have J:((f:Int)==0)=false:=by simp;omega
   clear d
   go_enter Tryz.func89,Tryz.ntmps89
   go_wp2_with(first|(go_at_call 114;refine(uH z _).mono ?_;rintro e D ⟨rfl,rfl⟩)|(go_at_call 113;refine(uH A _).mono ?_;rintro e F ⟨rfl,rfl⟩))
   go_ret
   exact⟨rfl,rfl⟩
 ·rw[if_neg G]
  have K:((p:Int)==2047)=false:=by simp;omega
  clear G
  by_cases d:p=0
  ·subst d
   rw[if_pos rfl]
   by_cases H:f=0
   ·subst H
    rw[if_pos rfl]
    go_enter Tryz.func89,Tryz.ntmps89
    go_wp2_with(first|(go_at_call 114;refine(uH z _).mono ?_;rintro e D ⟨rfl,rfl⟩)|(go_at_call 113;refine(uH A _).mono ?_;rintro e F ⟨rfl,rfl⟩))
    go_ret
    exact⟨rfl,rfl⟩
   ·rw[if_neg H]
    have J:decide ((0:Int)<(f:Int))=true:=decide_eq_true (by omega)
    have I:(0:Int)<(f:Int):=by omega
    clear H
    go_enter Tryz.func89,Tryz.ntmps89
    go_wp2_with(first|(go_at_call 114;refine(uH z _).mono ?_;rintro e D ⟨rfl,rfl⟩)|(go_at_call 113;refine(uH A _).mono ?_;rintro e F ⟨rfl,rfl⟩))
    go_ret
    exact⟨rfl,rfl⟩
  ·rw[if_neg d]
   have J:decide ((0:Int)<(p:Int))=true:=decide_eq_true (by omega)
   have I:(0:Int)<(p:Int):=by omega
   clear d
   go_enter Tryz.func89,Tryz.ntmps89
   go_wp2_with(first|(go_at_call 114;refine(uH z _).mono ?_;rintro e D ⟨rfl,rfl⟩)|(go_at_call 113;refine(uH A _).mono ?_;rintro e F ⟨rfl,rfl⟩))
   go_ret
   exact⟨rfl,rfl⟩
theorem tJ(b:Nat)(w:World)(h:b<18446744073709551616):
  Calls Tryz.prog 189 #[.int .u64 b] w fun e A=>e=.returned (.int .u64 (fN b))∧w=A:=by
 have z:=ac (fun A=>jN b A h)
 by_cases d:9223372036854775808≤b
 ·have u:fS b=true:=decide_eq_true d
  rw[u]at z
  have D:((b:Int)-9223372036854775808)%18446744073709551616=(fN b:Int):=by unfold fN;rw[if_pos d];omega
  generalize fN b=q at*
  clear d h u
  go_enter Tryz.func189,Tryz.ntmps189
  go_wp2_with(go_at_call 115;refine(uH z _).mono ?_;rintro e F ⟨rfl,rfl⟩)
  go_ret
  exact⟨aW D,rfl⟩
 ·have u:fS b=false:=decide_eq_false d
  rw[u]at z
  have D:((b:Int)+9223372036854775808)%18446744073709551616=(fN b:Int):=by unfold fN;rw[if_neg d];omega
  generalize fN b=q at*
  clear d h u
  go_enter Tryz.func189,Tryz.ntmps189
  go_wp2_with(go_at_call 115;refine(uH z _).mono ?_;rintro e F ⟨rfl,rfl⟩)
  go_ret
  exact⟨aW D,rfl⟩
theorem jr{P:Program}{f:FuncId}{args:Array Value}{w:World}{n:Nat}{v:Value}
  (h:Calls P f args (w.drewN n) fun e u=>e=.returned v∧w.drewN n=u):Calls P f args (w.drewN n) fun e d=>e=.returned v∧∃m,d=w.drewN m:=
 h.mono fun _ _ ⟨z,A⟩=>⟨z,n,A.symm⟩
def ry(ao:Option Addr)(cap:Nat)(L:List Nat)(v:Value):Prop:=
 ∃ao' cap' L',v=.slice ao' L'.length cap'∧bT L'∧aj L'=aj L∧L'.length≤L.length∧(∀w,ag w ao cap L→ag w ao' cap' L')∧(∀B,bI B ao L→bI B ao' L')
theorem bI.take{B:Nat}{d:Option Addr}{L:List Nat}(h:bI B d L)(n:Nat):bI B d (L.take n):=by
 rcases h with h|h
 ·left;simp[h]
 ·exact .inr h
theorem oF(D:Option Addr)(d:Nat)(L:List Nat)(w:World)(h:ag w D d L)(hl:L.length≤35184372088832):
  Calls Tryz.prog 239 #[.slice D L.length d] w fun e Z=>∃v,e=.returned v∧ry D d L v∧w=Z:=by
 have F:∀k,k<L.length→aj (L.take (L.length-k))=aj L→L[L.length-k-1]?.getD 0≠0→ry D d L (.slice D (L.length-k) d):=by
  intro k hk u hx
  refine⟨D,d,L.take (L.length-k),?_,?_,u,by simp,fun w h=>h.take _,fun B h=>h.take _⟩
  ·rw[List.length_take,Nat.min_eq_left (by omega)]
  ·right
   rw[List.length_take,Nat.min_eq_left (by omega),List.getElem?_take,if_pos (by omega)]
   exact hx
 have A:aj (L.take 0)=aj L→ry D d L (.slice none 0 0):=by
  intro u
  exact⟨none,0,[],rfl,.inl rfl,by simpa using u,by simp,fun _ _=>ag.nil _ _ _,fun _ _=>.inl rfl⟩
 have K:=ac F
 have G:=ac A
 clear F A
 rcases h.2.2 with h0|⟨b,ae,rfl,hb,U⟩
 ·subst h0
  clear K
  go_enter Tryz.func239,Tryz.ntmps239
  go_wp2
  refine wp_loop_rounds 1 ?_
  rw[rounds_succ]
  go_wp2
  go_ret
  exact⟨_,rfl,uH G rfl,rfl⟩
 ·have X:=h.1
  go_enter Tryz.func239,Tryz.ntmps239
  go_wp2
  go_loop [7] (fun i=>∃k:Nat,k≤L.length∧i=.int .i64 k∧Hid (aj (L.take (L.length-k))=aj L)) (fun i=>L.length-(intOf i).toNat)
  case atStart=>exact⟨0,Nat.zero_le _,rfl,by unfold Hid;simp⟩
  case round=>
   obtain⟨k,hk,rfl,u⟩:=hrel
   by_cases I:k<L.length
   ·have J:=U (L.length-k-1) (by omega)
    clear U
    by_cases z:L[L.length-k-1]?.getD 0=0
    ·have Y:=ke L (L.length-k) z
     have O:Hid (aj (L.take (L.length-(k+1)))=aj L):=by
      unfold Hid;rw[show L.length-(k+1)=L.length-k-1 by omega,Y];exact u.out
     rw[z]at J
     clear z Y u K G h
     go_wp2
     go_round
     case rel=>exact⟨k+1,by omega,by go_num,O⟩
     case measure=>simp[intOf];omega
    ·have H:=uH K k I u.out z
     have Q:=ac H
     clear H K G h u
     have aa:(((L[L.length-k-1]?.getD 0:Nat):Int) != 0)=true:=by rw[bne_iff_ne];omega
     generalize L[L.length-k-1]?.getD 0=x at*
     generalize hn:L.length=n at*
     clear hn
     go_wp2
     go_ret
     exact⟨_,rfl,uH Q,rfl⟩
   ·have H:=uH G (by rw[←u.out,show L.length-k=0 by omega])
    have Q:=ac H
    clear H K G h u U
    go_wp2
    go_ret
    exact⟨_,rfl,uH Q,rfl⟩
theorem ag.ne{w:World}{z:Option Addr}{u:Nat}{L:List Nat}(h:ag w z u L)(A:0<L.length):∃b d,z=some ⟨b,d,none⟩∧b<w.heap.size∧∀i,i<L.length→w.cell? ⟨b,d+i,none⟩=some (.int .u32 ((L[i]?.getD 0:Nat):Int)):=by
 rcases h.2.2 with e|h
 ·subst e;simp at A
 ·exact h
def oG(A B:List Nat):Int:=if A.length=B.length then bD (aj A) (aj B)else bD A.length B.length
theorem dL{a b:Int}(h:a<b):bD a b= -1:=by simp[bD,h]
theorem e9{a b:Int}(h:b<a):bD a b=1:=by simp only[bD];rw[if_neg (by omega),if_pos h]
theorem F0{a b:Int}(h:a=b):bD a b=0:=by simp[bD,h]
theorem BM(A B:List Nat)(z:bm A)(D:bm B)(t:Nat)(d:∀i,t<i→A[i]?.getD 0=B[i]?.getD 0)(u:A[t]?.getD 0≠B[t]?.getD 0):
  bD ((A[t]?.getD 0:Nat):Int) ((B[t]?.getD 0:Nat):Int)=bD (aj A) (aj B):=by
 rcases Nat.lt_or_gt_of_ne u with h|h
 ·have:=jM A B z t d h
  rw[dL (by omega),dL (by omega)]
 ·have:=jM B A D t (fun i F=>(d i F).symm) h
  rw[e9 (by omega),e9 (by omega)]
theorem mB(ao bo:Option Addr)(ca cb:Nat)(A B:List Nat)(w:World)(Y:ag w ao ca A)(Z:ag w bo cb B)(la:A.length≤35184372088832)(lb:B.length≤35184372088832):
  Calls Tryz.prog 302 #[.slice ao A.length ca,.slice bo B.length cb] w fun e w'=>e=.returned (.int .i64 (oG A B))∧∃m,w.drewN m=w':=by
 by_cases D:A.length≠B.length
 ·have an:((A.length:Int) != (B.length:Int))=true:=by rw[bne_iff_ne];omega
  have HE:=ac (show oG A B=bD A.length B.length by simp[oG,D])
  go_enter Tryz.func302,Tryz.ntmps302
  go_wp2_with(go_at_call 304;refine(Bw _ _ _).mono ?_;rintro e w' ⟨rfl,rfl⟩)
  go_ret
  exact⟨aW (uH HE).symm,0,rfl⟩
 have D:A.length=B.length:=by omega
 by_cases h0:A.length=0
 ·have eA:A= []:=List.length_eq_zero_iff.1 h0
  have eB:B= []:=List.length_eq_zero_iff.1 (by omega)
  subst eA;subst eB
  go_enter Tryz.func302,Tryz.ntmps302
  go_wp2
  refine wp_loop_rounds 1 ?_
  rw[rounds_succ]
  go_wp2
  go_ret
  exact⟨aW (by simp[oG,bD]),0,rfl⟩
 obtain⟨b1,o1,rfl,a0,G⟩:=Y.ne (by omega)
 obtain⟨b2,o2,rfl,a1,H⟩:=Z.ne (by omega)
 have z:∀t:Nat,(∀i:Nat,t<i→A[i]?.getD 0=B[i]?.getD 0)→A[t]?.getD 0≠B[t]?.getD 0→bD ((A[t]?.getD 0:Nat):Int) ((B[t]?.getD 0:Nat):Int)=oG A B:=by
  intro t h1 h2
  rw[BM A B Y.2.1 Z.2.1 t h1 h2];simp[oG,D]
 have J:(∀i:Nat,A[i]?.getD 0=B[i]?.getD 0)→(0:Int)=oG A B:=by
  intro h
  have:=jL A B h
  simp[oG,D,this,bD]
 have O:=ac z
 have Q:=ac J
 have d:∀i:Nat,A.length≤i→A[i]?.getD 0=B[i]?.getD 0:=fun i hi=>by
  rw[List.getElem?_eq_none (by omega),List.getElem?_eq_none (by omega)]
 have HA:=ac d
 clear z J d Y Z
 rw[←D]
 generalize hb:oG A B=s at*
 clear hb
 generalize hm:A.length=n at*
 have aa:B.length=n:=D.symm
 clear D
 go_enter Tryz.func302,Tryz.ntmps302
 go_wp2
 go_loopw[19] (fun i wr=>∃k:Nat,k≤n∧i=.int .i64 k∧Hid (∀j,n-k≤j→A[j]?.getD 0=B[j]?.getD 0)∧Hid (∃m,wr=w.drewN m))
  (fun i _=>n-(intOf i).toNat)
 case atStart=>exact⟨0,Nat.zero_le _,rfl,fun j hj=>uH HA j (by omega),0,rfl⟩
 case round=>
  obtain⟨k,hk,rfl,L,X⟩:=hrel
  have F:∀a,wr.cell? a=w.cell? a:=by obtain⟨m,rfl⟩:=X.out;intro a;rfl
  clear HA
  by_cases ar:k<n
  ·have U:=G (n-1-k) (by omega)
   have c2:=H (n-1-k) (by omega)
   rw[←F]at U c2
   clear G H hm aa F
   have ax:(0:Int)≤(n:Int)-1-(k:Int):=by omega
   have az:(n:Int)-1-(k:Int)<(n:Int):=by omega
   by_cases K:A[n-1-k]?.getD 0=B[n-1-k]?.getD 0
   ·have ae:Hid (∀j,n-(k+1)≤j→A[j]?.getD 0=B[j]?.getD 0):=fun j hj=>by
     by_cases h:n-k≤j
     ·exact L.out j h
     ·rw[show j=n-1-k by omega];exact K
    rw[K]at U
    clear K L O Q
    generalize B[n-1-k]?.getD 0=x at*
    go_wp2
    go_quiet (fail)
    go_wp2
    go_roundw
    case rel=>exact⟨k+1,by omega,by go_num,ae,by obtain⟨m,rfl⟩:=X.out;exact⟨m+nq,by simp⟩⟩
    case measure=>simp[intOf];omega
   ·have HS:=ac (uH O (n-1-k) (fun i hi=>L.out i (by omega)) K)
    have aI:(((A[n-1-k]?.getD 0:Nat):Int) != ((B[n-1-k]?.getD 0:Nat):Int))=true:=by rw[bne_iff_ne];omega
    clear O Q L K
    generalize B[n-1-k]?.getD 0=x at*
    generalize A[n-1-k]?.getD 0=y at*
    go_wp2
    go_quiet (fail)
    obtain⟨I,u⟩:∃I,I=wr.drewN nq:=⟨_,rfl⟩
    have c3:I.cell? ⟨b1,o1+(n-1-k),none⟩=some (.int .u32 (y:Int)):=by rw[u];exact U
    have c4:I.cell? ⟨b2,o2+(n-1-k),none⟩=some (.int .u32 (x:Int)):=by rw[u];exact c2
    rw[←u]
    have ah:Hid (∃q,I=wr.drewN q):=⟨nq,u⟩
    clear u U c2
    go_wp2
    go_quiet ((go_at_call 305;exact jr (Bx _ _ _)))
    go_wp2
    go_ret
    obtain⟨m,rfl⟩:=X.out
    obtain⟨q,am⟩:=ah.out
    exact⟨aW (uH HS),m+q+nq,by rw[am];simp⟩
  ·have HS:=ac (uH Q (fun i=>L.out i (by omega)))
   clear O Q G H F
   go_wp2
   go_ret
   obtain⟨m,rfl⟩:=X.out
   exact⟨aW (uH HS),m,rfl⟩
theorem BN(A:Option Addr)(u:Nat)(L:List Nat)(i:Int)(k:Nat)(w:World)(h:ag w A u L)(K:L.length≤35184372088830)(F:i=(k:Int)):
  Calls Tryz.prog 126 #[.slice A L.length u,.int .i64 i] w fun e G=>e=.returned (.int .u64 ((L[k]?.getD 0:Nat):Int))∧w=G:=by
 subst F
 by_cases d:k<L.length
 ·rcases h.2.2 with I|⟨b,J,rfl,O,D⟩
  ·subst I;simp at d
  ·have H:=D k d
   have z:L[k]?.getD 0<4294967296:=by rw[List.getElem?_eq_getElem d];exact h.2.1 _ (List.getElem_mem d)
   clear h D
   generalize L[k]?.getD 0=x at*
   generalize L.length=n at*
   go_enter Tryz.func126,Tryz.ntmps126
   go_wp2
   go_ret
   exact⟨rfl,rfl⟩
 ·have z:L[k]?.getD 0=0:=by rw[List.getElem?_eq_none (by omega)];rfl
  rw[z]
  clear h z
  generalize L.length=n at*
  go_enter Tryz.func126,Tryz.ntmps126
  go_wp2
  go_ret
  exact⟨rfl,rfl⟩
theorem bc(w:World)(a p:Addr)(u:Value)(h:a.block≠p.block):(w.setCell p u).cell? a=w.cell? a:=
 World.cell?_of_block (Below.heap_setCell w p u a.block h)
theorem ag.store{w:World}{A:Option Addr}{z B:Nat}{L:List Nat}(h:ag w A z L)(I:bI B A L){p:Addr}(U:p.block<B)(u:Value):ag (w.setCell p u) A z L:=by
 refine⟨h.1,h.2.1,?_⟩
 rcases h.2.2 with D|⟨b,F,G,K,O⟩
 ·exact .inl D
 ·rcases I with D|⟨X,H,d,Q⟩
  ·exact .inl D
  ·rw[G]at d
   simp only[Option.some.injEq,Addr.mk.injEq]at d
   obtain⟨rfl,rfl,_⟩:=d
   refine .inr ⟨b,F,G,by simpa[World.setCell]using K,fun i J=>?_⟩
   rw[bc w _ p u (by simp;omega)]
   exact O i J
theorem au.stored{B A:Nat}{w:World}{n:Bool}{z:Option Addr}{d:Nat}{L:List Nat}{x:Int}(h:ag w z d L∧bI B z L∧bT L∧n=decide (x<0)∧aj L=x.natAbs∧L.length≤35184372088832){p q:Addr}(F:p.block<B)(G:q.block<B)(H:A≤B)(u D:Value):
  au A ((w.setCell p u).setCell q D) (.agg #[.bool n,.slice z L.length d]) x:=
 ⟨n,z,d,L,rfl,(h.1.store h.2.1 F u).store h.2.1 G D,h.2.1.mono H,h.2.2⟩
end Go.Proofs.YtcbcmlaogehimaaGreatDoor
