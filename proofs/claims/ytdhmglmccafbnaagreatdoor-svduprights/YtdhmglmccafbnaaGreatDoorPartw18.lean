/- Part 18 of the texts. -/
import Derived.Test.YtdhmglmccafbnaaGreatDoorPartw17
set_option maxHeartbeats 4000000
set_option maxRecDepth 20000
namespace Go.Proofs.YtdhmglmccafbnaaGreatDoor
open Go.RowKit
theorem D4(a b:Nat)(F:Int)(w:World)
  (l:∀w',Calls Tryz.prog 113 #[.int .u64 a] w' fun r d=>r=.returned (.int .i64 4)∧Below w'.heap.size w' d)
  (u:∀w',Calls Tryz.prog 113 #[.int .u64 b] w' fun r d=>r=.returned (.int .i64 F)∧Below w'.heap.size w' d):
  Calls Tryz.prog 224 #[.int .u64 a,.int .u64 b] w fun r w'=>r=.returned (.tuple #[.int .u64 9221120237041090560,.int .u8 0])∧Below w.heap.size w w':=by
 have z:=aa l;have D:=aa u
 clear l u
 go_enter Tryz.func224,Tryz.ntmps224
 go_wp2_with fail
 refine(uH z _).mono ?_
 rintro e G ⟨rfl,f⟩
 go_wp2_with fail
 refine(uH D _).mono ?_
 rintro e H ⟨rfl,h⟩
 have B:=aa (f.trans (h.mono f.size))
 clear f h z D
 go_wp2
 exact bodyPost_ret (v:=.tuple #[.int .u64 9221120237041090560,.int .u8 0]) (by simp[results,Tryz.results224,go_sem]) rfl ⟨rfl,uH B⟩
theorem D6(a b:Nat)(l:Int)(w:World)(G:(l==4)=false)
  (u:∀w',Calls Tryz.prog 113 #[.int .u64 a] w' fun r d=>r=.returned (.int .i64 l)∧Below w'.heap.size w' d)
  (z:∀w',Calls Tryz.prog 113 #[.int .u64 b] w' fun r d=>r=.returned (.int .i64 4)∧Below w'.heap.size w' d):
  Calls Tryz.prog 224 #[.int .u64 a,.int .u64 b] w fun r w'=>r=.returned (.tuple #[.int .u64 9221120237041090560,.int .u8 0])∧Below w.heap.size w w':=by
 have D:=aa u;have F:=aa z
 clear u z
 go_enter Tryz.func224,Tryz.ntmps224
 go_wp2_with fail
 refine(uH D _).mono ?_
 rintro e H ⟨rfl,f⟩
 go_wp2_with fail
 refine(uH F _).mono ?_
 rintro e J ⟨rfl,h⟩
 have B:=aa (f.trans (h.mono f.size))
 clear f h D F
 go_wp2
 exact bodyPost_ret (v:=.tuple #[.int .u64 9221120237041090560,.int .u8 0]) (by simp[results,Tryz.results224,go_sem]) rfl ⟨rfl,uH B⟩
theorem D7(a b:Nat)(w:World)
  (l:∀w',Calls Tryz.prog 113 #[.int .u64 a] w' fun r d=>r=.returned (.int .i64 3)∧Below w'.heap.size w' d)
  (u:∀w',Calls Tryz.prog 113 #[.int .u64 b] w' fun r d=>r=.returned (.int .i64 3)∧Below w'.heap.size w' d):
  Calls Tryz.prog 224 #[.int .u64 a,.int .u64 b] w fun r w'=>r=.returned (.tuple #[.int .u64 9221120237041090560,.int .u8 16])∧Below w.heap.size w w':=by
 have z:=aa l;have D:=aa u
 clear l u
 go_enter Tryz.func224,Tryz.ntmps224
 go_wp2_with fail
 refine(uH z _).mono ?_
 rintro e F ⟨rfl,f⟩
 go_wp2_with fail
 refine(uH D _).mono ?_
 rintro e G ⟨rfl,h⟩
 have B:=aa (f.trans (h.mono f.size))
 clear f h z D
 go_wp2
 exact bodyPost_ret (v:=.tuple #[.int .u64 9221120237041090560,.int .u8 16]) (by simp[results,Tryz.results224,go_sem]) rfl ⟨rfl,uH B⟩
theorem D8(a b:Nat)(w:World)
  (l:∀w',Calls Tryz.prog 113 #[.int .u64 a] w' fun r d=>r=.returned (.int .i64 0)∧Below w'.heap.size w' d)
  (u:∀w',Calls Tryz.prog 113 #[.int .u64 b] w' fun r d=>r=.returned (.int .i64 0)∧Below w'.heap.size w' d):
  Calls Tryz.prog 224 #[.int .u64 a,.int .u64 b] w fun r w'=>r=.returned (.tuple #[.int .u64 9221120237041090560,.int .u8 16])∧Below w.heap.size w w':=by
 have z:=aa l;have D:=aa u
 clear l u
 go_enter Tryz.func224,Tryz.ntmps224
 go_wp2_with fail
 refine(uH z _).mono ?_
 rintro e F ⟨rfl,f⟩
 go_wp2_with fail
 refine(uH D _).mono ?_
 rintro e G ⟨rfl,h⟩
 have B:=aa (f.trans (h.mono f.size))
 clear f h z D
 go_wp2
 exact bodyPost_ret (v:=.tuple #[.int .u64 9221120237041090560,.int .u8 16]) (by simp[results,Tryz.results224,go_sem]) rfl ⟨rfl,uH B⟩
theorem Gx(a b:Nat)(u:Int)(o:Nat)(w:World)(K:(u==4)=false)(L:(u==3)=false)
  (z:∀w',Calls Tryz.prog 113 #[.int .u64 a] w' fun r d=>r=.returned (.int .i64 3)∧Below w'.heap.size w' d)
  (D:∀w',Calls Tryz.prog 113 #[.int .u64 b] w' fun r d=>r=.returned (.int .i64 u)∧Below w'.heap.size w' d)
  (F:∀w',Calls Tryz.prog 253 #[.int .u64 9218868437227405312,.int .u64 a,.int .u64 b] w' fun r d=>r=.returned (.int .u64 (o:Nat))∧Below w'.heap.size w' d):
  Calls Tryz.prog 224 #[.int .u64 a,.int .u64 b] w fun r w'=>r=.returned (.tuple #[.int .u64 (o:Nat),.int .u8 0])∧Below w.heap.size w w':=by
 have G:=aa z;have H:=aa D
 clear z D
 go_enter Tryz.func224,Tryz.ntmps224
 go_wp2_with fail
 refine(uH G _).mono ?_
 rintro e M ⟨rfl,f⟩
 go_wp2_with fail
 refine(uH H _).mono ?_
 rintro e N ⟨rfl,h⟩
 have B:=aa (f.trans (h.mono f.size))
 clear f h G H
 have J:=aa F
 clear F
 go_wp2_with fail
 refine(uH J _).mono ?_
 rintro e O ⟨rfl,l⟩
 have B:=aa ((uH B).trans (l.mono (uH B).size))
 clear l J
 go_wp2
 exact bodyPost_ret (v:=.tuple #[.int .u64 (o:Nat),.int .u8 0]) (by simp[results,Tryz.results224,go_sem]) rfl ⟨rfl,uH B⟩
theorem Gy(a b:Nat)(u:Int)(o:Nat)(w:World)(K:(u==4)=false)(L:(u==0)=false)
  (z:∀w',Calls Tryz.prog 113 #[.int .u64 a] w' fun r d=>r=.returned (.int .i64 0)∧Below w'.heap.size w' d)
  (D:∀w',Calls Tryz.prog 113 #[.int .u64 b] w' fun r d=>r=.returned (.int .i64 u)∧Below w'.heap.size w' d)
  (F:∀w',Calls Tryz.prog 253 #[.int .u64 0,.int .u64 a,.int .u64 b] w' fun r d=>r=.returned (.int .u64 (o:Nat))∧Below w'.heap.size w' d):
  Calls Tryz.prog 224 #[.int .u64 a,.int .u64 b] w fun r w'=>r=.returned (.tuple #[.int .u64 (o:Nat),.int .u8 0])∧Below w.heap.size w w':=by
 have G:=aa z;have H:=aa D
 clear z D
 go_enter Tryz.func224,Tryz.ntmps224
 go_wp2_with fail
 refine(uH G _).mono ?_
 rintro e M ⟨rfl,f⟩
 go_wp2_with fail
 refine(uH H _).mono ?_
 rintro e N ⟨rfl,h⟩
 have B:=aa (f.trans (h.mono f.size))
 clear f h G H
 have J:=aa F
 clear F
 go_wp2_with fail
 refine(uH J _).mono ?_
 rintro e O ⟨rfl,l⟩
 have B:=aa ((uH B).trans (l.mono (uH B).size))
 clear l J
 go_wp2
 exact bodyPost_ret (v:=.tuple #[.int .u64 (o:Nat),.int .u8 0]) (by simp[results,Tryz.results224,go_sem]) rfl ⟨rfl,uH B⟩
theorem Gz(a b:Nat)(u:Int)(o:Nat)(w:World)(K:(u==4)=false)(L:(u==3)=false)(M:(u==0)=false)
  (z:∀w',Calls Tryz.prog 113 #[.int .u64 a] w' fun r d=>r=.returned (.int .i64 u)∧Below w'.heap.size w' d)
  (D:∀w',Calls Tryz.prog 113 #[.int .u64 b] w' fun r d=>r=.returned (.int .i64 3)∧Below w'.heap.size w' d)
  (F:∀w',Calls Tryz.prog 253 #[.int .u64 0,.int .u64 a,.int .u64 b] w' fun r d=>r=.returned (.int .u64 (o:Nat))∧Below w'.heap.size w' d):
  Calls Tryz.prog 224 #[.int .u64 a,.int .u64 b] w fun r w'=>r=.returned (.tuple #[.int .u64 (o:Nat),.int .u8 0])∧Below w.heap.size w w':=by
 have G:=aa z;have H:=aa D
 clear z D
 go_enter Tryz.func224,Tryz.ntmps224
 go_wp2_with fail
 refine(uH G _).mono ?_
 rintro e N ⟨rfl,f⟩
 go_wp2_with fail
 refine(uH H _).mono ?_
 rintro e O ⟨rfl,h⟩
 have B:=aa (f.trans (h.mono f.size))
 clear f h G H
 have J:=aa F
 clear F
 go_wp2_with fail
 refine(uH J _).mono ?_
 rintro e Q ⟨rfl,l⟩
 have B:=aa ((uH B).trans (l.mono (uH B).size))
 clear l J
 go_wp2
 exact bodyPost_ret (v:=.tuple #[.int .u64 (o:Nat),.int .u8 0]) (by simp[results,Tryz.results224,go_sem]) rfl ⟨rfl,uH B⟩
theorem GA(a b:Nat)(u:Int)(o:Nat)(w:World)(K:(u==4)=false)(L:(u==3)=false)(M:(u==0)=false)
  (z:∀w',Calls Tryz.prog 113 #[.int .u64 a] w' fun r d=>r=.returned (.int .i64 u)∧Below w'.heap.size w' d)
  (D:∀w',Calls Tryz.prog 113 #[.int .u64 b] w' fun r d=>r=.returned (.int .i64 0)∧Below w'.heap.size w' d)
  (F:∀w',Calls Tryz.prog 253 #[.int .u64 9218868437227405312,.int .u64 a,.int .u64 b] w' fun r d=>r=.returned (.int .u64 (o:Nat))∧Below w'.heap.size w' d):
  Calls Tryz.prog 224 #[.int .u64 a,.int .u64 b] w fun r w'=>r=.returned (.tuple #[.int .u64 (o:Nat),.int .u8 8])∧Below w.heap.size w w':=by
 have G:=aa z;have H:=aa D
 clear z D
 go_enter Tryz.func224,Tryz.ntmps224
 go_wp2_with fail
 refine(uH G _).mono ?_
 rintro e N ⟨rfl,f⟩
 go_wp2_with fail
 refine(uH H _).mono ?_
 rintro e O ⟨rfl,h⟩
 have B:=aa (f.trans (h.mono f.size))
 clear f h G H
 have J:=aa F
 clear F
 go_wp2_with fail
 refine(uH J _).mono ?_
 rintro e Q ⟨rfl,l⟩
 have B:=aa ((uH B).trans (l.mono (uH B).size))
 clear l J
 go_wp2
 exact bodyPost_ret (v:=.tuple #[.int .u64 (o:Nat),.int .u8 8]) (by simp[results,Tryz.results224,go_sem]) rfl ⟨rfl,uH B⟩
theorem GB(a b:Nat)(u z:Int)(D:Int)(o:Nat)(w:World)(O:(u==4)=false)(Q:(u==3)=false)(U:(u==0)=false)(V:(z==4)=false)(X:(z==3)=false)(Y:(z==0)=false)(F:bT w)
  (G:∀w',Calls Tryz.prog 113 #[.int .u64 a] w' fun r d=>r=.returned (.int .i64 u)∧Below w'.heap.size w' d)
  (H:∀w',Calls Tryz.prog 113 #[.int .u64 b] w' fun r d=>r=.returned (.int .i64 z)∧Below w'.heap.size w' d)
  (J:∀w',bT w'→Calls Tryz.prog 255 #[.int .u64 a,.int .u64 b] w' fun r d=>r=.returned (.tuple #[.int .u64 (o:Nat),.int .u8 D])∧Below w'.heap.size w' d):
  Calls Tryz.prog 224 #[.int .u64 a,.int .u64 b] w fun r w'=>r=.returned (.tuple #[.int .u64 (o:Nat),.int .u8 D])∧Below w.heap.size w w':=by
 have K:=aa G;have L:=aa H
 clear G H
 go_enter Tryz.func224,Tryz.ntmps224
 go_wp2_with fail
 refine(uH K _).mono ?_
 rintro e Z ⟨rfl,f⟩
 go_wp2_with fail
 refine(uH L _).mono ?_
 rintro e w2 ⟨rfl,h⟩
 have B:=aa (f.trans (h.mono f.size))
 clear f h K L
 have M:=aa J;have N:=aa (F.all (uH B))
 clear J F
 go_wp2_with fail
 refine(uH M _ (uH N)).mono ?_
 rintro e w3 ⟨rfl,l⟩
 have B:=aa ((uH B).trans (l.mono (uH B).size))
 clear l M N
 go_wp2
 exact bodyPost_ret (v:=.tuple #[.int .u64 (o:Nat),.int .u8 D]) (by simp[results,Tryz.results224,go_sem]) rfl ⟨rfl,uH B⟩
theorem Ap(a b:Nat)(w:World)(H:a<18446744073709551616)(J:b<18446744073709551616)(Q:bT w):
  Calls Tryz.prog 224 #[.int .u64 a,.int .u64 b] w fun r w'=>r=.returned (.tuple #[.int .u64 (dV a b:Nat),.int .u8 (dF a b)])∧Below w.heap.size w w':=by
 have d:=fun w'=>cR a w' H
 have f:=fun w'=>cR b w' J
 have K:=fun w'=>eZ 9218868437227405312 a b w' H J (by decide)
 have L:=fun w'=>eZ 0 a b w' H J (by decide)
 by_cases u:fK a=4
 ·rw[show dV a b=9221120237041090560 by unfold dV;rw[if_pos (Or.inl u)],show dF a b=0 by unfold dF;rw[if_pos (Or.inl u)]]
  rw[u]at d
  exact D4 a b _ w d f
 by_cases D:fK b=4
 ·rw[show dV a b=9221120237041090560 by unfold dV;rw[if_pos (Or.inr D)],show dF a b=0 by unfold dF;rw[if_pos (Or.inr D)]]
  rw[D]at f
  exact D6 a b _ w (by simp[u]) d f
 have z:¬(fK a=4∨fK b=4):=by omega
 by_cases l:fK a=fK b∧(fK a=3∨fK a=0)
 ·rw[show dV a b=9221120237041090560 by unfold dV;rw[if_neg z,if_pos l],show dF a b=16 by unfold dF;rw[if_neg z,if_pos l]]
  rcases l with⟨N,F|O⟩
  ·rw[F]at d
   rw[←N,F]at f
   exact D7 a b w d f
  ·rw[O]at d
   rw[←N,O]at f
   exact D8 a b w d f
 by_cases h:fK a=3
 ·rw[show dV a b=bY (fS a^^fS b) 9218868437227405312 by unfold dV;rw[if_neg z,if_neg l,if_pos h],show dF a b=0 by unfold dF;rw[if_neg z,if_neg l,if_pos h]]
  rw[h]at d
  exact Gx a b _ _ w (by simp[D]) (by simp;omega) d f K
 by_cases F:fK b=3∨fK a=0
 ·rw[show dV a b=bY (fS a^^fS b) 0 by unfold dV;rw[if_neg z,if_neg l,if_neg h,if_pos F],show dF a b=0 by unfold dF;rw[if_neg z,if_neg l,if_neg h,if_pos F]]
  by_cases M:fK a=0
  ·rw[M]at d
   exact Gy a b _ _ w (by simp[D]) (by simp;omega) d f L
  ·have U:fK b=3:=by omega
   rw[U]at f
   exact Gz a b _ _ w (by simp[u]) (by simp[h]) (by simp[M]) d f L
 by_cases G:fK b=0
 ·rw[show dV a b=bY (fS a^^fS b) 9218868437227405312 by unfold dV;rw[if_neg z,if_neg l,if_neg h,if_neg F,if_pos G],show dF a b=8 by unfold dF;rw[if_neg z,if_neg l,if_neg h,if_neg F,if_pos G]]
  rw[G]at f
  exact GA a b _ _ w (by simp[u]) (by simp[h]) (by simp;omega) d f K
 ·exact GB a b _ _ _ _ w (by simp[u]) (by simp[h]) (by simp;omega) (by simp[D]) (by simp;omega) (by simp[G]) Q d f (fun w' t=>o6 a b w' H J (aY a h u) (aY b (by omega) D) (by omega) G t)
theorem sO(t:TypeId)(x y:Nat)(w:World):(binOp .mul t (.float .f64 x) (.float .f64 y)).run Tryz.prog w=.ok (.float .f64 (fk (Ieee.double.mul x y) x y w)) (le (Ieee.double.mul x y) w):=by
 have d:FloatKind.f64.format=Ieee.double:=rfl
 cases h:Ieee.double.mul x y with
 |some r=>exact run_float_arith w .mul t .f64 x y r (by unfold floatBits;rw[d];exact h)
 |none=>
  simp only[binOp,Op.floatArith,d,h]
  rfl
theorem Aq(t:TypeId)(x y:Nat)(w:World):(binOp .quo t (.float .f64 x) (.float .f64 y)).run Tryz.prog w=.ok (.float .f64 (fk (Ieee.double.div x y) x y w)) (le (Ieee.double.div x y) w):=by
 have d:FloatKind.f64.format=Ieee.double:=rfl
 cases h:Ieee.double.div x y with
 |some r=>exact run_float_arith w .quo t .f64 x y r (by unfold floatBits;rw[d];exact h)
 |none=>
  simp only[binOp,Op.floatArith,d,h]
  rfl
theorem fc(n:Bool)(r:Nat)(h:r≤9218868437227405312):fK (bY n r)≠4:=fun d=>by
 have:=(aP _).1.1 d
 have e:fR (bY n r)=r:=by unfold fR;exact(gR n r (by omega)).2
 omega
theorem D9(a b:Nat)(h:mN a b=false):fK (mV a b)≠4:=by
 have d:=of_decide_eq_false h
 have l:¬(fK a=4∨fK b=4):=fun e=>d (Or.inl e)
 unfold mV
 rw[if_neg l]
 split
 ·rename_i u
  rw[if_neg (fun f=>d (Or.inr ⟨u,f⟩))]
  exact fc _ _ (by decide)
 ·exact fc _ _ (cH _ _)
theorem Ea(a b:Nat)(h:dN a b=false):fK (dV a b)≠4:=by
 have d:=of_decide_eq_false h
 have f:¬(fK a=4∨fK b=4):=fun e=>d (Or.inl e)
 have l:¬(fK a=fK b∧(fK a=3∨fK a=0)):=fun e=>d (Or.inr e)
 unfold dV
 rw[if_neg f,if_neg l]
 repeat' split
 ·exact fc _ _ (by decide)
 ·exact fc _ _ (by decide)
 ·exact fc _ _ (by decide)
 ·exact fc _ _ (cH _ _)
theorem nN(o:Option Nat)(v x y:Nat)(w w':World)(h:v<18446744073709551616)(l:o=none→v=9221120237041090560)(u:∀r,o=some r→r=v∧fK v≠4):
  Calls Tryz.prog 108 #[.int .u64 (fk o x y w:Nat)] w' fun r d=>r=.returned (.int .u64 (v:Nat))∧w'=d:=by
 cases o with
 |none=>
  rw[l rfl]
  obtain⟨z,f⟩:=lf x y w
  have:=eG _ w' z
  rw[if_pos f]at this
  exact this
 |some r=>
  obtain⟨rfl,f⟩:=u r rfl
  have:=eG r w' h
  rw[if_neg f]at this
  exact this
theorem xG(a b:Nat)(w w':World)(d:a<18446744073709551616)(f:b<18446744073709551616):
  Calls Tryz.prog 108 #[.int .u64 (fk (Ieee.double.mul a b) a b w:Nat)] w' fun r l=>r=.returned (.int .u64 (mV a b:Nat))∧w'=l:=by
 refine nN _ (mV a b) a b w w' (bM a b) (fun h=>?_) (fun r h=>?_)
 ·cases e:mN a b with
  |true=>exact(pE a b d f e).2
  |false=>rw[kZ a b d f e]at h;cases h
 ·cases e:mN a b with
  |true=>rw[(pE a b d f e).1]at h;cases h
  |false=>
   rw[kZ a b d f e]at h
   exact⟨(Option.some.inj h).symm,D9 a b e⟩
theorem xH(a b:Nat)(w w':World)(d:a<18446744073709551616)(f:b<18446744073709551616):
  Calls Tryz.prog 108 #[.int .u64 (fk (Ieee.double.div a b) a b w:Nat)] w' fun r l=>r=.returned (.int .u64 (dV a b:Nat))∧w'=l:=by
 refine nN _ (dV a b) a b w w' (su a b) (fun h=>?_) (fun r h=>?_)
 ·cases e:dN a b with
  |true=>exact(pF a b d f e).2
  |false=>rw[pG a b d f e]at h;cases h
 ·cases e:dN a b with
  |true=>rw[(pF a b d f e).1]at h;cases h
  |false=>
   rw[pG a b d f e]at h
   exact⟨(Option.some.inj h).symm,Ea a b e⟩
theorem uF(b:Nat)(h:b<18446744073709551616):bits .andNot .u64 (b:Int) 9223372036854775808=(fR b:Int):=by
 have d:=u64_andNot_nat b 9223372036854775808 h (by decide)
 refine d.trans ?_
 rw[show 18446744073709551615-9223372036854775808=2^63-1 by decide,Nat.and_two_pow_sub_one_eq_mod]
 rfl
theorem Ar(x:Nat)(h:x<4096):x&&& 2048=x/2048*2048:=by
 have f:(x&&& 2^11)%2^11=0:=by rw[Nat.and_mod_two_pow];simp
 have d:(x&&& 2^11)/2^11=(x/2^11)&&& 1:=by rw[Nat.and_div_two_pow]
 rw[Nat.and_one_is_mod]at d
 have l:=Nat.div_add_mod (x&&& 2^11) (2^11)
 rw[f,d]at l
 rw[show(2048:Nat)=2^11 by decide]
 omega
theorem xI(b:Nat)(h:b<18446744073709551616):b&&& 9227875636482146303=b/9223372036854775808*9223372036854775808+b%4503599627370496:=by
 have d:(b&&& 9227875636482146303)%2^52=b%4503599627370496:=by
  rw[Nat.and_mod_two_pow,show 9227875636482146303%2^52=2^52-1 by decide,Nat.and_two_pow_sub_one_eq_mod,Nat.mod_mod]
 have f:(b&&& 9227875636482146303)/2^52=b/4503599627370496/2048*2048:=by
  rw[Nat.and_div_two_pow,show 9227875636482146303/2^52=2048 by decide]
  exact Ar _ (by omega)
 have:=Nat.div_add_mod (b&&& 9227875636482146303) (2^52)
 rw[d,f]at this
 omega
theorem nO(s:Bool)(q:Nat)(h:q<9223372036854775808):bits .andNot .u64 (bY s q:Nat) 9218868437227405312=(bY s (q%4503599627370496):Nat):=by
 have d:=u64_andNot_nat (bY s q) 9218868437227405312 (ee s q h) (by decide)
 refine d.trans ?_
 rw[show 18446744073709551615-9218868437227405312=9227875636482146303 by decide,xI _ (ee s q h)]
 congr 1
 cases s
 ·rw[aQ,aQ];omega
 ·rw[cu,cu];omega
theorem As(s:Bool)(f p:Nat)(u:f<4503599627370496)(z:p<2048):bits .or .u64 (bY s f:Nat) ((p*4503599627370496:Nat):Int)=(bY s (f+p*4503599627370496):Nat):=by
 have d:=bits_or_u64_nat (bY s f) (p*4503599627370496) (ee s f (by omega)) (by omega)
 refine d.trans ?_
 congr 1
 obtain⟨t,D⟩:∃t,bY s f=t*2048*4503599627370496+f∧t≤1:=by
  cases s
  ·exact⟨0,by rw[aQ];omega,by omega⟩
  ·exact⟨1,by rw[cu];omega,by omega⟩
 have h:(bY s f|||p*4503599627370496)%2^52=f:=by
  rw[Nat.or_mod_two_pow,show p*4503599627370496%2^52=0 by omega,Nat.or_zero]
  omega
 have l:(bY s f|||p*4503599627370496)/2^52=p+t*2^11:=by
  rw[Nat.or_div_two_pow,show p*4503599627370496/2^52=p by omega,show bY s f/2^52=t*2^11 by omega,Nat.or_comm]
  exact jY p t 11 (by omega)
 have:=Nat.div_add_mod (bY s f|||p*4503599627370496) (2^52)
 rw[h,l]at this
 cases s
 ·rw[aQ]at*;rw[aQ];omega
 ·rw[cu]at*;rw[cu];omega
theorem At(k:Nat)(h:k<4096):bits .and .i64 (k:Int) 2047=((k%2048:Nat):Int):=by
 have d:=Go.bits_nat .i64 62 (by decide) (fun x f d=>by rw[IntKind.wrap_i64];simp at d;omega) k 2047 (by simp;omega) (by decide)
 refine d.1.trans ?_
 rw[show(2047:Nat)=2^11-1 by decide,Nat.and_two_pow_sub_one_eq_mod]
theorem sP(b:Nat)(w:World)(h:b<18446744073709551616):
  Calls Tryz.prog 274 #[.float .f64 b] w fun r w'=>r=.returned (.float .f64 (fR b))∧w=w':=by
 have d:=fun W=>kn b W
 have k:=uF b h
 generalize fR b=q at*
 have hF:=fun W=>dW q W
 go_enter Tryz.func274,Tryz.ntmps274
 go_wp2_with(simp only[k])
 go_ret
 exact⟨rfl,rfl⟩
theorem kq(b q:Nat)(o:Option Ordering)(i:Bool)(w:World)(u:FloatKind.f64.format.order q 9218868437227405311=o)
  (l:(o=none∧i=false)∨(o=some .lt∧i=false)∨(o=some .eq∧i=false)∨(o=some .gt∧i=true))
  (f:∀w',Calls Tryz.prog 274 #[.float .f64 b] w' fun r d=>r=.returned (.float .f64 q)∧w'=d):
  Calls Tryz.prog 243 #[.float .f64 b,.int .i64 0] w fun r w'=>r=.returned (.bool i)∧w=w':=by
 have h:=aa f
 clear f
 rcases l with⟨rfl,rfl⟩|⟨rfl,rfl⟩|⟨rfl,rfl⟩|⟨rfl,rfl⟩
 all_goals
  go_enter Tryz.func243,Tryz.ntmps243
  go_wp2_with fail
  refine(uH h _).mono ?_
  rintro e z ⟨rfl,rfl⟩
  clear h
  go_wp2
  go_ret
  exact⟨rfl,rfl⟩
theorem sQ(b:Nat)(o:Option Ordering)(i:Bool)(w:World)(f:FloatKind.f64.format.order b b=o)
  (d:(o=none∧i=true)∨(o=some .eq∧i=false)):
  Calls Tryz.prog 244 #[.float .f64 b] w fun r w'=>r=.returned (.bool i)∧w=w':=by
 rcases d with⟨rfl,rfl⟩|⟨rfl,rfl⟩
 all_goals
  go_enter Tryz.func244,Tryz.ntmps244
  go_wp2
  go_ret
  exact⟨rfl,rfl⟩
theorem o7(b:Nat)(w:World)(h:b<18446744073709551616):
  Calls Tryz.prog 246 #[.float .f64 0,.float .f64 b] w fun r w'=>r=.returned (.float .f64 (bY (fS b) 0))∧w=w':=by
 have u:∀W,(callFunc 109 #[.float .f64 0]).run Tryz.prog W=.ok (.value (.int .u64 0)) W:=fun W=>kn 0 W
 have z:=fun W=>kn b W
 have l:bits .andNot .u64 0 9223372036854775808=0:=by decide+kernel
 have d:=vz b h
 cases hs:fS b
 ·rw[hs]at d
  simp only[Bool.false_eq_true,if_false]at d
  rw[aQ]
  have hF:∀W,(callFunc 216 #[.int .u64 0]).run Tryz.prog W=.ok (.value (.float .f64 0)) W:=fun W=>dW 0 W
  have f:bits .or .u64 0 0=0:=by decide+kernel
  go_enter Tryz.func246,Tryz.ntmps246
  go_wp2_with(simp only[l,d,f])
  go_ret
  exact⟨rfl,rfl⟩
 ·rw[hs]at d
  simp only[if_true]at d
  rw[cu]
  have hF:∀W,(callFunc 216 #[.int .u64 9223372036854775808]).run Tryz.prog W=.ok (.value (.float .f64 9223372036854775808)) W:=fun W=>dW 9223372036854775808 W
  have f:bits .or .u64 0 9223372036854775808=9223372036854775808:=by decide+kernel
  go_enter Tryz.func246,Tryz.ntmps246
  go_wp2_with(simp only[l,d,f])
  go_ret
  exact⟨rfl,rfl⟩
theorem sR(s:Int)(o:Nat)(w:World)(d:(s=1∧o=9218868437227405312)∨(s= -1∧o=18442240474082181120)):
  Calls Tryz.prog 247 #[.int .i64 s] w fun e w'=>e=.returned (.float .f64 o)∧w=w':=by
 have f:∀W,(callFunc 216 #[.int .u64 9218868437227405312]).run Tryz.prog W=.ok (.value (.float .f64 9218868437227405312)) W:=fun W=>dW 9218868437227405312 W
 have h:∀W,(callFunc 216 #[.int .u64 18442240474082181120]).run Tryz.prog W=.ok (.value (.float .f64 18442240474082181120)) W:=fun W=>dW 18442240474082181120 W
 rcases d with⟨rfl,rfl⟩|⟨rfl,rfl⟩
 all_goals
  go_enter Tryz.func247,Tryz.ntmps247
  go_wp2
  go_ret
  exact⟨rfl,rfl⟩
theorem ik(b q r:Nat)(e:Int)(o:Option Ordering)(w:World)(u:FloatKind.f64.format.order q 4503599627370496=o)
  (l:(o=some .lt∧e= -52∧∀i w',(binOp .mul i (.float .f64 b) (.float .f64 4841369599423283200)).run Tryz.prog w'=.ok (.float .f64 r) w')∨(o=some .eq∧e=0∧r=b)∨(o=some .gt∧e=0∧r=b))
  (f:∀w',Calls Tryz.prog 274 #[.float .f64 b] w' fun r d=>r=.returned (.float .f64 q)∧w'=d):
  Calls Tryz.prog 245 #[.float .f64 b] w fun s w'=>s=.returned (.tuple #[.float .f64 r,.int .i64 e])∧w=w':=by
 have h:=aa f
 clear f
 rcases l with⟨rfl,rfl,D⟩|⟨rfl,rfl,rfl⟩|⟨rfl,rfl,rfl⟩
 all_goals
  go_enter Tryz.func245,Tryz.ntmps245
  go_wp2_with fail
  refine(uH h _).mono ?_
  rintro e z ⟨rfl,rfl⟩
  clear h
  go_wp2
  exact bodyPost_ret (v:=.tuple #[.float .f64 r,.int .i64 _]) (by simp[results,Tryz.results245,go_sem];try rfl) rfl ⟨rfl,rfl⟩
theorem xJ(a x z p:Nat)(n e E:Int)(o:Option Ordering)(w:World)(M:FloatKind.f64.format.order a 0=o)(K:o=some .lt∨o=some .gt)
  (N:p<2048) (O:-5000≤n∧n≤5000) (Q:-52≤e∧e≤0) (U:(x:Int)/4503599627370496<4096) (V:bits .and .i64 ((x:Int)/4503599627370496) 2047=(p:Int)) (X:n+e+((p:Int)-1023)=E) (L:E< -1075)
  (h:∀w',Calls Tryz.prog 243 #[.float .f64 a,.int .i64 0] w' fun r d=>r=.returned (.bool false)∧w'=d)
  (l:∀w',Calls Tryz.prog 244 #[.float .f64 a] w' fun r d=>r=.returned (.bool false)∧w'=d)
  (u:∀w',Calls Tryz.prog 245 #[.float .f64 a] w' fun r d=>r=.returned (.tuple #[.float .f64 x,.int .i64 e])∧w'=d)
  (D:∀w',Calls Tryz.prog 246 #[.float .f64 0,.float .f64 x] w' fun r d=>r=.returned (.float .f64 z)∧w'=d)
  (Y:∀W,(callFunc 109 #[.float .f64 x]).run Tryz.prog W=.ok (.value (.int .u64 x)) W):
  Calls Tryz.prog 215 #[.float .f64 a,.int .i64 n] w fun r w'=>r=.returned (.float .f64 z)∧w=w':=by
 have F:=aa h;have G:=aa l;have H:=aa u;have J:=aa D
 clear h l u D
 have Z:decide (E< -1075)=true:=decide_eq_true L
 rcases K with rfl|rfl
 all_goals
  go_enter Tryz.func215,Tryz.ntmps215
  go_wp2_with fail
  refine(uH F _).mono ?_
  rintro e f ⟨rfl,rfl⟩
  go_wp2_with fail
  refine(uH G _).mono ?_
  rintro e f ⟨rfl,rfl⟩
  go_wp2_with fail
  refine(uH H _).mono ?_
  rintro e f ⟨rfl,rfl⟩
  clear F G H
  go_wp2_with fail
  refine(uH J _).mono ?_
  rintro e f ⟨rfl,rfl⟩
  clear J
  go_wp2
  go_ret
  exact⟨rfl,rfl⟩
theorem uG(a x z p:Nat)(n e E:Int)(o f:Option Ordering)(w:World)(U:FloatKind.f64.format.order a 0=o)(L:o=some .lt∨o=some .gt)(M:FloatKind.f64.format.order x 0=f)
  (N:(f=some .lt∧z=18442240474082181120)∨(f=some .gt∧z=9218868437227405312))
  (V:p<2048) (X:-5000≤n∧n≤5000) (Y:-52≤e∧e≤0) (Z:(x:Int)/4503599627370496<4096) (hA:bits .and .i64 ((x:Int)/4503599627370496) 2047=(p:Int)) (hE:n+e+((p:Int)-1023)=E) (O:1023<E)
  (l:∀w',Calls Tryz.prog 243 #[.float .f64 a,.int .i64 0] w' fun r d=>r=.returned (.bool false)∧w'=d)
  (u:∀w',Calls Tryz.prog 244 #[.float .f64 a] w' fun r d=>r=.returned (.bool false)∧w'=d)
  (D:∀w',Calls Tryz.prog 245 #[.float .f64 a] w' fun r d=>r=.returned (.tuple #[.float .f64 x,.int .i64 e])∧w'=d)
  (hB:∀W,(callFunc 109 #[.float .f64 x]).run Tryz.prog W=.ok (.value (.int .u64 x)) W):
  Calls Tryz.prog 215 #[.float .f64 a,.int .i64 n] w fun r w'=>r=.returned (.float .f64 z)∧w=w':=by
 have F:=aa l;have G:=aa u;have H:=aa D
 have J:=aa (fun w'=>sR 1 9218868437227405312 w' (by decide))
 have K:=aa (fun w'=>sR (-1) 18442240474082181120 w' (by decide))
 clear l u D
 have d1:decide (E< -1075)=false:=decide_eq_false (by omega)
 have d2:decide (1023<E)=true:=decide_eq_true O
 have Q:-1075≤E:=by omega
 rcases N with⟨rfl,rfl⟩|⟨rfl,rfl⟩<;>rcases L with rfl|rfl
 all_goals
  go_enter Tryz.func215,Tryz.ntmps215
  go_wp2_with fail
  refine(uH F _).mono ?_
  rintro e h ⟨rfl,rfl⟩
  go_wp2_with fail
  refine(uH G _).mono ?_
  rintro e h ⟨rfl,rfl⟩
  go_wp2_with fail
  refine(uH H _).mono ?_
  rintro e h ⟨rfl,rfl⟩
  clear F G H
  go_wp2_with fail
  first|refine(uH J _).mono ?_ |refine(uH K _).mono ?_
  rintro e h ⟨rfl,rfl⟩
  clear J K
  go_wp2
  go_ret
  exact⟨rfl,rfl⟩
theorem xK(a x y v r p:Nat)(n e E:Int)(o:Option Ordering)(w:World)(H:FloatKind.f64.format.order a 0=o)(G:o=some .lt∨o=some .gt)
  (J:p<2048) (K:-5000≤n∧n≤5000) (L:-52≤e∧e≤0) (M:(x:Int)/4503599627370496<4096) (N:bits .and .i64 ((x:Int)/4503599627370496) 2047=(p:Int)) (O:n+e+((p:Int)-1023)=E) (Q:-1022≤E) (U:E≤1023)
  (V:bits .andNot .u64 (x:Int) 9218868437227405312=(y:Int)) (X:bits .or .u64 (y:Int) ((E+1023)*4503599627370496)=(v:Int))
  (hF:∀W,(callFunc 216 #[.int .u64 v]).run Tryz.prog W=.ok (.value (.float .f64 v)) W)
  (Y:∀i w',(binOp .mul i (.float .f64 4607182418800017408) (.float .f64 v)).run Tryz.prog w'=.ok (.float .f64 r) w')
  (f:∀w',Calls Tryz.prog 243 #[.float .f64 a,.int .i64 0] w' fun r d=>r=.returned (.bool false)∧w'=d)
  (h:∀w',Calls Tryz.prog 244 #[.float .f64 a] w' fun r d=>r=.returned (.bool false)∧w'=d)
  (l:∀w',Calls Tryz.prog 245 #[.float .f64 a] w' fun r d=>r=.returned (.tuple #[.float .f64 x,.int .i64 e])∧w'=d)
  (Z:∀W,(callFunc 109 #[.float .f64 x]).run Tryz.prog W=.ok (.value (.int .u64 x)) W):
  Calls Tryz.prog 215 #[.float .f64 a,.int .i64 n] w fun s w'=>s=.returned (.float .f64 r)∧w=w':=by
 have u:=aa f;have z:=aa h;have D:=aa l
 clear f h l
 have d1:decide (E< -1075)=false:=decide_eq_false (by omega)
 have d2:decide (1023<E)=false:=decide_eq_false (by omega)
 have d3:decide (E< -1022)=false:=decide_eq_false (by omega)
 rcases G with rfl|rfl
 all_goals
  go_enter Tryz.func215,Tryz.ntmps215
  go_wp2_with fail
  refine(uH u _).mono ?_
  rintro e F ⟨rfl,rfl⟩
  go_wp2_with fail
  refine(uH z _).mono ?_
  rintro e F ⟨rfl,rfl⟩
  go_wp2_with fail
  refine(uH D _).mono ?_
  rintro e F ⟨rfl,rfl⟩
  clear u z D
  go_wp2
  go_ret
  exact⟨rfl,rfl⟩
theorem xL(a x y v r p:Nat)(n e E:Int)(o:Option Ordering)(w:World)(H:FloatKind.f64.format.order a 0=o)(G:o=some .lt∨o=some .gt)
  (J:p<2048) (K:-5000≤n∧n≤5000) (L:-52≤e∧e≤0) (M:(x:Int)/4503599627370496<4096) (N:bits .and .i64 ((x:Int)/4503599627370496) 2047=(p:Int)) (O:n+e+((p:Int)-1023)=E) (Q:-1075≤E) (U:E< -1022)
  (V:bits .andNot .u64 (x:Int) 9218868437227405312=(y:Int)) (X:bits .or .u64 (y:Int) ((E+53+1023)*4503599627370496)=(v:Int))
  (hF:∀W,(callFunc 216 #[.int .u64 v]).run Tryz.prog W=.ok (.value (.float .f64 v)) W)
  (Y:∀i w',(binOp .mul i (.float .f64 4368491638549381120) (.float .f64 v)).run Tryz.prog w'=.ok (.float .f64 r) w')
  (f:∀w',Calls Tryz.prog 243 #[.float .f64 a,.int .i64 0] w' fun r d=>r=.returned (.bool false)∧w'=d)
  (h:∀w',Calls Tryz.prog 244 #[.float .f64 a] w' fun r d=>r=.returned (.bool false)∧w'=d)
  (l:∀w',Calls Tryz.prog 245 #[.float .f64 a] w' fun r d=>r=.returned (.tuple #[.float .f64 x,.int .i64 e])∧w'=d)
  (Z:∀W,(callFunc 109 #[.float .f64 x]).run Tryz.prog W=.ok (.value (.int .u64 x)) W):
  Calls Tryz.prog 215 #[.float .f64 a,.int .i64 n] w fun s w'=>s=.returned (.float .f64 r)∧w=w':=by
 have u:=aa f;have z:=aa h;have D:=aa l
 clear f h l
 have d1:decide (E< -1075)=false:=decide_eq_false (by omega)
 have d2:decide (1023<E)=false:=decide_eq_false (by omega)
 have d3:decide (E< -1022)=true:=decide_eq_true (by omega)
 rcases G with rfl|rfl
 all_goals
  go_enter Tryz.func215,Tryz.ntmps215
  go_wp2_with fail
  refine(uH u _).mono ?_
  rintro e F ⟨rfl,rfl⟩
  go_wp2_with fail
  refine(uH z _).mono ?_
  rintro e F ⟨rfl,rfl⟩
  go_wp2_with fail
  refine(uH D _).mono ?_
  rintro e F ⟨rfl,rfl⟩
  clear u z D
  go_wp2
  go_ret
  exact⟨rfl,rfl⟩
theorem uI(a:Nat)(n:Int)(w:World)(d:FloatKind.f64.format.order a 0=some .eq):
  Calls Tryz.prog 215 #[.float .f64 a,.int .i64 n] w fun s w'=>s=.returned (.float .f64 a)∧w=w':=by
 go_enter Tryz.func215,Tryz.ntmps215
 go_wp2
 go_ret
 exact⟨rfl,rfl⟩
theorem pP(a:Nat)(n:Int)(i k:Bool)(o:Option Ordering)(w:World)(G:FloatKind.f64.format.order a 0=o)(f:o=none∨o=some .lt∨o=some .gt)(D:(i=true)∨(i=false∧k=true))
  (h:∀w',Calls Tryz.prog 243 #[.float .f64 a,.int .i64 0] w' fun r d=>r=.returned (.bool i)∧w'=d)
  (l:∀w',Calls Tryz.prog 244 #[.float .f64 a] w' fun r d=>r=.returned (.bool k)∧w'=d):
  Calls Tryz.prog 215 #[.float .f64 a,.int .i64 n] w fun s w'=>s=.returned (.float .f64 a)∧w=w':=by
 have u:=aa h;have F:=aa l
 clear h l
 rcases D with rfl|⟨rfl,rfl⟩
 ·rcases f with rfl|rfl|rfl
  all_goals
   go_enter Tryz.func215,Tryz.ntmps215
   go_wp2_with fail
   refine(uH u _).mono ?_
   rintro e z ⟨rfl,rfl⟩
   go_wp2
   go_ret
   exact⟨rfl,rfl⟩
 ·rcases f with rfl|rfl|rfl
  all_goals
   go_enter Tryz.func215,Tryz.ntmps215
   go_wp2_with fail
   refine(uH u _).mono ?_
   rintro e z ⟨rfl,rfl⟩
   go_wp2_with fail
   refine(uH F _).mono ?_
   rintro e z ⟨rfl,rfl⟩
   go_wp2
   go_ret
   exact⟨rfl,rfl⟩
theorem Au(a r:Nat)(n:Int)(w:World)
  (f:∀w',Calls Tryz.prog 215 #[.float .f64 a,.int .i64 n] w' fun s d=>s=.returned (.float .f64 r)∧w'=d):
  Calls Tryz.prog 161 #[.float .f64 a,.int .i64 n] w fun s w'=>s=.returned (.float .f64 r)∧w=w':=by
 have h:=aa f
 clear f
 go_enter Tryz.func161,Tryz.ntmps161
 go_wp2_with fail
 refine(uH h _).mono ?_
 rintro e l ⟨rfl,rfl⟩
 clear h
 go_wp2
 go_ret
 exact⟨rfl,rfl⟩
theorem qP(x y:Nat)(d:x<18446744073709551616)(f:y<18446744073709551616)(h:mN x y=false)(i:TypeId)(w:World):
  (binOp .mul i (.float .f64 x) (.float .f64 y)).run Tryz.prog w=.ok (.float .f64 (mV x y)) w:=by
 have:=sO i x y w
 rw[kZ x y d f h]at this
 exact this
theorem uJ{x y:Nat}(d:aA x=true)(f:aA y=true):mN x y=false:=by
 obtain⟨h,l⟩:=bD d
 obtain⟨u,z⟩:=bD f
 unfold mN
 exact decide_eq_false (by omega)
theorem GC:rv 4607182418800017408=2^1074:=by
 have:=sv 4607182418800017408 (by decide)
 rw[this,show gM 4607182418800017408=2^52 by decide,show 4607182418800017408/4503599627370496-1=1022 by decide]
 exact nD 52 1022 1074 (by decide)
theorem kr{s:Bool}{v:Nat}(h:v<9218868437227405312):aA (bY s v)=true:=(aP _).2.2.2 (by rw[ef s v (by omega)];exact h)
theorem vS{s:Bool}{v:Nat}(h:v<9218868437227405312)(d:v≠0):fK (bY s v)≠0:=fun e=>d (by have:=(aR _).1 e;rwa[ef s v (by omega)]at this)
theorem Av(s:Bool)(v:Nat)(h:v<9218868437227405312)(l:v≠0):mV 4607182418800017408 (bY s v)=bY s v:=by
 have u:aA 4607182418800017408=true:=by decide
 have z:fK 4607182418800017408≠0:=by decide
 have D:fS 4607182418800017408=false:=by decide
 have F:fR 4607182418800017408=4607182418800017408:=by decide
 obtain⟨K,G⟩:∃K:Nat,K=1074:=⟨_,rfl⟩
 have d:=GC
 rw[←G]at d
 have f:=FY (bY s v) (ee s v (by omega)) (kr h)
 rw[ef s v (by omega)]at f
 rw[(k5 _ _ u (kr h) z (vS h l)).1,D,F,d,ef s v (by omega),ii s v (by omega),Bool.false_xor,Nat.mul_comm,nF _ _ _ (-1074) (by omega),f]
theorem lh(r c:Nat)(d:r≤9218868437227405312)(f:c≤9218868437227405312):Ieee.double.order r c=some (compare (rv r:Int) (rv c:Int)):=by
 have:=pB false false r c d f
 rw[aQ,aQ]at this
 exact this
theorem ks{r c:Nat}(d:c≤9218868437227405312)(h:r<c):Ieee.double.order r c=some .lt:=by
 rw[lh r c (by omega) d,Int.compare_eq_lt.2 (by have:=k7 h;omega)]
theorem kt{r c:Nat}(d:r≤9218868437227405312)(h:c<r):Ieee.double.order r c=some .gt:=by
 rw[lh r c d (by omega),Int.compare_eq_gt.2 (by have:=k7 h;omega)]
theorem ku(r:Nat)(d:r≤9218868437227405312):Ieee.double.order r r=some .eq:=by
 rw[lh r r d d,Int.compare_eq_eq.2 rfl]
theorem IJ:fZ 0=0:=by decide
theorem vT(a:Nat)(d:a<18446744073709551616)(f:fK a≠4):Ieee.double.order a 0=some (compare (fZ a) 0):=by
 have:=nB a 0 d (by decide) f (by decide)
 rwa[IJ]at this
theorem il(a:Nat)(d:a<18446744073709551616)(f:fK a≠4)(l:fK a≠0):Ieee.double.order a 0=if fS a=true then some .lt else some .gt:=by
 obtain⟨z,u⟩:=vO a l
 rw[vT a d f,←u]
 by_cases h:fZ a<0
 ·rw[decide_eq_true h,if_pos rfl,Int.compare_eq_lt.2 h]
 ·rw[decide_eq_false h,if_neg (by decide),Int.compare_eq_gt.2 (by omega)]
theorem nQ(a:Nat)(w:World)(z:a<18446744073709551616):
  Calls Tryz.prog 243 #[.float .f64 a,.int .i64 0] w fun r w'=>r=.returned (.bool (decide (fK a=3)))∧w=w':=by
 obtain⟨G,u,K⟩:=aP a
 have H:=kf a
 have d:=fun w'=>sP a w' z
 by_cases l:fK a=4
 ·rw[decide_eq_false (by omega)]
  have e:fK (fR a)=4:=by rw[←l];exact Dy (by unfold fR;omega)
  exact kq a (fR a) none false w (kY _ _ (by omega) (by decide) (.inl e)) (.inl ⟨rfl,rfl⟩) d
 ·have D:fR a≤9218868437227405312:=Nat.le_of_not_lt fun h=>l (G.2 h)
  by_cases f:fK a=3
  ·rw[decide_eq_true f]
   exact kq a (fR a) _ true w (kt D (by have:=u.1 f;omega)) (.inr (.inr (.inr ⟨rfl,rfl⟩))) d
  ·rw[decide_eq_false f]
   have J:fR a≠9218868437227405312:=fun h=>f (u.2 h)
   by_cases F:fR a=9218868437227405311
   ·rw[F]at d
    exact kq a _ _ false w (ku _ (by decide)) (.inr (.inr (.inl ⟨rfl,rfl⟩))) d
   ·exact kq a (fR a) _ false w (ks (by decide) (by omega)) (.inr (.inl ⟨rfl,rfl⟩)) d
theorem nR(a:Nat)(w:World)(f:a<18446744073709551616):
  Calls Tryz.prog 244 #[.float .f64 a] w fun r w'=>r=.returned (.bool (decide (fK a=4)))∧w=w':=by
 by_cases d:fK a=4
 ·rw[decide_eq_true d]
  exact sQ a _ _ w (kY a a f f (.inl d)) (.inl ⟨rfl,rfl⟩)
 ·rw[decide_eq_false d]
  exact sQ a _ _ w (by rw[show FloatKind.f64.format.order a a=Ieee.double.order a a from rfl,nB a a f f d d,Int.compare_eq_eq.2 rfl]) (.inr ⟨rfl,rfl⟩)
theorem xM(a:Nat)(d:a<18446744073709551616)(l:aA a=true)(z:fK a≠0):
  ∃(q:Nat) (e:Int),(∀w,Calls Tryz.prog 245 #[.float .f64 a] w fun s w'=>s=.returned (.tuple #[.float .f64 (bY (fS a) q),.int .i64 e])∧w=w')∧
   -52≤e∧e≤0∧4503599627370496≤q∧q<9218868437227405312∧∀n:Int,bf (rv (fR a)) (n-1074)=bf (rv q) (n+e-1074):=by
 have D:=iN a l
 have f:=fun w'=>sP a w' d
 by_cases h:fR a<4503599627370496
 ·have F:fR a≠0:=fun e=>z ((aR a).2 e)
  obtain⟨q,u,H,J,K⟩:=us (fS a) (fR a) F h
  rw[fW a d]at u
  refine⟨q,-52,fun w=>?_,by decide,by decide,H,J,fun n=>by rw[K];congr 1⟩
  refine ik a (fR a) (bY (fS a) q) (-52) _ w (ks (by decide) h) (.inl ⟨rfl,rfl,fun i w'=>?_⟩) f
  rw[←u]
  exact qP a _ d (by decide) (uJ l (by decide)) i w'
 ·refine⟨fR a,0,fun w=>?_,by decide,by decide,by omega,D,fun n=>by congr 1;omega⟩
  rw[fW a d]
  by_cases G:fR a=4503599627370496
  ·rw[G]at f
   exact ik a _ a 0 _ w (ku _ (by decide)) (.inr (.inl ⟨rfl,rfl,rfl⟩)) f
  ·exact ik a (fR a) a 0 _ w (kt (by omega) (by omega)) (.inr (.inr ⟨rfl,rfl,rfl⟩)) f
theorem xN(a:Nat)(n:Int)(w:World)(K:a<18446744073709551616)(fa:aA a=true)(a0:fK a≠0)(L:-5000≤n∧n≤5000):
  Calls Tryz.prog 215 #[.float .f64 a,.int .i64 n] w fun r w'=>r=.returned (.float .f64 (bY (fS a) (bf (rv (fR a)) (n-1074))))∧w=w':=by
 obtain⟨q,e,u,X,Y,q1,q2,hN⟩:=xM a K fa a0
 obtain⟨a3,a4⟩:=bD fa
 have z:=fun w'=>nQ a w' K
 rw[decide_eq_false a3]at z
 have D:=fun w'=>nR a w' K
 rw[decide_eq_false a4]at D
 rw[hN n]
 obtain⟨s,hs⟩:∃s,s=fS a:=⟨_,rfl⟩
 have M:FloatKind.f64.format.order a 0=(if s=true then some .lt else some .gt):=by rw[hs];exact il a K a4 a0
 have N:(if s=true then some Ordering.lt else some Ordering.gt)=some .lt∨(if s=true then some Ordering.lt else some Ordering.gt)=some .gt:=by cases s<;>simp
 rw[←hs]at u⊢
 obtain⟨x,f⟩:∃x,x=bY s q:=⟨_,rfl⟩
 have F:x<18446744073709551616:=by rw[f];exact ee s q (by omega)
 have xR:fR x=q:=by rw[f];exact ef s q (by omega)
 have xS:fS x=s:=by rw[f];exact ii s q (by omega)
 have xf:aA x=true:=by rw[f];exact kr q2
 have x0:fK x≠0:=by rw[f];exact vS q2 (by omega)
 have x4:=(bD xf).2
 rw[←f]at u
 have hp:fP x=q/4503599627370496:=by rw[←xR];rfl
 have O:bits .and .i64 ((x:Int)/4503599627370496) 2047=((fP x:Nat):Int):=by
  have:=At (x/4503599627370496) (by omega)
  rw[show((x:Int)/4503599627370496)=((x/4503599627370496:Nat):Int) by omega]
  refine this.trans ?_
  unfold fP
  congr 1
  omega
 have Q:=fun W=>kn x W
 obtain⟨E,J⟩:∃E:Int,n+e+((fP x:Int)-1023)=E:=⟨_,rfl⟩
 have d:=mQ x
 have hS:=qB q (n+e) E q1 (by rw[←J,hp];omega)
 rw[hS]
 have U:(x:Int)/4503599627370496<4096:=by omega
 have G:q%4503599627370496<4503599627370496:=Nat.mod_lt _ (by decide)
 rcases(show E< -1075∨1023<E∨(-1022≤E∧E≤1023)∨(-1075≤E∧E< -1022) by omega)with h|h|h|h
 ·rw[xu q E h]
  have C4:=fun w'=>o7 x w' F
  rw[xS]at C4
  exact xJ a x (bY s 0) (fP x) n e E _ w M N d L ⟨X,Y⟩ U O J h z D u C4 Q
 ·rw[ur q E h]
  have Z:FloatKind.f64.format.order x 0=(if s=true then some .lt else some .gt):=by rw[←xS];exact il x F x4 x0
  refine uG a x (bY s 9218868437227405312) (fP x) n e E _ _ w M N Z ?_ d L ⟨X,Y⟩ U O J h z D u Q
  cases s
  ·exact .inr ⟨rfl,rfl⟩
  ·exact .inl ⟨rfl,rfl⟩
 ·rw[xt q E h.1 h.2]
  obtain⟨k,hk⟩:∃k:Nat,k=(E+1023).toNat:=⟨_,rfl⟩
  have l:(E+1023)*4503599627370496=((k*4503599627370496:Nat):Int):=by omega
  rw[←hk]
  have hV:=As s (q%4503599627370496) k G (by omega)
  have V:q%4503599627370496+k*4503599627370496<9218868437227405312:=by omega
  have ae:q%4503599627370496+k*4503599627370496≠0:=by omega
  have H:=nO s q (by omega)
  rw[←f]at H
  refine xK a x _ _ _ (fP x) n e E _ w M N d L ⟨X,Y⟩ U O J h.1 h.2 H (by rw[l];exact hV) (fun W=>dW _ W) (fun i w'=>?_) z D u Q
  have:=qP 4607182418800017408 (bY s (q%4503599627370496+k*4503599627370496)) (by decide) (ee _ _ (by omega)) (uJ (by decide) (kr V)) i w'
  rw[Av s _ V ae]at this
  exact this
 ·obtain⟨k,hk⟩:∃k:Nat,k=(E+53+1023).toNat:=⟨_,rfl⟩
  have l:(E+53+1023)*4503599627370496=((k*4503599627370496:Nat):Int):=by omega
  have hZ:=xy s q E h.1 h.2
  rw[←hk]at hZ
  have hV:=As s (q%4503599627370496) k G (by omega)
  have V:q%4503599627370496+k*4503599627370496<9218868437227405312:=by omega
  have H:=nO s q (by omega)
  rw[←f]at H
  refine xL a x _ _ _ (fP x) n e E _ w M N d L ⟨X,Y⟩ U O J h.1 h.2 H (by rw[l];exact hV) (fun W=>dW _ W) (fun i w'=>?_) z D u Q
  have:=qP 4368491638549381120 (bY s (q%4503599627370496+k*4503599627370496)) (by decide) (ee _ _ (by omega)) (uJ (by decide) (kr V)) i w'
  rw[(xr _ _).1,hZ]at this
  exact this
def lV(a:Nat)(n:Int):Nat:=if fK a=4 then a else xV a n
theorem xO(a:Nat)(n:Int)(w:World)(f:a<18446744073709551616)(F:-5000≤n∧n≤5000):
  Calls Tryz.prog 161 #[.float .f64 a,.int .i64 n] w fun r w'=>r=.returned (.float .f64 (lV a n))∧w=w':=by
 refine Au a _ n w fun w'=>?_
 have h:=fun w'=>nQ a w' f
 have u:=fun w'=>nR a w' f
 unfold lV
 by_cases d:fK a=4
 ·rw[if_pos d]
  rw[decide_eq_false (show¬fK a=3 by omega)]at h
  rw[decide_eq_true d]at u
  exact pP a n false true _ w' (kY a 0 f (by decide) (.inl d)) (.inl rfl) (.inr ⟨rfl,rfl⟩) h u
 rw[if_neg d]
 unfold xV
 rw[if_neg d]
 by_cases z:fK a=3
 ·rw[if_pos (Or.inl z)]
  rw[decide_eq_true z]at h
  exact pP a n true _ _ w' (il a f d (by omega)) (by cases fS a<;>simp) (.inl rfl) h u
 by_cases l:fK a=0
 ·rw[if_pos (Or.inr l)]
  have G:fZ a=0:=by
   have:=fY a
   rw[(aR a).1 l,dH]at this
   omega
  exact uI a n w' (by rw[show FloatKind.f64.format.order a 0=Ieee.double.order a 0 from rfl,vT a f d,Int.compare_eq_eq.2 G])
 ·rw[if_neg (by omega)]
  have D:=aY a z d
  obtain⟨β,K,J,L,M⟩:=ij a f D l
  have H:bf (fD a).natAbs (fX a+n)=bf (rv (fR a)) (n-1074):=by
   rw[J,dk];congr 1;omega
  rw[H]
  exact xN a n w' f D l F
theorem Aw(a:Nat)(n:Int)(w:World)(f:a<18446744073709551616):
  Calls Tryz.prog 108 #[.int .u64 (lV a n:Nat)] w fun r w'=>r=.returned (.int .u64 (xV a n:Nat))∧w=w':=by
 unfold lV
 by_cases d:fK a=4
 ·rw[if_pos d]
  have:=eG a w f
  rw[if_pos d]at this
  rw[show xV a n=9221120237041090560 by unfold xV;rw[if_pos d]]
  exact this
 ·rw[if_neg d]
  have:=eG (xV a n) w (gV a n f)
  have h:fK (xV a n)≠4:=by
   unfold xV
   rw[if_neg d]
   split
   ·exact d
   ·exact fc _ _ (cH _ _)
  rw[if_neg h]at this
  exact this
theorem Ax(v u:Nat):2*(cF v u*2^u)≤2*v+2^u∧2*v≤2*(cF v u*2^u)+2^u∧(v%2^u=0→cF v u*2^u=v):=by
 have d:0<2^u:=Nat.two_pow_pos _
 have f:=Nat.div_add_mod v (2^u)
 have h:=Nat.mod_lt v d
 rw[Nat.mul_comm]at f
 unfold cF
 generalize v/2^u=q at*
 generalize v%2^u=r at*
 generalize (2:Nat)^u=p at*
 split
 ·rw[Nat.add_mul,Nat.one_mul]
  exact⟨by omega,by omega,by omega⟩
 ·rw[Nat.add_zero]
  exact⟨by omega,by omega,by omega⟩
theorem sT(T M c d:Nat)(u:c=2*d)(L:0<d)(F:(2*M-1)*(2*M-1)<4*T)(G:4*T<(2*M+1)*(2*M+1)):
  (2*M-1)*c<rS (T*(c*c))∧rS (T*(c*c))<(2*M+1)*c:=by
 obtain⟨X,Y⟩:=bQ (T*(c*c))
 have f:0<c*c:=Nat.mul_pos (by omega) (by omega)
 have z:(2*M-1)*(2*M-1)*(c*c)<4*T*(c*c):=(Nat.mul_lt_mul_right f).2 F
 have D:4*T*(c*c)<(2*M+1)*(2*M+1)*(c*c):=(Nat.mul_lt_mul_right f).2 G
 have H:4*T*(c*c)=4*(T*(c*c)):=Nat.mul_assoc _ _ _
 rw[H]at z D
 rw[←iO]at z D
 have J:(2*M-1)*c=2*((2*M-1)*d):=by rw[u];ac_rfl
 have K:(2*M+1)*c=2*((2*M+1)*d):=by rw[u];ac_rfl
 unfold rS
 generalize T*(c*c)=N at*
 generalize aT N=Q at*
 have l:∀x:Nat,2*x*(2*x)=4*(x*x):=fun x=>by rw[show(4:Nat)=2*2 by decide];ac_rfl
 have O:(2*M-1)*c<2*(Q+1):=cg.1 (by rw[l (Q+1)];omega)
 have U:2*Q<(2*M+1)*c:=cg.1 (by rw[l Q];omega)
 split
 ·rename_i h
  have V:(2*M-1)*c<2*Q:=cg.1 (by rw[l Q];omega)
  exact⟨by omega,by omega⟩
 ·exact⟨by omega,by omega⟩
theorem xP(T M:Nat)(e:Nat)(D:4503599627370496≤M)(F:M<9007199254740992)(K:1≤e)(G:e≤1900)
  (f:(2*M-1)*(2*M-1)<4*T) (h:4*T<(2*M+1)*(2*M+1)) (l:M=4503599627370496→rS (T*(1024*1024))=9223372036854775808):
  bf (rS (T*(1024*1024))) ((e:Int)-1085)=M+e*4503599627370496:=by
 obtain⟨O,Q⟩:=sT T M 1024 512 rfl (by decide) f h
 have L:9223372036854775808≤rS (T*(1024*1024)):=by
  by_cases H:M=4503599627370496
  ·rw[l H];exact Nat.le_refl _
  ·omega
 generalize rS (T*(1024*1024))=W at*
 clear f h l
 have u:bl W=64:=jV (by decide) (by have:(2:Nat)^(64-1)=9223372036854775808:=(by decide);omega) (by have:(2:Nat)^64=18446744073709551616:=(by decide);omega)
 have z:ar W ((e:Int)-1085)=(e:Int)-1074:=by unfold ar;rw[u];omega
 rw[cj W _ (by omega) (by rw[u];omega),z]
 unfold cQ
 rw[z,show(e:Int)-1085-((e:Int)-1074)= -((11:Nat):Int) by omega,cW _ _ (by decide)]
 have J:cF W 11=M:=by
  unfold cF
  rw[show(2:Nat)^11=2048 by decide]
  by_cases N:M*2048≤W
  ·have d:W/2048=M:=by omega
   rw[d,if_neg (by omega),Nat.add_zero]
  ·have d:W/2048=M-1:=by omega
   rw[d,if_pos (by omega)]
   omega
 rw[J,show((e:Int)-1074+1074).toNat=e by omega]
theorem Ih{N q:Nat}(h:q*q=N):rS N=2*q:=by
 have d:aT N=q:=eE (Nat.le_of_eq h) (by have:=cY q;omega)
 unfold rS
 rw[d,if_pos h,Nat.add_zero]
theorem GD{T:Nat}(h:T=4503599627370496*4503599627370496):rS (T*(1024*1024))=9223372036854775808:=
 (Ih (q:=4611686018427387904) (by rw[h])).trans (by decide)
theorem GE{M:Nat}(h:4503599627370496≤M):20282409603651670423947251286016≤M*M:=Nat.le_trans (by decide) (vM h)
theorem Eb{T:Nat}(h:81129638414606681695789005144064≤T*1048576):9007199254740992≤aT (T*2^20):=by
 refine qD ?_
 have d:(2:Nat)^106=81129638414606681695789005144064:=by decide
 have f:(2:Nat)^20=1048576:=by decide
 rw[d,f]
 exact h
theorem IL{T v p:Nat}(d:20282409603651670423947251286016≤v)(f:2*v≤2*T+p)(h:p≤9007199254740992):81129638414606681695789005144064≤T*1048576:=by omega
theorem GF(M:Nat)(d:4503599627370496≤M)(f:M<9007199254740992):bl (M*M)=105∨(bl (M*M)=106∧M≠4503599627370496):=by
 have l:=vM d
 have u:=zL f
 have z:(4503599627370496:Nat)*4503599627370496=2^104:=by decide
 have F:(9007199254740992:Nat)*9007199254740992=2^106:=by decide
 rw[z]at l
 rw[F]at u
 rcases Nat.lt_or_ge (M*M) (2^105)with h|h
 ·exact .inl (jV (by decide) l h)
 ·refine .inr ⟨jV (by decide) h u,fun D=>?_⟩
  rw[D,z]at h
  exact absurd h (by decide)
theorem sU(a:Nat)(h1:600≤fP a)(h2:fP a≤1400):sV (mV a a)=fR a:=by
 have hP:fP a=fR a/4503599627370496:=rfl
 have hF:=Nat.div_add_mod (fR a) 4503599627370496
 have ao:=Nat.mod_lt (fR a) (show 0<4503599627370496 by decide)
 obtain⟨M,hM⟩:∃M,M=4503599627370496+fR a%4503599627370496:=⟨_,rfl⟩
 obtain⟨e,he⟩:∃e,fP a=e+1:=⟨fP a-1,by omega⟩
 have hr:fR a=M+e*4503599627370496:=by omega
 have O:rv (fR a)=M*2^e:=by rw[hr];exact jp M e (by omega) (fun _=>by omega)
 have Q:aA a=true:=(aP a).2.2.2 (by omega)
 have k3:fK a≠3∧fK a≠4:=bD Q
 have k0:fK a≠0:=fun h=>by have:=(aR a).1 h;omega
 --the square,rounded
 have hv:mV a a=bf (M*M) (2*(e:Int)-2148):=by
  rw[(k5 a a Q Q k0 k0).1,Bool.xor_self,aQ,O,show M*2^e*(M*2^e)=M*M*2^(e+e) by rw[Nat.pow_add];ac_rfl,dk]
  congr 1
  omega
 have ap:=GF M (by omega) (by omega)
 have F:M*M≠0:=Nat.mul_ne_zero (by omega) (by omega)
 obtain⟨u,hu⟩:∃u,bl (M*M)=u+53:=⟨bl (M*M)-53,by omega⟩
 have U:ar (M*M) (2*(e:Int)-2148)=(u:Int)+2*e-2148:=by unfold ar;rw[hu];omega
 have f:=ch (M*M) (2*(e:Int)-2148) F
 have G:cQ (M*M) (2*(e:Int)-2148)=cF (M*M) u:=by
  unfold cQ
  rw[U,show 2*(e:Int)-2148-((u:Int)+2*e-2148)= -((u:Nat):Int) by omega,cW _ _ (by omega)]
 have V:mV a a=cF (M*M) u+(u+2*e-1074)*4503599627370496:=by
  rw[hv,cj _ _ F (by rw[hu];omega),U,G,show((u:Int)+2*e-2148+1074).toNat=u+2*e-1074 by omega]
 rw[G]at f
 have H:=f.2.1 (by rw[U];omega)
 have X:rv (mV a a)=cF (M*M) u*2^(u+2*e-1074):=by rw[V];exact jp _ _ f.1 (fun _=>H)
 have am:mV a a<9218868437227405312:=by rw[V];have:=f.1;omega
 have J:fR (mV a a)=mV a a:=by unfold fR;omega
 have s0:fK (mV a a)≠0:=fun h=>by
  have:=(aR _).1 h
  rw[J,V]at this
  omega
 have s4:fK (mV a a)≠4:=fun h=>by
  have:=(aP _).1.1 h
  omega
 have sS:fS (mV a a)=false:=decide_eq_false (by omega)
 have Y:sV (mV a a)=tV (mV a a):=by
  unfold sV
  rw[if_neg s4,if_neg (by rintro(h|h);exact s0 h;omega),if_neg (by rw[sS];decide)]
 obtain⟨c1,L,c3⟩:=Ax (M*M) u
 have D:(u=52∧bl (M*M)=105)∨(u=53∧M≠4503599627370496):=by omega
 have l:=Fb
 have z:=yB
 obtain⟨T,hT⟩:∃T,T=cF (M*M) u*2^u:=⟨_,rfl⟩
 rw[←hT]at c1 L c3
 have t3:M=4503599627370496→rS (T*(1024*1024))=9223372036854775808:=fun N=>by
  rcases D with⟨q,_⟩|⟨_,q⟩
  ·have Z:T=4503599627370496*4503599627370496:=by
    rw[c3 (by rw[q,N]),N]
   exact GD Z
  ·exact absurd N q
 have ax:(2*M-1)*(2*M-1)+4*M=4*(M*M)+1:=by
  obtain⟨x,hx⟩:∃x,M=x+1:=⟨M-1,by omega⟩
  rw[hx,show 2*(x+1)-1=2*x+1 by omega,cY,cY]
  have:2*x*(2*x)=4*(x*x):=by rw[show(4:Nat)=2*2 by decide];ac_rfl
  omega
 have aI:(2*M+1)*(2*M+1)=4*(M*M)+4*M+1:=by
  rw[cY]
  have:2*M*(2*M)=4*(M*M):=by rw[show(4:Nat)=2*2 by decide];ac_rfl
  omega
 have K:(2*M-1)*(2*M-1)<4*T∧4*T<(2*M+1)*(2*M+1):=by
  rcases D with⟨q,_⟩|⟨q,q2⟩
  ·rw[q,l]at c1 L
   omega
  ·rw[q,z]at c1 L
   omega
 have d:=xP T M e (by omega) (by omega) (by omega) (by omega) K.1 K.2 t3
 --as the root of that number
 have hk:T*2^(2*e-1074)=rv (fR (mV a a)):=by
  rw[J,X,hT,Nat.mul_assoc,←Nat.pow_add,show u+(2*e-1074)=u+2*e-1074 by omega]
 have ae:9007199254740992≤aT (T*2^20):=by
  refine Eb (IL (GE (show 4503599627370496≤M by omega)) L ?_)
  rcases D with⟨q,_⟩|⟨q,_⟩
  ·rw[q,l];decide
  ·rw[q,z];exact Nat.le_refl _
 rw[show(1024:Nat)*1024=2^20 by decide]at d
 have:=(nG (mV a a) T (2*e-1074) 20 ((e:Int)-1084) s0 hk (by omega) ae).1
 rw[Y,←this,show(e:Int)-1084-1=(e:Int)-1085 by omega,d,hr]
def cZ(N:Nat):Nat:=N-aT N*aT N
theorem Ii(N p:Nat)(d:p<4):
  (4*cZ N+p<4*aT N+1→aT (4*N+p)=2*aT N∧cZ (4*N+p)=4*cZ N+p)∧
  (¬4*cZ N+p<4*aT N+1→aT (4*N+p)=2*aT N+1∧cZ (4*N+p)=4*cZ N+p-(4*aT N+1)):=by
 obtain⟨D,F⟩:=bQ N
 have f:=cY (aT N)
 have l:=cY (2*aT N)
 have u:=cY (2*aT N+1)
 have z:2*aT N*(2*aT N)=4*(aT N*aT N):=by rw[show(4:Nat)=2*2 by decide];ac_rfl
 unfold cZ
 refine⟨fun h=>?_,fun h=>?_⟩
 ·have e:aT (4*N+p)=2*aT N:=eE (by omega) (by omega)
  refine⟨e,?_⟩
  rw[e]
  omega
 ·have e:aT (4*N+p)=2*aT N+1:=eE (by omega) (by omega)
  refine⟨e,?_⟩
  rw[e]
  omega
theorem Ay(N:Nat):cZ N≤2*aT N:=by
 obtain⟨f,h⟩:=bQ N
 have d:=cY (aT N)
 unfold cZ
 omega
theorem uK(N:Nat):cZ N=0↔aT N*aT N=N:=by
 obtain⟨d,f⟩:=bQ N
 unfold cZ
 omega
theorem Az{N k:Nat}(h:N<k*k):aT N<k:=by
 obtain⟨d,f⟩:=bQ N
 exact cg.1 (by omega)
def li(n i:Nat):Nat:=n/4^(32-i)
theorem xQ(n:Nat)(h:n<18446744073709551616):li n 0=0:=by
 unfold li
 rw[show(4:Nat)^(32-0)=18446744073709551616 by decide]
 omega
theorem AH(n:Nat):li n 32=n:=by
 unfold li
 simp
theorem xT(n i:Nat)(f:i<32):li n (i+1)=4*li n i+n/2^(2*(31-i))%4:=by
 unfold li
 have e:(4:Nat)^(32-i)=4^(32-(i+1))*4:=by rw[←Nat.pow_succ];congr 1;omega
 have d:(2:Nat)^(2*(31-i))=4^(32-(i+1)):=by rw[Nat.pow_mul,show 32-(i+1)=31-i by omega]
 rw[e,d,←Nat.div_div_eq_div_mul]
 omega
theorem Ec(n i:Nat)(h:n<18446744073709551616):li n i<18446744073709551616:=by
 unfold li
 exact Nat.lt_of_le_of_lt (Nat.div_le_self _ _) h
theorem AJ(n i:Nat)(h:n<18446744073709551616):aT (li n i)<4294967296:=Az (Nat.lt_of_lt_of_le (Ec n i h) (by decide))
theorem nU(n i:Nat)(h:n<18446744073709551616)(f:i≤22):aT (n*4^i)<18014398509481984:=by
 refine Az ?_
 have d:(4:Nat)^i≤4^22:=Nat.pow_le_pow_right (by decide) f
 rw[show(4:Nat)^22=17592186044416 by decide]at d
 have l:n*4^i≤n*17592186044416:=Nat.mul_le_mul_left _ d
 omega
theorem xU(n i:Nat):n*4^(i+1)=4*(n*4^i)+0:=by rw[Nat.pow_succ];ac_rfl
def nS(b:Nat):Nat:=(fD b).natAbs*2^(64-bl (fD b).natAbs-((dT b)%2).toNat)
def nT(b:Nat):Int:=dT b+(dT b)%2
theorem iQ(b:Nat)(u:b<18446744073709551616)(z:aA b=true)(D:fK b≠0):
  nS b<18446744073709551616∧4611686018427387904≤nS b:=by
 obtain⟨J,K,L,M,N,O,Q,U⟩:=cw b u z D
 obtain⟨V,G,H⟩:=aU (fD b).natAbs (by omega)
 unfold nS
 have F:=Nat.two_pow_pos (64-bl (fD b).natAbs-((dT b)%2).toNat)
 have d:=(Nat.mul_lt_mul_right F).2 H
 have f:=Nat.mul_le_mul_right (2^(64-bl (fD b).natAbs-((dT b)%2).toNat)) G
 rw[←Nat.pow_add]at d f
 have h:2^(bl (fD b).natAbs+(64-bl (fD b).natAbs-((dT b)%2).toNat))≤2^64:=Nat.pow_le_pow_right (by decide) (by omega)
 have l:2^62≤2^(bl (fD b).natAbs-1+(64-bl (fD b).natAbs-((dT b)%2).toNat)):=Nat.pow_le_pow_right (by decide) (by omega)
 rw[show(2:Nat)^64=18446744073709551616 by decide]at h
 rw[show(2:Nat)^62=4611686018427387904 by decide]at l
 exact⟨Nat.lt_of_lt_of_le d h,Nat.le_trans l f⟩
theorem Ed(a:Nat)(h:a<18446744073709551616)(l:aA a=true)(f:fK a≠0):
  bf (rS (nS a*4^22)) (nT a/2-55)=tV a∧bj (oM (rS (nS a*4^22):Nat)).natAbs (oE (rS (nS a*4^22):Nat) (nT a/2-55))=tF a:=by
 obtain⟨α,H,z,J,K⟩:=ij a h l f
 obtain⟨L,M,N,O,Q,U,V,X⟩:=cw a h l f
 obtain⟨Y,D⟩:=iQ a h l f
 have u:nS a*4^22=(fD a).natAbs*2^(64-bl (fD a).natAbs-((dT a)%2).toNat+44):=by
  unfold nS
  rw[Nat.pow_add,Nat.mul_assoc]
 have d:9007199254740992≤aT (nS a*4^22):=by
  refine qD ?_
  rw[show(2:Nat)^106=4611686018427387904*4^22 by decide]
  exact Nat.mul_le_mul_right _ D
 rw[u]at d⊢
 have F:dT a=(bl (fD a).natAbs:Int)+fX a:=rfl
 have G:nT a=dT a+dT a%2:=rfl
 have:=nG a (fD a).natAbs α (64-bl (fD a).natAbs-((dT a)%2).toNat+44) (nT a/2-54) f z.symm (by omega) d
 rwa[show nT a/2-54-1=nT a/2-55 by omega]at this
theorem Ij(n:Nat)(h:n<18446744073709551616):rS (n*4^22)<36028797018963968:=by
 have:=nU n 22 h (by decide)
 unfold rS
 split<;>omega
end Go.Proofs.YtdhmglmccafbnaaGreatDoor
