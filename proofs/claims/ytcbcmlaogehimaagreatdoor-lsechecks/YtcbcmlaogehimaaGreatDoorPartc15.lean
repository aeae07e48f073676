/- Part 15 of the texts. -/
import Derived.Test.YtcbcmlaogehimaaGreatDoorPartc13
import Derived.Test.YtcbcmlaogehimaaGreatDoorPartc12
import Derived.Test.YtcbcmlaogehimaaGreatDoorPartc14
import Derived.Deep.RegionHeld3
set_option maxHeartbeats 8000000
set_option maxRecDepth 20000
namespace Go.Proofs.YtcbcmlaogehimaaGreatDoor
open Go.RowKit
def aO (s t:Bool):Nat:=if (s && t) = true then 9223372036854775808 else 0
theorem nought_any (a b:Nat) (w:World) (ha:a < 18446744073709551616) (hb:b < 18446744073709551616) :
  Calls Tryz.prog 276 #[.int .u64 a,.int .u64 b] w fun e w'=>e = .returned (.int .u64 (aO (fS a) (fS b):Nat))∧Below w.heap.size w w':=by
 have C1:=hide (fun w'=>ssign_any a w' ha)
 have C2:=hide (fun w'=>ssign_any b w' hb)
 generalize fS a = s at *
 generalize fS b = t at *
 clear ha hb
 go_enter Tryz.func276,Tryz.ntmps276
 go_wp2_with fail
 refine (uH C1 _).mono ?_
 rintro e w1 ⟨rfl,hb1⟩
 cases s
 ·go_wp2
  go_ret
  exact ⟨rfl,hb1⟩
 ·go_wp2_with fail
  refine (uH C2 _).mono ?_
  rintro e w2 ⟨rfl,hb2⟩
  cases t
  ·go_wp2
   go_ret
   exact ⟨rfl,hb1.trans (hb2.mono hb1.size)⟩
  ·go_wp2
   go_ret
   exact ⟨rfl,hb1.trans (hb2.mono hb1.size)⟩
theorem dy_len {w:World} {n:Bool} {a:Option Addr} {l c:Nat} {e m X:Int} (h:IsDy w (.agg #[.bool n,.slice a l c,.int .i64 e]) m X):((l:Int) == 0) = decide (m = 0):=by
 obtain ⟨n',a',c',L',e1,_,e3,_,e5,_⟩:=h.parts
 simp only [Value.agg.injEq,Array.mk.injEq,List.cons.injEq,Value.slice.injEq] at e1
 have e2:=e1.2.1.2.1
 by_cases h0:m = 0
 ·have:L' = []:=(val_zero_of_canon L' e3).1 (by rw [e5,h0];rfl)
  rw [decide_eq_true h0,e2,this];rfl
 ·have:L'.length ≠ 0:=fun h1=>by
   have:L' = []:=List.length_eq_zero_iff.1 h1
   rw [this] at e5
   simp [val] at e5
   omega
  rw [decide_eq_false h0];simp;omega
theorem addFinite_z (a b:Nat) (z1 z2 X1 X2 X3:Int) (w:World) (o:Nat)
  (C1:∀ w',Below w.heap.size w w'→Calls Tryz.prog 168 #[.int .u64 a] w' fun r w''=>DyR w'' r 0 z1 X1∧Below w'.heap.size w' w'')
  (C2:∀ w',Below w.heap.size w w'→Calls Tryz.prog 168 #[.int .u64 b] w' fun r w''=>DyR w'' r 0 z2 X2∧Below w'.heap.size w' w'')
  (C3:∀ w' v u,Below w.heap.size w w'→IsDy w' v z1 X1→IsDy w' u z2 X2→Calls Tryz.prog 275 #[v,u] w' fun r w''=>DyR w'' r 0 0 X3∧Below w'.heap.size w' w'')
  (C4:∀ w',Calls Tryz.prog 276 #[.int .u64 a,.int .u64 b] w' fun r w''=>r = .returned (.int .u64 (o:Nat))∧Below w'.heap.size w' w'') :
  Calls Tryz.prog 248 #[.int .u64 a,.int .u64 b] w fun r w'=>r = .returned (.tuple #[.int .u64 (o:Nat),.int .u8 0])∧Below w.heap.size w w':=by
 have K1:=hide C1;have K2:=hide C2;have K3:=hide C3;have K4:=hide C4
 clear C1 C2 C3 C4
 go_enter Tryz.func248,Tryz.ntmps248
 go_wp2_with fail
 refine (uH K1 _ (Below.refl _ _)).mono ?_
 rintro e w1 ⟨⟨v,rfl,hv⟩,hb1⟩
 obtain ⟨n1,a1,c1,L1,rfl,i1⟩:=hv
 have hb1a:Below w1.heap.size w1 (w1.alloc (.cells #[.bool n1,.slice a1 L1.length c1,.int .i64 X1] 35)):=(Below.refl _ _).alloc (Nat.le_refl _) _
 have HV:=hide ((show IsDy w1 (.agg #[.bool n1,.slice a1 L1.length c1,.int .i64 X1]) z1 X1 from ⟨n1,a1,c1,L1,rfl,i1⟩).below hb1a)
 have X:=hide (Box3.new w1 (.bool n1) (.slice a1 L1.length c1) (.int .i64 X1))
 have B1:=hide (hb1.trans (hb1a.mono hb1.size))
 clear i1 hb1 hb1a K1
 go_wp2_with fail
 refine (uH K2 _ (uH B1)).mono ?_
 rintro e w2 ⟨⟨v,rfl,hv⟩,hb1⟩
 obtain ⟨n2,a2,c2,L2,rfl,i2⟩:=hv
 have hb1a:Below w2.heap.size w2 (w2.alloc (.cells #[.bool n2,.slice a2 L2.length c2,.int .i64 X2] 35)):=(Below.refl _ _).alloc (Nat.le_refl _) _
 have HU:=hide ((show IsDy w2 (.agg #[.bool n2,.slice a2 L2.length c2,.int .i64 X2]) z2 X2 from ⟨n2,a2,c2,L2,rfl,i2⟩).below hb1a)
 have HV2:=hide (((uH HV).below hb1).below hb1a)
 have x1:=((uH X).all hb1).all hb1a
 have x2:=Box3.new w2 (.bool n2) (.slice a2 L2.length c2) (.int .i64 X2)
 have B2:=hide ((uH B1).trans ((hb1.trans (hb1a.mono hb1.size)).mono (uH B1).size))
 have y0:=x1.c0;have y1:=x1.c1;have y2:=x1.c2;have u0:=x2.c0;have u1:=x2.c1;have u2:=x2.c2
 clear i2 hb1 hb1a K2 B1 HV X x1 x2
 go_wp2_with fail
 refine (uH K3 _ _ _ (uH B2) (uH HV2) (uH HU)).mono ?_
 rintro e w3 ⟨⟨v,rfl,hv⟩,hb1⟩
 clear y0 y1 y2 u0 u1 u2
 obtain ⟨n3,a3,c3,L3,rfl,i3⟩:=hv
 have hb1a:Below w3.heap.size w3 (w3.alloc (.cells #[.bool n3,.slice a3 L3.length c3,.int .i64 X3] 35)):=(Below.refl _ _).alloc (Nat.le_refl _) _
 have HX:=hide ((show IsDy w3 (.agg #[.bool n3,.slice a3 L3.length c3,.int .i64 X3]) 0 X3 from ⟨n3,a3,c3,L3,rfl,i3⟩).below hb1a)
 have hl:=dy_len (uH HX)
 rw [decide_eq_true rfl] at hl
 have B3:=hide ((uH B2).trans ((hb1.trans (hb1a.mono hb1.size)).mono (uH B2).size))
 have x3:=Box3.new w3 (.bool n3) (.slice a3 L3.length c3) (.int .i64 X3)
 have y0:=x3.c0;have y1:=x3.c1;have y2:=x3.c2
 clear i3 hb1 hb1a K3 B2 HV2 HU x3
 generalize L3.length = l3 at *
 go_wp2_with fail
 refine (uH K4 _).mono ?_
 rintro e w4 ⟨rfl,hb1⟩
 have B4:=hide ((uH B3).trans (hb1.mono (uH B3).size))
 clear hb1 K4 B3
 go_wp2
 exact bodyPost_ret (v:=.tuple #[.int .u64 o,.int .u8 0]) (by simp [results,Tryz.results248,go_sem]) rfl ⟨rfl,uH B4⟩
theorem addFinite_n (a b:Nat) (z1 z2 z3 X1 X2 X3 fl:Int) (w:World) (o:Nat) (h0:z3 ≠ 0)
  (C1:∀ w',Below w.heap.size w w'→Calls Tryz.prog 168 #[.int .u64 a] w' fun r w''=>DyR w'' r 0 z1 X1∧Below w'.heap.size w' w'')
  (C2:∀ w',Below w.heap.size w w'→Calls Tryz.prog 168 #[.int .u64 b] w' fun r w''=>DyR w'' r 0 z2 X2∧Below w'.heap.size w' w'')
  (C3:∀ w' v u,Below w.heap.size w w'→IsDy w' v z1 X1→IsDy w' u z2 X2→Calls Tryz.prog 275 #[v,u] w' fun r w''=>DyR w'' r 0 z3 X3∧Below w'.heap.size w' w'')
  (C4:∀ w' v,Below w.heap.size w w'→IsDy w' v z3 X3→Calls Tryz.prog 229 #[v] w' fun r w''=>r = .returned (.tuple #[.int .u64 (o:Nat),.int .u8 fl,.int .i64 0])∧Below w'.heap.size w' w'') :
  Calls Tryz.prog 248 #[.int .u64 a,.int .u64 b] w fun r w'=>r = .returned (.tuple #[.int .u64 (o:Nat),.int .u8 fl])∧Below w.heap.size w w':=by
 have K1:=hide C1;have K2:=hide C2;have K3:=hide C3;have K4:=hide C4
 clear C1 C2 C3 C4
 go_enter Tryz.func248,Tryz.ntmps248
 go_wp2_with fail
 refine (uH K1 _ (Below.refl _ _)).mono ?_
 rintro e w1 ⟨⟨v,rfl,hv⟩,hb1⟩
 obtain ⟨n1,a1,c1,L1,rfl,i1⟩:=hv
 have hb1a:Below w1.heap.size w1 (w1.alloc (.cells #[.bool n1,.slice a1 L1.length c1,.int .i64 X1] 35)):=(Below.refl _ _).alloc (Nat.le_refl _) _
 have HV:=hide ((show IsDy w1 (.agg #[.bool n1,.slice a1 L1.length c1,.int .i64 X1]) z1 X1 from ⟨n1,a1,c1,L1,rfl,i1⟩).below hb1a)
 have X:=hide (Box3.new w1 (.bool n1) (.slice a1 L1.length c1) (.int .i64 X1))
 have B1:=hide (hb1.trans (hb1a.mono hb1.size))
 clear i1 hb1 hb1a K1
 go_wp2_with fail
 refine (uH K2 _ (uH B1)).mono ?_
 rintro e w2 ⟨⟨v,rfl,hv⟩,hb1⟩
 obtain ⟨n2,a2,c2,L2,rfl,i2⟩:=hv
 have hb1a:Below w2.heap.size w2 (w2.alloc (.cells #[.bool n2,.slice a2 L2.length c2,.int .i64 X2] 35)):=(Below.refl _ _).alloc (Nat.le_refl _) _
 have HU:=hide ((show IsDy w2 (.agg #[.bool n2,.slice a2 L2.length c2,.int .i64 X2]) z2 X2 from ⟨n2,a2,c2,L2,rfl,i2⟩).below hb1a)
 have HV2:=hide (((uH HV).below hb1).below hb1a)
 have x1:=((uH X).all hb1).all hb1a
 have x2:=Box3.new w2 (.bool n2) (.slice a2 L2.length c2) (.int .i64 X2)
 have B2:=hide ((uH B1).trans ((hb1.trans (hb1a.mono hb1.size)).mono (uH B1).size))
 have y0:=x1.c0;have y1:=x1.c1;have y2:=x1.c2;have u0:=x2.c0;have u1:=x2.c1;have u2:=x2.c2
 clear i2 hb1 hb1a K2 B1 HV X x1 x2
 go_wp2_with fail
 refine (uH K3 _ _ _ (uH B2) (uH HV2) (uH HU)).mono ?_
 rintro e w3 ⟨⟨v,rfl,hv⟩,hb1⟩
 clear y0 y1 y2 u0 u1 u2
 obtain ⟨n3,a3,c3,L3,rfl,i3⟩:=hv
 have hb1a:Below w3.heap.size w3 (w3.alloc (.cells #[.bool n3,.slice a3 L3.length c3,.int .i64 X3] 35)):=(Below.refl _ _).alloc (Nat.le_refl _) _
 have HX:=hide ((show IsDy w3 (.agg #[.bool n3,.slice a3 L3.length c3,.int .i64 X3]) z3 X3 from ⟨n3,a3,c3,L3,rfl,i3⟩).below hb1a)
 have hl:=dy_len (uH HX)
 rw [decide_eq_false h0] at hl
 have B3:=hide ((uH B2).trans ((hb1.trans (hb1a.mono hb1.size)).mono (uH B2).size))
 have x3:=Box3.new w3 (.bool n3) (.slice a3 L3.length c3) (.int .i64 X3)
 have y0:=x3.c0;have y1:=x3.c1;have y2:=x3.c2
 clear i3 hb1 hb1a K3 B2 HV2 HU x3
 generalize L3.length = l3 at *
 go_wp2_with fail
 refine (uH K4 _ _ (uH B3) (uH HX)).mono ?_
 rintro e w4 ⟨rfl,hb1⟩
 have B4:=hide ((uH B3).trans (hb1.mono (uH B3).size))
 clear hb1 K4 B3
 go_wp2
 exact bodyPost_ret (v:=.tuple #[.int .u64 o,.int .u8 fl]) (by simp [results,Tryz.results248,go_sem]) rfl ⟨rfl,uH B4⟩
theorem addFinite_any (a b:Nat) (w:World) (ha:a < 18446744073709551616) (hb:b < 18446744073709551616) (fa:fFin a = true) (fb:fFin b = true) (hT:Tab w) :
  Calls Tryz.prog 248 #[.int .u64 a,.int .u64 b] w fun r w'=>r = .returned (.tuple #[.int .u64 (aV a b:Nat),.int .u8 (aF a b)])∧Below w.heap.size w w':=by
 obtain ⟨a3,a4⟩:fK a ≠ 3∧fK a ≠ 4:=by
  rcases fK_cases a with ⟨h,_⟩ | ⟨_,h⟩
  ·rw [fa] at h;cases h
  ·omega
 obtain ⟨b3,b4⟩:fK b ≠ 3∧fK b ≠ 4:=by
  rcases fK_cases b with ⟨h,_⟩ | ⟨_,h⟩
  ·rw [fb] at h;cases h
  ·omega
 obtain ⟨d1,d2⟩:=fZ_level a ha fa
 obtain ⟨d3,d4⟩:=fZ_level b hb fb
 have l3:=aZ_Lvl a b fa fb
 have C1:∀ w',Below w.heap.size w w'→_:=fun w' h=>value_some a w' ha fa (hT.all h)
 have C2:∀ w',Below w.heap.size w w'→_:=fun w' h=>value_some b w' hb fb (hT.all h)
 have C3:∀ w' v u,Below w.heap.size w w'→IsDy w' v (fD a) (fX a)→IsDy w' u (fD b) (fX b)→_:=fun w' v u h hv hu =>
  addN (W:=2099) (lo:=-1074) (z1:=fZ a) (z2:=fZ b) (by rw [d1,d2];exact hv) (by rw [d3,d4];exact hu) (fZ_Lvl a fa) (fZ_Lvl b fb) l3 (hT.all h)
 rw [(add_f a b a3 a4 b3 b4).1,(add_f a b a3 a4 b3 b4).2]
 by_cases h0:aZ a b = 0
 ·rw [if_pos h0,if_pos h0]
  have hz:fZ a+fZ b = 0:=h0
  rw [hz,oM_zero] at C3
  exact addFinite_z a b _ _ _ _ _ w _ C1 C2 C3 (fun w'=>nought_any a b w' ha hb)
 ·rw [if_neg h0,if_neg h0]
  have C4:∀ w' v,Below w.heap.size w w'→IsDy w' v (oM (aZ a b)) (oE (aZ a b) (-1074))→_:=fun w' v h hv=>round_dy hv l3.right.2 l3.right.1 (hT.all h)
  rw [(rnd_odd (aZ a b) (-1074)).1,oM_sign] at C4
  exact addFinite_n a b _ _ _ _ _ _ _ w _ (oM_ne _ h0).1 C1 C2 C3 C4
end Go.Proofs.YtcbcmlaogehimaaGreatDoor
namespace Go.Proofs.YtcbcmlaogehimaaGreatDoor
open Go.RowKit
theorem sadd_n1 (a b:Nat) (kb:Int) (w:World) 
  (C1:∀ w',Calls Tryz.prog 164 #[.int .u64 a] w' fun r w''=>r = .returned (.int .i64 4)∧Below w'.heap.size w' w'')
  (C2:∀ w',Calls Tryz.prog 164 #[.int .u64 b] w' fun r w''=>r = .returned (.int .i64 kb)∧Below w'.heap.size w' w'') :
  Calls Tryz.prog 215 #[.int .u64 a,.int .u64 b] w fun r w'=>r = .returned (.tuple #[.int .u64 9221120237041090560,.int .u8 0])∧Below w.heap.size w w':=by
 have K1:=hide C1;have K2:=hide C2
 clear C1 C2
 go_enter Tryz.func215,Tryz.ntmps215
 go_wp2_with fail
 refine (uH K1 _).mono ?_
 rintro e w1 ⟨rfl,hb1⟩
 go_wp2_with fail
 refine (uH K2 _).mono ?_
 rintro e w2 ⟨rfl,hb2⟩
 have B:=hide (hb1.trans (hb2.mono hb1.size))
 clear hb1 hb2 K1 K2
 go_wp2
 exact bodyPost_ret (v:=.tuple #[.int .u64 9221120237041090560,.int .u8 0]) (by simp [results,Tryz.results215,go_sem]) rfl ⟨rfl,uH B⟩
theorem sadd_n2 (a b:Nat) (ka:Int) (w:World) (h1:(ka == 4) = false)
  (C1:∀ w',Calls Tryz.prog 164 #[.int .u64 a] w' fun r w''=>r = .returned (.int .i64 ka)∧Below w'.heap.size w' w'')
  (C2:∀ w',Calls Tryz.prog 164 #[.int .u64 b] w' fun r w''=>r = .returned (.int .i64 4)∧Below w'.heap.size w' w'') :
  Calls Tryz.prog 215 #[.int .u64 a,.int .u64 b] w fun r w'=>r = .returned (.tuple #[.int .u64 9221120237041090560,.int .u8 0])∧Below w.heap.size w w':=by
 have K1:=hide C1;have K2:=hide C2
 clear C1 C2
 go_enter Tryz.func215,Tryz.ntmps215
 go_wp2_with fail
 refine (uH K1 _).mono ?_
 rintro e w1 ⟨rfl,hb1⟩
 go_wp2_with fail
 refine (uH K2 _).mono ?_
 rintro e w2 ⟨rfl,hb2⟩
 have B:=hide (hb1.trans (hb2.mono hb1.size))
 clear hb1 hb2 K1 K2
 go_wp2
 exact bodyPost_ret (v:=.tuple #[.int .u64 9221120237041090560,.int .u8 0]) (by simp [results,Tryz.results215,go_sem]) rfl ⟨rfl,uH B⟩
theorem sadd_ii (a b:Nat) (w:World) (h1:((a:Int) == (b:Int)) = false)
  (C1:∀ w',Calls Tryz.prog 164 #[.int .u64 a] w' fun r w''=>r = .returned (.int .i64 3)∧Below w'.heap.size w' w'')
  (C2:∀ w',Calls Tryz.prog 164 #[.int .u64 b] w' fun r w''=>r = .returned (.int .i64 3)∧Below w'.heap.size w' w'') :
  Calls Tryz.prog 215 #[.int .u64 a,.int .u64 b] w fun r w'=>r = .returned (.tuple #[.int .u64 9221120237041090560,.int .u8 16])∧Below w.heap.size w w':=by
 have K1:=hide C1;have K2:=hide C2
 clear C1 C2
 go_enter Tryz.func215,Tryz.ntmps215
 go_wp2_with fail
 refine (uH K1 _).mono ?_
 rintro e w1 ⟨rfl,hb1⟩
 go_wp2_with fail
 refine (uH K2 _).mono ?_
 rintro e w2 ⟨rfl,hb2⟩
 have B:=hide (hb1.trans (hb2.mono hb1.size))
 clear hb1 hb2 K1 K2
 go_wp2
 exact bodyPost_ret (v:=.tuple #[.int .u64 9221120237041090560,.int .u8 16]) (by simp [results,Tryz.results215,go_sem]) rfl ⟨rfl,uH B⟩
theorem sadd_ie (a b:Nat) (w:World) (h1:((a:Int) == (b:Int)) = true)
  (C1:∀ w',Calls Tryz.prog 164 #[.int .u64 a] w' fun r w''=>r = .returned (.int .i64 3)∧Below w'.heap.size w' w'')
  (C2:∀ w',Calls Tryz.prog 164 #[.int .u64 b] w' fun r w''=>r = .returned (.int .i64 3)∧Below w'.heap.size w' w'') :
  Calls Tryz.prog 215 #[.int .u64 a,.int .u64 b] w fun r w'=>r = .returned (.tuple #[.int .u64 a,.int .u8 0])∧Below w.heap.size w w':=by
 have K1:=hide C1;have K2:=hide C2
 clear C1 C2
 go_enter Tryz.func215,Tryz.ntmps215
 go_wp2_with fail
 refine (uH K1 _).mono ?_
 rintro e w1 ⟨rfl,hb1⟩
 go_wp2_with fail
 refine (uH K2 _).mono ?_
 rintro e w2 ⟨rfl,hb2⟩
 have B:=hide (hb1.trans (hb2.mono hb1.size))
 clear hb1 hb2 K1 K2
 go_wp2
 exact bodyPost_ret (v:=.tuple #[.int .u64 a,.int .u8 0]) (by simp [results,Tryz.results215,go_sem]) rfl ⟨rfl,uH B⟩
theorem sadd_i (a b:Nat) (kb:Int) (w:World) (h1:(kb == 4) = false) (h2:(kb == 3) = false)
  (C1:∀ w',Calls Tryz.prog 164 #[.int .u64 a] w' fun r w''=>r = .returned (.int .i64 3)∧Below w'.heap.size w' w'')
  (C2:∀ w',Calls Tryz.prog 164 #[.int .u64 b] w' fun r w''=>r = .returned (.int .i64 kb)∧Below w'.heap.size w' w'') :
  Calls Tryz.prog 215 #[.int .u64 a,.int .u64 b] w fun r w'=>r = .returned (.tuple #[.int .u64 a,.int .u8 0])∧Below w.heap.size w w':=by
 have K1:=hide C1;have K2:=hide C2
 clear C1 C2
 go_enter Tryz.func215,Tryz.ntmps215
 go_wp2_with fail
 refine (uH K1 _).mono ?_
 rintro e w1 ⟨rfl,hb1⟩
 go_wp2_with fail
 refine (uH K2 _).mono ?_
 rintro e w2 ⟨rfl,hb2⟩
 have B:=hide (hb1.trans (hb2.mono hb1.size))
 clear hb1 hb2 K1 K2
 go_wp2
 exact bodyPost_ret (v:=.tuple #[.int .u64 a,.int .u8 0]) (by simp [results,Tryz.results215,go_sem]) rfl ⟨rfl,uH B⟩
theorem sadd_j (a b:Nat) (ka:Int) (w:World) (h1:(ka == 4) = false) (h2:(ka == 3) = false)
  (C1:∀ w',Calls Tryz.prog 164 #[.int .u64 a] w' fun r w''=>r = .returned (.int .i64 ka)∧Below w'.heap.size w' w'')
  (C2:∀ w',Calls Tryz.prog 164 #[.int .u64 b] w' fun r w''=>r = .returned (.int .i64 3)∧Below w'.heap.size w' w'') :
  Calls Tryz.prog 215 #[.int .u64 a,.int .u64 b] w fun r w'=>r = .returned (.tuple #[.int .u64 b,.int .u8 0])∧Below w.heap.size w w':=by
 have K1:=hide C1;have K2:=hide C2
 clear C1 C2
 go_enter Tryz.func215,Tryz.ntmps215
 go_wp2_with fail
 refine (uH K1 _).mono ?_
 rintro e w1 ⟨rfl,hb1⟩
 go_wp2_with fail
 refine (uH K2 _).mono ?_
 rintro e w2 ⟨rfl,hb2⟩
 have B:=hide (hb1.trans (hb2.mono hb1.size))
 clear hb1 hb2 K1 K2
 go_wp2
 exact bodyPost_ret (v:=.tuple #[.int .u64 b,.int .u8 0]) (by simp [results,Tryz.results215,go_sem]) rfl ⟨rfl,uH B⟩
theorem sadd_f (a b:Nat) (ka kb fl:Int) (o:Nat) (w:World) (h1:(ka == 4) = false) (h2:(ka == 3) = false) (h3:(kb == 4) = false) (h4:(kb == 3) = false) (hT:Tab w)
  (C3:∀ w',Tab w'→Calls Tryz.prog 248 #[.int .u64 a,.int .u64 b] w' fun r w''=>r = .returned (.tuple #[.int .u64 (o:Nat),.int .u8 fl])∧Below w'.heap.size w' w'')
  (C1:∀ w',Calls Tryz.prog 164 #[.int .u64 a] w' fun r w''=>r = .returned (.int .i64 ka)∧Below w'.heap.size w' w'')
  (C2:∀ w',Calls Tryz.prog 164 #[.int .u64 b] w' fun r w''=>r = .returned (.int .i64 kb)∧Below w'.heap.size w' w'') :
  Calls Tryz.prog 215 #[.int .u64 a,.int .u64 b] w fun r w'=>r = .returned (.tuple #[.int .u64 (o:Nat),.int .u8 fl])∧Below w.heap.size w w':=by
 have K1:=hide C1;have K2:=hide C2
 clear C1 C2
 go_enter Tryz.func215,Tryz.ntmps215
 go_wp2_with fail
 refine (uH K1 _).mono ?_
 rintro e w1 ⟨rfl,hb1⟩
 go_wp2_with fail
 refine (uH K2 _).mono ?_
 rintro e w2 ⟨rfl,hb2⟩
 have B:=hide (hb1.trans (hb2.mono hb1.size))
 clear hb1 hb2 K1 K2
 have K3:=hide C3;have HT:=hide (hT.all (uH B))
 clear C3 hT
 go_wp2_with fail
 refine (uH K3 _ (uH HT)).mono ?_
 rintro e w3 ⟨rfl,hb3⟩
 have B:=hide ((uH B).trans (hb3.mono (uH B).size))
 clear hb3 K3 HT
 go_wp2
 exact bodyPost_ret (v:=.tuple #[.int .u64 (o:Nat),.int .u8 fl]) (by simp [results,Tryz.results215,go_sem]) rfl ⟨rfl,uH B⟩
theorem sadd_any (a b:Nat) (w:World) (ha:a < 18446744073709551616) (hb:b < 18446744073709551616) (hT:Tab w) :
  Calls Tryz.prog 215 #[.int .u64 a,.int .u64 b] w fun r w'=>r = .returned (.tuple #[.int .u64 (aV a b:Nat),.int .u8 (aF a b)])∧Below w.heap.size w w':=by
 have C1:=fun w'=>kind_any a w' ha
 have C2:=fun w'=>kind_any b w' hb
 by_cases a4:fK a = 4
 ·have e1:aV a b = 9221120237041090560:=by unfold aV;rw [if_pos (Or.inl a4)]
  have e2:aF a b = 0:=by unfold aF;rw [if_pos (Or.inl a4)]
  rw [e1,e2]
  rw [a4] at C1
  exact sadd_n1 a b _ w C1 C2
 by_cases b4:fK b = 4
 ·have e1:aV a b = 9221120237041090560:=by unfold aV;rw [if_pos (Or.inr b4)]
  have e2:aF a b = 0:=by unfold aF;rw [if_pos (Or.inr b4)]
  rw [e1,e2]
  rw [b4] at C2
  exact sadd_n2 a b _ w (by simp [a4]) C1 C2
 have n4:¬ (fK a = 4 ∨ fK b = 4):=by omega
 by_cases a3:fK a = 3
 ·by_cases b3:fK b = 3
  ·by_cases hab:a = b
   ·have e1:aV a b = a:=by unfold aV;rw [if_neg n4,if_pos a3,if_neg (fun h=>h.2 hab)]
    have e2:aF a b = 0:=by unfold aF;rw [if_neg n4,if_pos a3,if_neg (fun h=>h.2 hab)]
    rw [e1,e2]
    rw [a3] at C1
    rw [b3] at C2
    exact sadd_ie a b w (by simp [hab]) C1 C2
   ·have e1:aV a b = 9221120237041090560:=by unfold aV;rw [if_neg n4,if_pos a3,if_pos ⟨b3,hab⟩]
    have e2:aF a b = 16:=by unfold aF;rw [if_neg n4,if_pos a3,if_pos ⟨b3,hab⟩]
    rw [e1,e2]
    rw [a3] at C1
    rw [b3] at C2
    exact sadd_ii a b w (by simp;omega) C1 C2
  ·have e1:aV a b = a:=by unfold aV;rw [if_neg n4,if_pos a3,if_neg (fun h=>b3 h.1)]
   have e2:aF a b = 0:=by unfold aF;rw [if_neg n4,if_pos a3,if_neg (fun h=>b3 h.1)]
   rw [e1,e2]
   rw [a3] at C1
   exact sadd_i a b _ w (by simp [b4]) (by simp [b3]) C1 C2
 ·by_cases b3:fK b = 3
  ·have e1:aV a b = b:=by unfold aV;rw [if_neg n4,if_neg a3,if_pos b3]
   have e2:aF a b = 0:=by unfold aF;rw [if_neg n4,if_neg a3,if_pos b3]
   rw [e1,e2]
   rw [b3] at C2
   exact sadd_j a b _ w (by simp [a4]) (by simp [a3]) C1 C2
  ·exact sadd_f a b _ _ _ _ w (by simp [a4]) (by simp [a3]) (by simp [b4]) (by simp [b3]) hT (fun w' t=>addFinite_any a b w' ha hb (fin_of a a3 a4) (fin_of b b3 b4) t) C1 C2
theorem ssub_any (a b:Nat) (w:World) (ha:a < 18446744073709551616) (hb:b < 18446744073709551616) (hT:Tab w) :
  Calls Tryz.prog 182 #[.int .u64 a,.int .u64 b] w fun r w'=>r = .returned (.tuple #[.int .u64 (aV a (fN b):Nat),.int .u8 (aF a (fN b))])∧Below w.heap.size w w':=by
 have K1:=hide (fun w'=>sminus_any b w' hb)
 have K2:=hide (sadd_any a (fN b) w ha (fN_lt b hb) hT)
 clear ha hb hT
 generalize aV a (fN b) = o at *
 generalize aF a (fN b) = fl at *
 go_enter Tryz.func182,Tryz.ntmps182
 go_wp2_with fail
 refine (uH K1 _).mono ?_
 rintro e w1 ⟨rfl,rfl⟩
 go_wp2_with fail
 refine Calls.mono (uH K2) ?_
 rintro e w2 ⟨rfl,hb2⟩
 have B:=hide hb2
 clear hb2 K1 K2
 go_wp2
 exact bodyPost_ret (v:=.tuple #[.int .u64 o,.int .u8 fl]) (by simp [results,Tryz.results182,go_sem]) rfl ⟨rfl,uH B⟩
end Go.Proofs.YtcbcmlaogehimaaGreatDoor
namespace Go.Proofs.YtcbcmlaogehimaaGreatDoor
open Go.RowKit
theorem tsigned_ways (z a b:Nat) (s t:Bool) (o:Nat) (w:World)
  (C1:∀ w',Calls Tryz.prog 161 #[.int .u64 a] w' fun r w''=>r = .returned (.bool s)∧Below w'.heap.size w' w'')
  (C2:∀ w',Calls Tryz.prog 161 #[.int .u64 b] w' fun r w''=>r = .returned (.bool t)∧Below w'.heap.size w' w'')
  (C3:∀ w',Calls Tryz.prog 162 #[.int .u64 z] w' fun r w''=>r = .returned (.int .u64 (o:Nat))∧w' = w'') :
  Calls Tryz.prog 262 #[.int .u64 z,.int .u64 a,.int .u64 b] w fun r w'=>r = .returned (.int .u64 ((if (s ^^ t) = true then o else z:Nat):Int))∧Below w.heap.size w w':=by
 have K1:=hide C1;have K2:=hide C2;have K3:=hide C3
 clear C1 C2 C3
 go_enter Tryz.func262,Tryz.ntmps262
 go_wp2_with fail
 refine (uH K1 _).mono ?_
 rintro e w1 ⟨rfl,hb1⟩
 go_wp2_with fail
 refine (uH K2 _).mono ?_
 rintro e w2 ⟨rfl,hb2⟩
 have B:=hide (hb1.trans (hb2.mono hb1.size))
 clear hb1 hb2 K1 K2
 cases s <;> cases t
 ·go_wp2
  go_ret
  exact ⟨rfl,uH B⟩
 ·go_wp2_with fail
  refine (uH K3 _).mono ?_
  rintro e w3 ⟨rfl,rfl⟩
  go_wp2
  go_ret
  exact ⟨rfl,uH B⟩
 ·go_wp2_with fail
  refine (uH K3 _).mono ?_
  rintro e w3 ⟨rfl,rfl⟩
  go_wp2
  go_ret
  exact ⟨rfl,uH B⟩
 ·go_wp2
  go_ret
  exact ⟨rfl,uH B⟩
theorem tsigned_any (z a b:Nat) (w:World) (ha:a < 18446744073709551616) (hb:b < 18446744073709551616) (hz:z < 9223372036854775808) :
  Calls Tryz.prog 262 #[.int .u64 z,.int .u64 a,.int .u64 b] w fun r w'=>r = .returned (.int .u64 (wrd (fS a ^^ fS b) z:Nat))∧Below w.heap.size w w':=by
 have h:=tsigned_ways z a b (fS a) (fS b) (fN z) w (fun w'=>ssign_any a w' ha) (fun w'=>ssign_any b w' hb) (fun w'=>sminus_any z w' (by omega))
 have e:(if (fS a ^^ fS b) = true then fN z else z:Nat) = wrd (fS a ^^ fS b) z:=by
  cases (fS a ^^ fS b)
  ·rw [wrd_false];rfl
  ·rw [← fN_wrd z hz];rfl
 rwa [e] at h
theorem mulFinite_n (a b:Nat) (z1 z2 z3 X1 X2 X3 fl:Int) (w:World) (o:Nat)
  (C1:∀ w',Below w.heap.size w w'→Calls Tryz.prog 168 #[.int .u64 a] w' fun r w''=>DyR w'' r 0 z1 X1∧Below w'.heap.size w' w'')
  (C2:∀ w',Below w.heap.size w w'→Calls Tryz.prog 168 #[.int .u64 b] w' fun r w''=>DyR w'' r 0 z2 X2∧Below w'.heap.size w' w'')
  (C3:∀ w' v u,Below w.heap.size w w'→IsDy w' v z1 X1→IsDy w' u z2 X2→Calls Tryz.prog 282 #[v,u] w' fun r w''=>DyR w'' r 0 z3 X3∧Below w'.heap.size w' w'')
  (C4:∀ w' v,Below w.heap.size w w'→IsDy w' v z3 X3→Calls Tryz.prog 229 #[v] w' fun r w''=>r = .returned (.tuple #[.int .u64 (o:Nat),.int .u8 fl,.int .i64 0])∧Below w'.heap.size w' w'') :
  Calls Tryz.prog 263 #[.int .u64 a,.int .u64 b] w fun r w'=>r = .returned (.tuple #[.int .u64 (o:Nat),.int .u8 fl])∧Below w.heap.size w w':=by
 have K1:=hide C1;have K2:=hide C2;have K3:=hide C3;have K4:=hide C4
 clear C1 C2 C3 C4
 go_enter Tryz.func263,Tryz.ntmps263
 go_wp2_with fail
 refine (uH K1 _ (Below.refl _ _)).mono ?_
 rintro e w1 ⟨⟨v,rfl,hv⟩,hb1⟩
 obtain ⟨n1,a1,c1,L1,rfl,i1⟩:=hv
 have hb1a:Below w1.heap.size w1 (w1.alloc (.cells #[.bool n1,.slice a1 L1.length c1,.int .i64 X1] 35)):=(Below.refl _ _).alloc (Nat.le_refl _) _
 have HV:=hide ((show IsDy w1 (.agg #[.bool n1,.slice a1 L1.length c1,.int .i64 X1]) z1 X1 from ⟨n1,a1,c1,L1,rfl,i1⟩).below hb1a)
 have X:=hide (Box3.new w1 (.bool n1) (.slice a1 L1.length c1) (.int .i64 X1))
 have B1:=hide (hb1.trans (hb1a.mono hb1.size))
 clear i1 hb1 hb1a K1
 go_wp2_with fail
 refine (uH K2 _ (uH B1)).mono ?_
 rintro e w2 ⟨⟨v,rfl,hv⟩,hb1⟩
 obtain ⟨n2,a2,c2,L2,rfl,i2⟩:=hv
 have hb1a:Below w2.heap.size w2 (w2.alloc (.cells #[.bool n2,.slice a2 L2.length c2,.int .i64 X2] 35)):=(Below.refl _ _).alloc (Nat.le_refl _) _
 have HU:=hide ((show IsDy w2 (.agg #[.bool n2,.slice a2 L2.length c2,.int .i64 X2]) z2 X2 from ⟨n2,a2,c2,L2,rfl,i2⟩).below hb1a)
 have HV2:=hide (((uH HV).below hb1).below hb1a)
 have x1:=((uH X).all hb1).all hb1a
 have x2:=Box3.new w2 (.bool n2) (.slice a2 L2.length c2) (.int .i64 X2)
 have B2:=hide ((uH B1).trans ((hb1.trans (hb1a.mono hb1.size)).mono (uH B1).size))
 have y0:=x1.c0;have y1:=x1.c1;have y2:=x1.c2;have u0:=x2.c0;have u1:=x2.c1;have u2:=x2.c2
 clear i2 hb1 hb1a K2 B1 HV X x1 x2
 go_wp2_with fail
 refine (uH K3 _ _ _ (uH B2) (uH HV2) (uH HU)).mono ?_
 rintro e w3 ⟨⟨v,rfl,hv⟩,hb1⟩
 clear y0 y1 y2 u0 u1 u2
 obtain ⟨n3,a3,c3,L3,rfl,i3⟩:=hv
 have hb1a:Below w3.heap.size w3 (w3.alloc (.cells #[.bool n3,.slice a3 L3.length c3,.int .i64 X3] 35)):=(Below.refl _ _).alloc (Nat.le_refl _) _
 have HX:=hide ((show IsDy w3 (.agg #[.bool n3,.slice a3 L3.length c3,.int .i64 X3]) z3 X3 from ⟨n3,a3,c3,L3,rfl,i3⟩).below hb1a)
 have B3:=hide ((uH B2).trans ((hb1.trans (hb1a.mono hb1.size)).mono (uH B2).size))
 have x3:=Box3.new w3 (.bool n3) (.slice a3 L3.length c3) (.int .i64 X3)
 have y0:=x3.c0;have y1:=x3.c1;have y2:=x3.c2
 clear i3 hb1 hb1a K3 B2 HV2 HU x3
 generalize L3.length = l3 at *
 go_wp2_with fail
 refine (uH K4 _ _ (uH B3) (uH HX)).mono ?_
 rintro e w4 ⟨rfl,hb1⟩
 have B4:=hide ((uH B3).trans (hb1.mono (uH B3).size))
 clear hb1 K4 B3
 go_wp2
 exact bodyPost_ret (v:=.tuple #[.int .u64 o,.int .u8 fl]) (by simp [results,Tryz.results263,go_sem]) rfl ⟨rfl,uH B4⟩
theorem p4196:(2:Nat) ^ 2098 * 2 ^ 2098 = 2 ^ 4196:=by decide +kernel
theorem mZ_Lvl (a b:Nat) (fa:fFin a = true) (fb:fFin b = true):Lvl (-1074+-1074) 4196 (fZ a * fZ b):=by
 have h1:=fZ_lt a fa
 have h2:=fZ_lt b fb
 refine ⟨?_,by decide,by decide,by decide⟩
 have h3:=p4196
 have h4:=Nat.two_pow_pos 2098
 rw [Int.natAbs_mul]
 generalize (2:Nat) ^ 4196 = P at *
 generalize (2:Nat) ^ 2098 = Q at *
 rw [← h3]
 exact Nat.mul_lt_mul_of_lt_of_le h1 (Nat.le_of_lt h2) h4
theorem fZ_neg (b:Nat) (h0:fK b ≠ 0):fZ b ≠ 0∧decide (fZ b < 0) = fS b:=by
 have hr:rv (fR b) ≠ 0:=fun e=>h0 ((fK_zero b).2 ((rv_eq0 _).1 e))
 unfold fZ pv
 cases fS b
 ·simp only [Bool.false_eq_true,if_false]
  exact ⟨by omega,decide_eq_false (by omega)⟩
 ·simp only [if_true]
  exact ⟨by omega,decide_eq_true (by omega)⟩
theorem mZ_neg (a b:Nat) (a0:fK a ≠ 0) (b0:fK b ≠ 0):fZ a * fZ b ≠ 0∧decide (fZ a * fZ b < 0) = (fS a ^^ fS b):=by
 obtain ⟨h1,h2⟩:=fZ_neg a a0
 obtain ⟨h3,h4⟩:=fZ_neg b b0
 refine ⟨Int.mul_ne_zero h1 h3,?_⟩
 rw [← h2,← h4]
 generalize fZ a = x at *
 generalize fZ b = y at *
 rcases Int.lt_or_gt_of_ne h1 with hx | hx <;> rcases Int.lt_or_gt_of_ne h3 with hy | hy
 ·have:=Int.mul_pos_of_neg_of_neg hx hy
  rw [decide_eq_true hx,decide_eq_true hy,decide_eq_false (by omega)];rfl
 ·have:=Int.mul_neg_of_neg_of_pos hx hy
  rw [decide_eq_true hx,decide_eq_false (show ¬ y < 0 by omega),decide_eq_true this];rfl
 ·have:=Int.mul_neg_of_pos_of_neg hx hy
  rw [decide_eq_false (show ¬ x < 0 by omega),decide_eq_true hy,decide_eq_true this];rfl
 ·have:=Int.mul_pos hx hy
  rw [decide_eq_false (show ¬ x < 0 by omega),decide_eq_false (show ¬ y < 0 by omega),decide_eq_false (show ¬ x * y < 0 by omega)];rfl
theorem mulFinite_any (a b:Nat) (w:World) (ha:a < 18446744073709551616) (hb:b < 18446744073709551616) (fa:fFin a = true) (fb:fFin b = true) (a0:fK a ≠ 0) (b0:fK b ≠ 0) (hT:Tab w) :
  Calls Tryz.prog 263 #[.int .u64 a,.int .u64 b] w fun r w'=>r = .returned (.tuple #[.int .u64 (mV a b:Nat),.int .u8 (mF a b)])∧Below w.heap.size w w':=by
 obtain ⟨d1,d2⟩:=fZ_level a ha fa
 obtain ⟨d3,d4⟩:=fZ_level b hb fb
 have l3:=mZ_Lvl a b fa fb
 obtain ⟨z0,z1⟩:=mZ_neg a b a0 b0
 have C1:∀ w',Below w.heap.size w w'→_:=fun w' h=>value_some a w' ha fa (hT.all h)
 have C2:∀ w',Below w.heap.size w w'→_:=fun w' h=>value_some b w' hb fb (hT.all h)
 have C3:∀ w' v u,Below w.heap.size w w'→IsDy w' v (fD a) (fX a)→IsDy w' u (fD b) (fX b)→_:=fun w' v u h hv hu =>
  mulN (W1:=2099) (W2:=2099) (W:=4196) (lo1:=-1074) (lo2:=-1074) (z1:=fZ a) (z2:=fZ b) (by rw [d1,d2];exact hv) (by rw [d3,d4];exact hu) (fZ_Lvl a fa) (fZ_Lvl b fb) l3 (hT.all h)
 rw [(mV_fin a b fa fb a0 b0).1,(mV_fin a b fa fb a0 b0).2]
 have C4:∀ w' v,Below w.heap.size w w'→IsDy w' v (oM (fZ a * fZ b)) (oE (fZ a * fZ b) (-1074+-1074))→_:=fun w' v h hv=>round_dy hv l3.right.2 l3.right.1 (hT.all h)
 rw [(rnd_odd (fZ a * fZ b) (-1074+-1074)).1,oM_sign,z1,Int.natAbs_mul,fZ_abs,fZ_abs] at C4
 exact mulFinite_n a b _ _ _ _ _ _ _ w _ C1 C2 C3 C4
theorem tmul_n1 (a b:Nat) (kb:Int) (w:World) 
  (C1:∀ w',Calls Tryz.prog 164 #[.int .u64 a] w' fun r w''=>r = .returned (.int .i64 4)∧Below w'.heap.size w' w'')
  (C2:∀ w',Calls Tryz.prog 164 #[.int .u64 b] w' fun r w''=>r = .returned (.int .i64 kb)∧Below w'.heap.size w' w'') :
  Calls Tryz.prog 232 #[.int .u64 a,.int .u64 b] w fun r w'=>r = .returned (.tuple #[.int .u64 9221120237041090560,.int .u8 0])∧Below w.heap.size w w':=by
 have K1:=hide C1;have K2:=hide C2
 clear C1 C2
 go_enter Tryz.func232,Tryz.ntmps232
 go_wp2_with fail
 refine (uH K1 _).mono ?_
 rintro e w1 ⟨rfl,hb1⟩
 go_wp2_with fail
 refine (uH K2 _).mono ?_
 rintro e w2 ⟨rfl,hb2⟩
 have B:=hide (hb1.trans (hb2.mono hb1.size))
 clear hb1 hb2 K1 K2
 go_wp2
 exact bodyPost_ret (v:=.tuple #[.int .u64 9221120237041090560,.int .u8 0]) (by simp [results,Tryz.results232,go_sem]) rfl ⟨rfl,uH B⟩
theorem tmul_n2 (a b:Nat) (ka:Int) (w:World) (h0:(ka == 4) = false)
  (C1:∀ w',Calls Tryz.prog 164 #[.int .u64 a] w' fun r w''=>r = .returned (.int .i64 ka)∧Below w'.heap.size w' w'')
  (C2:∀ w',Calls Tryz.prog 164 #[.int .u64 b] w' fun r w''=>r = .returned (.int .i64 4)∧Below w'.heap.size w' w'') :
  Calls Tryz.prog 232 #[.int .u64 a,.int .u64 b] w fun r w'=>r = .returned (.tuple #[.int .u64 9221120237041090560,.int .u8 0])∧Below w.heap.size w w':=by
 have K1:=hide C1;have K2:=hide C2
 clear C1 C2
 go_enter Tryz.func232,Tryz.ntmps232
 go_wp2_with fail
 refine (uH K1 _).mono ?_
 rintro e w1 ⟨rfl,hb1⟩
 go_wp2_with fail
 refine (uH K2 _).mono ?_
 rintro e w2 ⟨rfl,hb2⟩
 have B:=hide (hb1.trans (hb2.mono hb1.size))
 clear hb1 hb2 K1 K2
 go_wp2
 exact bodyPost_ret (v:=.tuple #[.int .u64 9221120237041090560,.int .u8 0]) (by simp [results,Tryz.results232,go_sem]) rfl ⟨rfl,uH B⟩
theorem tmul_iz (a b:Nat) (w:World) 
  (C1:∀ w',Calls Tryz.prog 164 #[.int .u64 a] w' fun r w''=>r = .returned (.int .i64 3)∧Below w'.heap.size w' w'')
  (C2:∀ w',Calls Tryz.prog 164 #[.int .u64 b] w' fun r w''=>r = .returned (.int .i64 0)∧Below w'.heap.size w' w'') :
  Calls Tryz.prog 232 #[.int .u64 a,.int .u64 b] w fun r w'=>r = .returned (.tuple #[.int .u64 9221120237041090560,.int .u8 16])∧Below w.heap.size w w':=by
 have K1:=hide C1;have K2:=hide C2
 clear C1 C2
 go_enter Tryz.func232,Tryz.ntmps232
 go_wp2_with fail
 refine (uH K1 _).mono ?_
 rintro e w1 ⟨rfl,hb1⟩
 go_wp2_with fail
 refine (uH K2 _).mono ?_
 rintro e w2 ⟨rfl,hb2⟩
 have B:=hide (hb1.trans (hb2.mono hb1.size))
 clear hb1 hb2 K1 K2
 go_wp2
 exact bodyPost_ret (v:=.tuple #[.int .u64 9221120237041090560,.int .u8 16]) (by simp [results,Tryz.results232,go_sem]) rfl ⟨rfl,uH B⟩
theorem tmul_zi (a b:Nat) (w:World) 
  (C1:∀ w',Calls Tryz.prog 164 #[.int .u64 a] w' fun r w''=>r = .returned (.int .i64 0)∧Below w'.heap.size w' w'')
  (C2:∀ w',Calls Tryz.prog 164 #[.int .u64 b] w' fun r w''=>r = .returned (.int .i64 3)∧Below w'.heap.size w' w'') :
  Calls Tryz.prog 232 #[.int .u64 a,.int .u64 b] w fun r w'=>r = .returned (.tuple #[.int .u64 9221120237041090560,.int .u8 16])∧Below w.heap.size w w':=by
 have K1:=hide C1;have K2:=hide C2
 clear C1 C2
 go_enter Tryz.func232,Tryz.ntmps232
 go_wp2_with fail
 refine (uH K1 _).mono ?_
 rintro e w1 ⟨rfl,hb1⟩
 go_wp2_with fail
 refine (uH K2 _).mono ?_
 rintro e w2 ⟨rfl,hb2⟩
 have B:=hide (hb1.trans (hb2.mono hb1.size))
 clear hb1 hb2 K1 K2
 go_wp2
 exact bodyPost_ret (v:=.tuple #[.int .u64 9221120237041090560,.int .u8 16]) (by simp [results,Tryz.results232,go_sem]) rfl ⟨rfl,uH B⟩
theorem tmul_i (a b:Nat) (kb:Int) (o:Nat) (w:World) (h0:(kb == 4) = false) (h1:(kb == 0) = false)
  (C1:∀ w',Calls Tryz.prog 164 #[.int .u64 a] w' fun r w''=>r = .returned (.int .i64 3)∧Below w'.heap.size w' w'')
  (C2:∀ w',Calls Tryz.prog 164 #[.int .u64 b] w' fun r w''=>r = .returned (.int .i64 kb)∧Below w'.heap.size w' w'')
  (C3:∀ w',Calls Tryz.prog 262 #[.int .u64 9218868437227405312,.int .u64 a,.int .u64 b] w' fun r w''=>r = .returned (.int .u64 (o:Nat))∧Below w'.heap.size w' w'') :
  Calls Tryz.prog 232 #[.int .u64 a,.int .u64 b] w fun r w'=>r = .returned (.tuple #[.int .u64 (o:Nat),.int .u8 0])∧Below w.heap.size w w':=by
 have K1:=hide C1;have K2:=hide C2
 clear C1 C2
 go_enter Tryz.func232,Tryz.ntmps232
 go_wp2_with fail
 refine (uH K1 _).mono ?_
 rintro e w1 ⟨rfl,hb1⟩
 go_wp2_with fail
 refine (uH K2 _).mono ?_
 rintro e w2 ⟨rfl,hb2⟩
 have B:=hide (hb1.trans (hb2.mono hb1.size))
 clear hb1 hb2 K1 K2
 have K3:=hide C3
 clear C3
 go_wp2_with fail
 refine (uH K3 _).mono ?_
 rintro e w3 ⟨rfl,hb3⟩
 have B:=hide ((uH B).trans (hb3.mono (uH B).size))
 clear hb3 K3
 go_wp2
 exact bodyPost_ret (v:=.tuple #[.int .u64 (o:Nat),.int .u8 0]) (by simp [results,Tryz.results232,go_sem]) rfl ⟨rfl,uH B⟩
theorem tmul_j (a b:Nat) (ka:Int) (o:Nat) (w:World) (h0:(ka == 4) = false) (h1:(ka == 0) = false) (h2:(ka == 3) = false)
  (C1:∀ w',Calls Tryz.prog 164 #[.int .u64 a] w' fun r w''=>r = .returned (.int .i64 ka)∧Below w'.heap.size w' w'')
  (C2:∀ w',Calls Tryz.prog 164 #[.int .u64 b] w' fun r w''=>r = .returned (.int .i64 3)∧Below w'.heap.size w' w'')
  (C3:∀ w',Calls Tryz.prog 262 #[.int .u64 9218868437227405312,.int .u64 a,.int .u64 b] w' fun r w''=>r = .returned (.int .u64 (o:Nat))∧Below w'.heap.size w' w'') :
  Calls Tryz.prog 232 #[.int .u64 a,.int .u64 b] w fun r w'=>r = .returned (.tuple #[.int .u64 (o:Nat),.int .u8 0])∧Below w.heap.size w w':=by
 have K1:=hide C1;have K2:=hide C2
 clear C1 C2
 go_enter Tryz.func232,Tryz.ntmps232
 go_wp2_with fail
 refine (uH K1 _).mono ?_
 rintro e w1 ⟨rfl,hb1⟩
 go_wp2_with fail
 refine (uH K2 _).mono ?_
 rintro e w2 ⟨rfl,hb2⟩
 have B:=hide (hb1.trans (hb2.mono hb1.size))
 clear hb1 hb2 K1 K2
 have K3:=hide C3
 clear C3
 go_wp2_with fail
 refine (uH K3 _).mono ?_
 rintro e w3 ⟨rfl,hb3⟩
 have B:=hide ((uH B).trans (hb3.mono (uH B).size))
 clear hb3 K3
 go_wp2
 exact bodyPost_ret (v:=.tuple #[.int .u64 (o:Nat),.int .u8 0]) (by simp [results,Tryz.results232,go_sem]) rfl ⟨rfl,uH B⟩
theorem tmul_z (a b:Nat) (kb:Int) (o:Nat) (w:World) (h0:(kb == 4) = false) (h1:(kb == 3) = false)
  (C1:∀ w',Calls Tryz.prog 164 #[.int .u64 a] w' fun r w''=>r = .returned (.int .i64 0)∧Below w'.heap.size w' w'')
  (C2:∀ w',Calls Tryz.prog 164 #[.int .u64 b] w' fun r w''=>r = .returned (.int .i64 kb)∧Below w'.heap.size w' w'')
  (C3:∀ w',Calls Tryz.prog 262 #[.int .u64 0,.int .u64 a,.int .u64 b] w' fun r w''=>r = .returned (.int .u64 (o:Nat))∧Below w'.heap.size w' w'') :
  Calls Tryz.prog 232 #[.int .u64 a,.int .u64 b] w fun r w'=>r = .returned (.tuple #[.int .u64 (o:Nat),.int .u8 0])∧Below w.heap.size w w':=by
 have K1:=hide C1;have K2:=hide C2
 clear C1 C2
 go_enter Tryz.func232,Tryz.ntmps232
 go_wp2_with fail
 refine (uH K1 _).mono ?_
 rintro e w1 ⟨rfl,hb1⟩
 go_wp2_with fail
 refine (uH K2 _).mono ?_
 rintro e w2 ⟨rfl,hb2⟩
 have B:=hide (hb1.trans (hb2.mono hb1.size))
 clear hb1 hb2 K1 K2
 have K3:=hide C3
 clear C3
 go_wp2_with fail
 refine (uH K3 _).mono ?_
 rintro e w3 ⟨rfl,hb3⟩
 have B:=hide ((uH B).trans (hb3.mono (uH B).size))
 clear hb3 K3
 go_wp2
 exact bodyPost_ret (v:=.tuple #[.int .u64 (o:Nat),.int .u8 0]) (by simp [results,Tryz.results232,go_sem]) rfl ⟨rfl,uH B⟩
theorem tmul_y (a b:Nat) (ka:Int) (o:Nat) (w:World) (h0:(ka == 4) = false) (h1:(ka == 3) = false) (h2:(ka == 0) = false)
  (C1:∀ w',Calls Tryz.prog 164 #[.int .u64 a] w' fun r w''=>r = .returned (.int .i64 ka)∧Below w'.heap.size w' w'')
  (C2:∀ w',Calls Tryz.prog 164 #[.int .u64 b] w' fun r w''=>r = .returned (.int .i64 0)∧Below w'.heap.size w' w'')
  (C3:∀ w',Calls Tryz.prog 262 #[.int .u64 0,.int .u64 a,.int .u64 b] w' fun r w''=>r = .returned (.int .u64 (o:Nat))∧Below w'.heap.size w' w'') :
  Calls Tryz.prog 232 #[.int .u64 a,.int .u64 b] w fun r w'=>r = .returned (.tuple #[.int .u64 (o:Nat),.int .u8 0])∧Below w.heap.size w w':=by
 have K1:=hide C1;have K2:=hide C2
 clear C1 C2
 go_enter Tryz.func232,Tryz.ntmps232
 go_wp2_with fail
 refine (uH K1 _).mono ?_
 rintro e w1 ⟨rfl,hb1⟩
 go_wp2_with fail
 refine (uH K2 _).mono ?_
 rintro e w2 ⟨rfl,hb2⟩
 have B:=hide (hb1.trans (hb2.mono hb1.size))
 clear hb1 hb2 K1 K2
 have K3:=hide C3
 clear C3
 go_wp2_with fail
 refine (uH K3 _).mono ?_
 rintro e w3 ⟨rfl,hb3⟩
 have B:=hide ((uH B).trans (hb3.mono (uH B).size))
 clear hb3 K3
 go_wp2
 exact bodyPost_ret (v:=.tuple #[.int .u64 (o:Nat),.int .u8 0]) (by simp [results,Tryz.results232,go_sem]) rfl ⟨rfl,uH B⟩
theorem tmul_f (a b:Nat) (ka kb:Int) (fl:Int) (o:Nat) (w:World) (h0:(ka == 4) = false) (h1:(ka == 3) = false) (h2:(ka == 0) = false) (h3:(kb == 4) = false) (h4:(kb == 3) = false) (h5:(kb == 0) = false) (hT:Tab w)
  (C1:∀ w',Calls Tryz.prog 164 #[.int .u64 a] w' fun r w''=>r = .returned (.int .i64 ka)∧Below w'.heap.size w' w'')
  (C2:∀ w',Calls Tryz.prog 164 #[.int .u64 b] w' fun r w''=>r = .returned (.int .i64 kb)∧Below w'.heap.size w' w'')
  (C3:∀ w',Tab w'→Calls Tryz.prog 263 #[.int .u64 a,.int .u64 b] w' fun r w''=>r = .returned (.tuple #[.int .u64 (o:Nat),.int .u8 fl])∧Below w'.heap.size w' w'') :
  Calls Tryz.prog 232 #[.int .u64 a,.int .u64 b] w fun r w'=>r = .returned (.tuple #[.int .u64 (o:Nat),.int .u8 fl])∧Below w.heap.size w w':=by
 have K1:=hide C1;have K2:=hide C2
 clear C1 C2
 go_enter Tryz.func232,Tryz.ntmps232
 go_wp2_with fail
 refine (uH K1 _).mono ?_
 rintro e w1 ⟨rfl,hb1⟩
 go_wp2_with fail
 refine (uH K2 _).mono ?_
 rintro e w2 ⟨rfl,hb2⟩
 have B:=hide (hb1.trans (hb2.mono hb1.size))
 clear hb1 hb2 K1 K2
 have K3:=hide C3;have HT:=hide (hT.all (uH B))
 clear C3 hT
 go_wp2_with fail
 refine (uH K3 _ (uH HT)).mono ?_
 rintro e w3 ⟨rfl,hb3⟩
 have B:=hide ((uH B).trans (hb3.mono (uH B).size))
 clear hb3 K3 HT
 go_wp2
 exact bodyPost_ret (v:=.tuple #[.int .u64 (o:Nat),.int .u8 fl]) (by simp [results,Tryz.results232,go_sem]) rfl ⟨rfl,uH B⟩
theorem tmul_any (a b:Nat) (w:World) (ha:a < 18446744073709551616) (hb:b < 18446744073709551616) (hT:Tab w) :
  Calls Tryz.prog 232 #[.int .u64 a,.int .u64 b] w fun r w'=>r = .returned (.tuple #[.int .u64 (mV a b:Nat),.int .u8 (mF a b)])∧Below w.heap.size w w':=by
 have C1:=fun w'=>kind_any a w' ha
 have C2:=fun w'=>kind_any b w' hb
 have CI:=fun w'=>tsigned_any 9218868437227405312 a b w' ha hb (by decide)
 have CZ:=fun w'=>tsigned_any 0 a b w' ha hb (by decide)
 by_cases a4:fK a = 4
 ·rw [show mV a b = 9221120237041090560 by unfold mV;rw [if_pos (Or.inl a4)],show mF a b = 0 by unfold mF;rw [if_pos (Or.inl a4)]]
  rw [a4] at C1
  exact tmul_n1 a b _ w C1 C2
 by_cases b4:fK b = 4
 ·rw [show mV a b = 9221120237041090560 by unfold mV;rw [if_pos (Or.inr b4)],show mF a b = 0 by unfold mF;rw [if_pos (Or.inr b4)]]
  rw [b4] at C2
  exact tmul_n2 a b _ w (by simp [a4]) C1 C2
 have n4:¬ (fK a = 4 ∨ fK b = 4):=by omega
 by_cases h3:fK a = 3 ∨ fK b = 3
 ·by_cases h0:fK a = 0 ∨ fK b = 0
  ·rw [show mV a b = 9221120237041090560 by unfold mV;rw [if_neg n4,if_pos h3,if_pos h0],show mF a b = 16 by unfold mF;rw [if_neg n4,if_pos h3,if_pos h0]]
   by_cases a3:fK a = 3
   ·have b0:fK b = 0:=by omega
    rw [a3] at C1
    rw [b0] at C2
    exact tmul_iz a b w C1 C2
   ·have b3:fK b = 3:=by omega
    have a0:fK a = 0:=by omega
    rw [a0] at C1
    rw [b3] at C2
    exact tmul_zi a b w C1 C2
  ·rw [show mV a b = wrd (fS a ^^ fS b) 9218868437227405312 by unfold mV;rw [if_neg n4,if_pos h3,if_neg h0],show mF a b = 0 by unfold mF;rw [if_neg n4,if_pos h3,if_neg h0]]
   by_cases a3:fK a = 3
   ·rw [a3] at C1
    exact tmul_i a b _ _ w (by simp [b4]) (by simp;omega) C1 C2 CI
   ·have b3:fK b = 3:=by omega
    rw [b3] at C2
    exact tmul_j a b _ _ w (by simp [a4]) (by simp;omega) (by simp [a3]) C1 C2 CI
 ·by_cases h0:fK a = 0 ∨ fK b = 0
  ·have hz:rv (fR a) * rv (fR b) = 0:=by
    rcases h0 with h | h
    ·rw [(rv_eq0 _).2 ((fK_zero a).1 h),Nat.zero_mul]
    ·rw [(rv_eq0 _).2 ((fK_zero b).1 h),Nat.mul_zero]
   rw [show mV a b = wrd (fS a ^^ fS b) 0 by unfold mV;rw [if_neg n4,if_neg h3,hz,rnd_0],show mF a b = 0 by unfold mF;rw [if_neg n4,if_neg h3,if_pos h0]]
   by_cases a0:fK a = 0
   ·rw [a0] at C1
    exact tmul_z a b _ _ w (by simp [b4]) (by simp;omega) C1 C2 CZ
   ·have b0:fK b = 0:=by omega
    rw [b0] at C2
    exact tmul_y a b _ _ w (by simp [a4]) (by simp;omega) (by simp [a0]) C1 C2 CZ
  ·exact tmul_f a b _ _ _ _ w (by simp [a4]) (by simp;omega) (by simp;omega) (by simp [b4]) (by simp;omega) (by simp;omega) hT C1 C2 (fun w' t=>mulFinite_any a b w' ha hb (fin_of a (by omega) a4) (fin_of b (by omega) b4) (by omega) (by omega) t)
end Go.Proofs.YtcbcmlaogehimaaGreatDoor
namespace Go.Proofs.YtcbcmlaogehimaaGreatDoor
open Go.RowKit
def eN (b:Nat):Int:=if fFin b = true then 0 else if fS b = true then -1 else 1
theorem ends_of (b:Nat) (f s:Bool) (w:World)
  (C1:∀ w',Calls Tryz.prog 88 #[.int .u64 b] w' fun r w''=>r = .returned (.bool f)∧w' = w'')
  (C2:∀ w',Calls Tryz.prog 115 #[.int .u64 b] w' fun r w''=>r = .returned (.bool s)∧w' = w'') :
  Calls Tryz.prog 190 #[.int .u64 b] w fun e w'=>e = .returned (.int .i64 (if f = true then 0 else if s = true then -1 else 1))∧w = w':=by
 have K1:=hide C1;have K2:=hide C2
 clear C1 C2
 cases f
 ·cases s
  ·go_enter Tryz.func190,Tryz.ntmps190
   go_wp2_with fail
   refine (uH K1 _).mono ?_
   rintro e w1 ⟨rfl,rfl⟩
   go_wp2_with fail
   refine (uH K2 _).mono ?_
   rintro e w1 ⟨rfl,rfl⟩
   go_wp2
   go_ret
   exact ⟨rfl,rfl⟩
  ·go_enter Tryz.func190,Tryz.ntmps190
   go_wp2_with fail
   refine (uH K1 _).mono ?_
   rintro e w1 ⟨rfl,rfl⟩
   go_wp2_with fail
   refine (uH K2 _).mono ?_
   rintro e w1 ⟨rfl,rfl⟩
   go_wp2
   go_ret
   exact ⟨rfl,rfl⟩
 ·go_enter Tryz.func190,Tryz.ntmps190
  go_wp2_with fail
  refine (uH K1 _).mono ?_
  rintro e w1 ⟨rfl,rfl⟩
  go_wp2
  go_ret
  exact ⟨rfl,rfl⟩
theorem ends_any (b:Nat) (w:World) (hb:b < 18446744073709551616) :
  Calls Tryz.prog 190 #[.int .u64 b] w fun e w'=>e = .returned (.int .i64 (eN b))∧w = w' :=
 ends_of b (fFin b) (fS b) w (fun w'=>rfinite_any b w' hb) (fun w'=>rneg4_any b w' hb)
theorem rorder_n1 (a b:Nat) (w:World)
  (C1:∀ w',Calls Tryz.prog 89 #[.int .u64 a] w' fun r w''=>r = .returned (.int .i64 4)∧w' = w'') :
  Calls Tryz.prog 143 #[.int .u64 a,.int .u64 b] w fun r w'=>r = .returned (.tuple #[.int .i64 0,.bool false])∧Below w.heap.size w w':=by
 have K1:=hide C1
 clear C1
 go_enter Tryz.func143,Tryz.ntmps143
 go_wp2_with fail
 refine (uH K1 _).mono ?_
 rintro e w1 ⟨rfl,rfl⟩
 clear K1
 go_wp2
 exact bodyPost_ret (v:=.tuple #[.int .i64 0,.bool false]) (by simp [results,Tryz.results143,go_sem]) rfl ⟨rfl,Below.refl _ _⟩
theorem rorder_n2 (a b:Nat) (ka:Int) (w:World) (h4:(ka == 4) = false)
  (C1:∀ w',Calls Tryz.prog 89 #[.int .u64 a] w' fun r w''=>r = .returned (.int .i64 ka)∧w' = w'')
  (C2:∀ w',Calls Tryz.prog 89 #[.int .u64 b] w' fun r w''=>r = .returned (.int .i64 4)∧w' = w'') :
  Calls Tryz.prog 143 #[.int .u64 a,.int .u64 b] w fun r w'=>r = .returned (.tuple #[.int .i64 0,.bool false])∧Below w.heap.size w w':=by
 have K1:=hide C1;have K2:=hide C2
 clear C1 C2
 go_enter Tryz.func143,Tryz.ntmps143
 go_wp2_with fail
 refine (uH K1 _).mono ?_
 rintro e w1 ⟨rfl,rfl⟩
 clear K1
 go_wp2_with fail
 refine (uH K2 _).mono ?_
 rintro e w1 ⟨rfl,rfl⟩
 clear K2
 go_wp2
 exact bodyPost_ret (v:=.tuple #[.int .i64 0,.bool false]) (by simp [results,Tryz.results143,go_sem]) rfl ⟨rfl,Below.refl _ _⟩
theorem rorder_i (a b:Nat) (ka kb x y o:Int) (w:World) (h4:(ka == 4) = false) (g4:(kb == 4) = false)
  (hw:(x = 0∧y = -1∧o = 1) ∨ (x = 0∧y = 1∧o = -1) ∨ (x = -1∧y = 0∧o = -1) ∨ (x = 1∧y = 0∧o = 1) ∨ (x = -1∧y = -1∧o = 0) ∨ (x = 1∧y = 1∧o = 0) ∨ (x = -1∧y = 1∧o = -1) ∨ (x = 1∧y = -1∧o = 1))
  (C1:∀ w',Calls Tryz.prog 89 #[.int .u64 a] w' fun r w''=>r = .returned (.int .i64 ka)∧w' = w'')
  (C2:∀ w',Calls Tryz.prog 89 #[.int .u64 b] w' fun r w''=>r = .returned (.int .i64 kb)∧w' = w'')
  (C3:∀ w',Calls Tryz.prog 190 #[.int .u64 a] w' fun r w''=>r = .returned (.int .i64 x)∧w' = w'')
  (C4:∀ w',Calls Tryz.prog 190 #[.int .u64 b] w' fun r w''=>r = .returned (.int .i64 y)∧w' = w'') :
  Calls Tryz.prog 143 #[.int .u64 a,.int .u64 b] w fun r w'=>r = .returned (.tuple #[.int .i64 o,.bool true])∧Below w.heap.size w w':=by
 have K1:=hide C1;have K2:=hide C2;have K3:=hide C3;have K4:=hide C4
 clear C1 C2 C3 C4
 rcases hw with ⟨rfl,rfl,rfl⟩ | ⟨rfl,rfl,rfl⟩ | ⟨rfl,rfl,rfl⟩ | ⟨rfl,rfl,rfl⟩ | ⟨rfl,rfl,rfl⟩ | ⟨rfl,rfl,rfl⟩ | ⟨rfl,rfl,rfl⟩ | ⟨rfl,rfl,rfl⟩
 all_goals
  go_enter Tryz.func143,Tryz.ntmps143
  go_wp2_with fail
  refine (uH K1 _).mono ?_
  rintro e w1 ⟨rfl,rfl⟩
  clear K1
  go_wp2_with fail
  refine (uH K2 _).mono ?_
  rintro e w1 ⟨rfl,rfl⟩
  clear K2
  go_wp2_with fail
  refine (uH K3 _).mono ?_
  rintro e w1 ⟨rfl,rfl⟩
  clear K3
  go_wp2_with fail
  refine (uH K4 _).mono ?_
  rintro e w1 ⟨rfl,rfl⟩
  clear K4
  go_wp2
  refine bodyPost_ret (v:=.tuple #[.int .i64 _,.bool true]) (by simp [results,Tryz.results143,go_sem];try rfl) rfl ⟨rfl,Below.refl _ _⟩
theorem rorder_f (a b:Nat) (ka kb z1 z2 X1 X2 o:Int) (w:World) (h4:(ka == 4) = false) (g4:(kb == 4) = false)
  (C1:∀ w',Calls Tryz.prog 89 #[.int .u64 a] w' fun r w''=>r = .returned (.int .i64 ka)∧w' = w'')
  (C2:∀ w',Calls Tryz.prog 89 #[.int .u64 b] w' fun r w''=>r = .returned (.int .i64 kb)∧w' = w'')
  (C3:∀ w',Calls Tryz.prog 190 #[.int .u64 a] w' fun r w''=>r = .returned (.int .i64 0)∧w' = w'')
  (C4:∀ w',Calls Tryz.prog 190 #[.int .u64 b] w' fun r w''=>r = .returned (.int .i64 0)∧w' = w'')
  (C5:∀ w',Calls Tryz.prog 60 #[.int .u64 a] w' fun r w''=>∃ u,r = .returned u∧IsDy w'' u z1 X1∧Below w'.heap.size w' w'')
  (C6:∀ w',Calls Tryz.prog 60 #[.int .u64 b] w' fun r w''=>∃ u,r = .returned u∧IsDy w'' u z2 X2∧Below w'.heap.size w' w'')
  (C7:∀ w' v u,IsDy w' v z1 X1→IsDy w' u z2 X2→Calls Tryz.prog 33 #[v,u] w' fun r w''=>r = .returned (.int .i64 o)∧Below w'.heap.size w' w'') :
  Calls Tryz.prog 143 #[.int .u64 a,.int .u64 b] w fun r w'=>r = .returned (.tuple #[.int .i64 o,.bool true])∧Below w.heap.size w w':=by
 have K1:=hide C1;have K2:=hide C2;have K3:=hide C3;have K4:=hide C4;have K5:=hide C5;have K6:=hide C6;have K7:=hide C7
 clear C1 C2 C3 C4 C5 C6 C7
 go_enter Tryz.func143,Tryz.ntmps143
 go_wp2_with fail
 refine (uH K1 _).mono ?_
 rintro e w1 ⟨rfl,rfl⟩
 clear K1
 go_wp2_with fail
 refine (uH K2 _).mono ?_
 rintro e w1 ⟨rfl,rfl⟩
 clear K2
 go_wp2_with fail
 refine (uH K3 _).mono ?_
 rintro e w1 ⟨rfl,rfl⟩
 clear K3
 go_wp2_with fail
 refine (uH K4 _).mono ?_
 rintro e w1 ⟨rfl,rfl⟩
 clear K4
 go_wp2_with fail
 refine (uH K5 _).mono ?_
 rintro e w1 ⟨v,rfl,hv,hb1⟩
 obtain ⟨n1,a1,c1,L1,rfl,i1⟩:=hv
 have HV:=hide (show IsDy w1 (.agg #[.bool n1,.slice a1 L1.length c1,.int .i64 X1]) z1 X1 from ⟨n1,a1,c1,L1,rfl,i1⟩)
 have B1:=hide hb1
 clear i1 hb1 K5
 go_wp2_with fail
 refine (uH K6 _).mono ?_
 rintro e w2 ⟨v,rfl,hv,hb1⟩
 obtain ⟨n2,a2,c2,L2,rfl,i2⟩:=hv
 have HU:=hide (show IsDy w2 (.agg #[.bool n2,.slice a2 L2.length c2,.int .i64 X2]) z2 X2 from ⟨n2,a2,c2,L2,rfl,i2⟩)
 have HV2:=hide ((uH HV).below hb1)
 have B2:=hide ((uH B1).trans (hb1.mono (uH B1).size))
 clear i2 hb1 K6 B1 HV
 go_wp2_with fail
 refine (uH K7 _ _ _ (uH HV2) (uH HU)).mono ?_
 rintro e w3 ⟨rfl,hb1⟩
 have B3:=hide ((uH B2).trans (hb1.mono (uH B2).size))
 clear hb1 K7 B2
 go_wp2
 exact bodyPost_ret (v:=.tuple #[.int .i64 o,.bool true]) (by simp [results,Tryz.results143,go_sem]) rfl ⟨rfl,uH B3⟩
theorem eN_fin {b:Nat} (h:fFin b = true):eN b = 0:=by unfold eN;rw [if_pos h]
theorem eN_inf {b:Nat} (h:fK b = 3):(eN b = -1∧fZ b = -((2 ^ 2098:Nat):Int)) ∨ (eN b = 1∧fZ b = ((2 ^ 2098:Nat):Int)):=by
 have hf:fFin b = false:=by
  rcases fK_cases b with h1 | h1
  ·exact h1.1
  ·omega
 have hr:=(fK_rungs b).2.1.1 h
 unfold eN fZ pv
 rw [hr,rv_inf,if_neg (by rw [hf];decide)]
 cases fS b
 ·exact .inr ⟨rfl,rfl⟩
 ·exact .inl ⟨rfl,rfl⟩
theorem rorder_any (a b:Nat) (w:World) (ha:a < 18446744073709551616) (hb:b < 18446744073709551616) :
  Calls Tryz.prog 143 #[.int .u64 a,.int .u64 b] w fun r w'=>r = .returned (.tuple #[.int .i64 (cO a b),.bool (cB a b)])∧Below w.heap.size w w':=by
 have C1:=fun w'=>rkind_any a w' ha
 have C2:=fun w'=>rkind_any b w' hb
 have C3:=fun w'=>ends_any a w' ha
 have C4:=fun w'=>ends_any b w' hb
 unfold cO cB
 by_cases a4:fK a = 4
 ·rw [if_pos (Or.inl a4),if_pos (Or.inl a4)]
  rw [a4] at C1
  exact rorder_n1 a b w C1
 by_cases b4:fK b = 4
 ·rw [if_pos (Or.inr b4),if_pos (Or.inr b4)]
  rw [b4] at C2
  exact rorder_n2 a b _ w (by simp [a4]) C1 C2
 have h:¬ (fK a = 4 ∨ fK b = 4):=fun h=>h.elim a4 b4
 rw [if_neg h,if_neg h]
 have ka:(fK a == 4) = false:=by simp [a4]
 have kb:(fK b == 4) = false:=by simp [b4]
 have hP:(0:Int) < ((2 ^ 2098:Nat):Int):=Int.natCast_pos.2 (Nat.two_pow_pos 2098)
 by_cases a3:fK a = 3
 ·have za:=eN_inf a3
  by_cases b3:fK b = 3
  ·have zb:=eN_inf b3
   rcases za with ⟨x1,x2⟩ | ⟨x1,x2⟩ <;> rcases zb with ⟨y1,y2⟩ | ⟨y1,y2⟩ <;> rw [x1] at C3 <;> rw [y1] at C4 <;> rw [x2,y2] <;> generalize ((2 ^ 2098:Nat):Int) = P at *
   ·rw [cmpI8_eq rfl];exact rorder_i a b _ _ _ _ _ w ka kb (by decide) C1 C2 C3 C4
   ·rw [cmpI8_lt (by omega)];exact rorder_i a b _ _ _ _ _ w ka kb (by decide) C1 C2 C3 C4
   ·rw [cmpI8_gt (by omega)];exact rorder_i a b _ _ _ _ _ w ka kb (by decide) C1 C2 C3 C4
   ·rw [cmpI8_eq rfl];exact rorder_i a b _ _ _ _ _ w ka kb (by decide) C1 C2 C3 C4
  ·have fb:=fin_of b b3 b4
   have l:=fZ_lt b fb
   rw [eN_fin fb] at C4
   rcases za with ⟨x1,x2⟩ | ⟨x1,x2⟩ <;> rw [x1] at C3 <;> rw [x2] <;> generalize (2 ^ 2098:Nat) = P at *
   ·rw [cmpI8_lt (by omega)];exact rorder_i a b _ _ _ _ _ w ka kb (by decide) C1 C2 C3 C4
   ·rw [cmpI8_gt (by omega)];exact rorder_i a b _ _ _ _ _ w ka kb (by decide) C1 C2 C3 C4
 ·have fa:=fin_of a a3 a4
  have la:=fZ_lt a fa
  rw [eN_fin fa] at C3
  by_cases b3:fK b = 3
  ·have zb:=eN_inf b3
   rcases zb with ⟨y1,y2⟩ | ⟨y1,y2⟩ <;> rw [y1] at C4 <;> rw [y2] <;> generalize (2 ^ 2098:Nat) = P at *
   ·rw [cmpI8_gt (by omega)];exact rorder_i a b _ _ _ _ _ w ka kb (by decide) C1 C2 C3 C4
   ·rw [cmpI8_lt (by omega)];exact rorder_i a b _ _ _ _ _ w ka kb (by decide) C1 C2 C3 C4
  ·have fb:=fin_of b b3 b4
   rw [eN_fin fb] at C4
   clear la
   obtain ⟨d1,d2⟩:=fZ_level a ha fa
   obtain ⟨d3,d4⟩:=fZ_level b hb fb
   exact rorder_f a b _ _ (fD a) (fD b) (fX a) (fX b) _ w ka kb C1 C2 C3 C4 (fun w'=>rvalue_any a w' ha) (fun w'=>rvalue_any b w' hb)
    (fun w' v u hv hu=>rcmpN (W:=2099) (lo:=-1074) (z1:=fZ a) (z2:=fZ b) (by rw [d1,d2];exact hv) (by rw [d3,d4];exact hu) (fZ_Lvl a fa) (fZ_Lvl b fb))
theorem r8abs_any (a:Nat) (w:World) (ha:a < 18446744073709551616) :
  Calls Tryz.prog 142 #[.int .u64 a] w fun e w'=>e = .returned (.int .u64 (fR a:Nat))∧w = w':=by
 have K1:=hide (fun w'=>rneg4_any a w' ha)
 have K2:=hide (fun w'=>rminus4_any a w' ha)
 cases hs:fS a
 ·rw [hs] at K1
  rw [abs_plus a hs ha]
  clear hs ha K2
  go_enter Tryz.func142,Tryz.ntmps142
  go_wp2_with fail
  refine (uH K1 _).mono ?_
  rintro e w1 ⟨rfl,rfl⟩
  clear K1
  go_wp2
  go_ret
  exact ⟨rfl,rfl⟩
 ·rw [hs] at K1
  rw [abs_minus a hs ha]
  clear hs ha
  generalize fN a = q at *
  go_enter Tryz.func142,Tryz.ntmps142
  go_wp2_with fail
  refine (uH K1 _).mono ?_
  rintro e w1 ⟨rfl,rfl⟩
  clear K1
  go_wp2_with fail
  refine (uH K2 _).mono ?_
  rintro e w2 ⟨rfl,rfl⟩
  clear K2
  go_wp2
  go_ret
  exact ⟨rfl,rfl⟩
end Go.Proofs.YtcbcmlaogehimaaGreatDoor
namespace Go.Proofs.YtcbcmlaogehimaaGreatDoor
open Go.RowKit
theorem quotient_ways (x y S:Nat) (Q R:Nat→Nat) (w:World) (hy:y < 9007199254740992) (h0:Q 0 = 0∧R 0 = x)
  (hs:∀ i,Q (i+1) = 2 * Q i+(if y≤R i then 1 else 0)∧R (i+1) = 2 * (R i - (if y≤R i then y else 0)))
  (hr:∀ i,R i < 2 * y) (hq:∀ i,i < 55→Q i < 18014398509481984) (h5:Q 55 < 36028797018963968) (he:S = 2 * Q 55+(if 0 < R 55 then 1 else 0)) :
  Calls Tryz.prog 284 #[.int .i64 x,.int .i64 y] w fun r w'=>r = .returned (.int .i64 (S:Nat))∧w = w':=by
 have H0:=hide h0;have HS:=hide hs;have HR:=hide hr;have HQ:=hide hq;have HE:=hide he
 clear h0 hs hr hq he
 go_enter Tryz.func284,Tryz.ntmps284
 go_wp2
 go_loop [0,5,6] (fun p q i=>∃ k:Nat,k≤55∧i = .int .i64 k∧p = .int .i64 (R k:Nat)∧q = .int .i64 (Q k:Nat)) (fun _ _ i=>55 - (intOf i).toNat)
 case atStart=>exact ⟨0,by omega,rfl,by rw [(uH H0).2],by rw [(uH H0).1];rfl⟩
 case round =>
  obtain ⟨k,hk,rfl,rfl,rfl⟩:=hrel
  by_cases hlt:k < 55
  ·have s1:=uH HS k
   have r1:=uH HR k
   have q3:=uH HQ k hlt
   obtain ⟨s2,s3⟩:=s1
   have N1:=hide s2;have N2:=hide s3
   clear s2 s3 H0 HS HR HQ HE
   generalize hr:R k = r at *
   generalize hq:Q k = q at *
   by_cases c:y≤r
   ·have c':(r:Int) ≥ (y:Int):=by omega
    have M1:=hide (show Q (k+1) = 2 * q+1 by rw [uH N1,if_pos c])
    have M2:=hide (show R (k+1) = 2 * (r - y) by rw [uH N2,if_pos c])
    clear N1 N2
    go_wp2
    go_round
    case rel=>exact ⟨k+1,by omega,by go_num,int_eq (by rw [uH M2];omega),int_eq (by rw [uH M1];omega)⟩
    case measure=>simp [intOf];omega
   ·have c':¬ (r:Int) ≥ (y:Int):=by omega
    have M1:=hide (show Q (k+1) = 2 * q by rw [uH N1,if_neg c];rfl)
    have M2:=hide (show R (k+1) = 2 * r by rw [uH N2,if_neg c];rfl)
    clear N1 N2
    go_wp2
    go_round
    case rel=>exact ⟨k+1,by omega,by go_num,int_eq (by rw [uH M2];omega),int_eq (by rw [uH M1];omega)⟩
    case measure=>simp [intOf];omega
  ·have hk5:k = 55:=by omega
   subst hk5
   have r1:=uH HR 55
   clear H0 HS HR HQ
   generalize R 55 = r at *
   generalize Q 55 = q at *
   by_cases c:0 < r
   ·have M:=hide (show S = 2 * q+1 by rw [uH HE,if_pos c])
    have c':(r:Int) > 0:=by omega
    clear HE
    go_wp2
    go_ret
    exact ⟨ret_int (by rw [uH M];omega),rfl⟩
   ·have M:=hide (show S = 2 * q by rw [uH HE,if_neg c];rfl)
    have c':¬ (r:Int) > 0:=by omega
    clear HE
    go_wp2
    go_ret
    exact ⟨ret_int (by rw [uH M];omega),rfl⟩
theorem lQ_54 (x y i:Nat) (h2:x < 2 * y) (hi:i < 55):lQ x y i < 18014398509481984:=by
 have q1:=lQ_lt x y i h2
 have q2:(2:Nat) ^ i≤2 ^ 54:=Nat.pow_le_pow_right (by decide) (by omega)
 rw [show (2:Nat) ^ 54 = 18014398509481984 by decide] at q2
 exact Nat.lt_of_lt_of_le q1 q2
theorem lQ_55 (x y:Nat) (h2:x < 2 * y):lQ x y 55 < 36028797018963968:=by
 have q1:=lQ_lt x y 55 h2
 rwa [show (2:Nat) ^ 55 = 36028797018963968 by decide] at q1
theorem quotient_any (x y:Nat) (w:World) (hy:y < 9007199254740992) (h2:x < 2 * y) :
  Calls Tryz.prog 284 #[.int .i64 x,.int .i64 y] w fun r w'=>r = .returned (.int .i64 (stk (x * 2 ^ 54) y:Nat))∧w = w' :=
 quotient_ways x y _ (lQ x y) (lR x y) w hy (l_zero x y h2) (fun i=>l_succ x y i (by omega)) (fun i=>lR_lt x y i (by omega)) (fun i hi=>lQ_54 x y i h2 hi) (lQ_55 x y h2) (l_end x y)
end Go.Proofs.YtcbcmlaogehimaaGreatDoor
namespace Go.Proofs.YtcbcmlaogehimaaGreatDoor
open Go.RowKit
theorem sizeOf_ways (b:Nat) (z1 X1 z2 ln tp:Int) (w:World) (hln:1≤ln∧ln≤53)
  (C1:∀ w',Below w.heap.size w w'→Calls Tryz.prog 168 #[.int .u64 b] w' fun r w''=>DyR w'' r 0 z1 X1∧Below w'.heap.size w' w'')
  (C2:∀ w' n a l c,IsDy w' (.agg #[.bool n,.slice a l c,.int .i64 X1]) z1 X1→Calls Tryz.prog 208 #[.agg #[.bool false,.slice a l c]] w' fun r w''=>r = .returned (.int .i64 ln)∧Below w'.heap.size w' w'')
  (C3:∀ w' n a l c,IsDy w' (.agg #[.bool n,.slice a l c,.int .i64 X1]) z1 X1→Calls Tryz.prog 238 #[.agg #[.bool false,.slice a l c],.int .i64 (53 - ln)] w' fun r w''=>∃ v,r = .returned (.tuple #[v,.int .i64 0])∧IsNum w'.heap.size w'' v z2∧Below w'.heap.size w' w'')
  (C4:∀ B w' v,IsNum B w' v z2→Calls Tryz.prog 290 #[v] w' fun r w''=>r = .returned (.tuple #[.int .i64 z2,.int .i64 0])∧Below w'.heap.size w' w'')
  (C5:∀ w' n a l c,IsDy w' (.agg #[.bool n,.slice a l c,.int .i64 X1]) z1 X1→Calls Tryz.prog 169 #[.agg #[.bool false,.slice a l c,.int .i64 X1]] w' fun r w''=>r = .returned (.int .i64 tp)∧Below w'.heap.size w' w'') :
  Calls Tryz.prog 283 #[.int .u64 b] w fun r w'=>r = .returned (.tuple #[.int .i64 z2,.int .i64 tp])∧Below w.heap.size w w':=by
 have K1:=hide C1;have K2:=hide C2;have K3:=hide C3;have K4:=hide C4;have K5:=hide C5
 clear C1 C2 C3 C4 C5
 go_enter Tryz.func283,Tryz.ntmps283
 go_wp2_with fail
 refine (uH K1 _ (Below.refl _ _)).mono ?_
 rintro e w1 ⟨⟨v,rfl,hv⟩,hb1⟩
 obtain ⟨n1,a1,c1,L1,rfl,i1⟩:=hv
 have x:=Box3.new w1 (.bool n1) (.slice a1 L1.length c1) (.int .i64 X1)
 have y0:=x.c0;have y1:=x.c1;have y2:=x.c2;have f0:=x.free 0;have f1:=x.free 1;have f2:=x.free 2
 clear x
 generalize hl:L1.length = l1 at *
 have hd:IsDy w1 (.agg #[.bool n1,.slice a1 l1 c1,.int .i64 X1]) z1 X1:=⟨n1,a1,c1,L1,by rw [hl],by rw [hl];exact i1⟩
 clear i1 hl K1
 go_wp2_with fail
 clear y0 y1 y2 f0 f1 f2
 have hb1a:Below w1.heap.size w1 (w1.alloc (.cells #[.bool false,.slice a1 l1 c1,.int .i64 X1] 35)):=(Below.refl _ _).alloc (Nat.le_refl _) _
 have x:=Box3.new w1 (.bool false) (.slice a1 l1 c1) (.int .i64 X1)
 have HV:=hide (hd.below hb1a)
 have B1:=hide (hb1.trans (hb1a.mono hb1.size))
 clear hd hb1 hb1a
 refine at_world (fun W=>W = (w1.alloc (.cells #[.bool false,.slice a1 l1 c1,.int .i64 X1] 35))) rfl ?_
 rintro W0 e0
 rw [← e0] at x HV B1
 clear e0
 generalize w1.heap.size = g at *
 have hK:∀ w',Below W0.heap.size W0 w'→Below W0.heap.size W0 w'∧w'.cell? ⟨g,0,none⟩ = some (.bool false)∧w'.cell? ⟨g,1,none⟩ = some (.slice a1 l1 c1):=fun w' h =>
  ⟨h,(x.all h).c0,(x.all h).c1⟩
 have HK:=hide hK
 have XB:=hide x
 clear hK x
 refine wp_region_held_drew (S:=(fun w'=>Below W0.heap.size W0 w'∧w'.cell? ⟨g,0,none⟩ = some (.bool false)∧w'.cell? ⟨g,1,none⟩ = some (.slice a1 l1 c1))) (by kernel_rfl) ?_ (fun hHeld=>?_)
 ·exact uH HK _ (Below.refl _ _).drew
 refine wpAnyH_take (i:=0) (oi:={ dst:=some 16,op:=Op.fieldAddr 35 (Operand.tmp 4) 0,type:=0,pos := "quotient.go:30",after:=#[],guard:=none }) (v:=Value.pointer (some ⟨g,0,none⟩)) rfl (by kernel_rfl) (by kernel_rfl) (by kernel_rfl) (fun _ _ _ h=>h) (Or.inl ⟨by rfl,?_⟩) (by assumption) ?_
 ·(intro w hSw;(try dsimp only at hSw);go_simp)
 simp only [Act.put,List.setIfInBounds_toArray,List.set_cons_zero,List.set_cons_succ]
 refine wpAnyH_take (i:=1) (oi:={ dst:=some 17,op:=Op.load 33 (Operand.tmp 16),type:=33,pos := "quotient.go:30",after:=#[{ on:=0,ground:=Ground.data }],guard:=none }) (v:=(Value.agg #[.bool false,.slice a1 l1 c1])) rfl (by kernel_rfl) (by kernel_rfl) (by kernel_rfl) (fun _ _ _ h=>h) (Or.inl ⟨by rfl,?_⟩) (by assumption) ?_
 ·(intro w hSw;(try dsimp only at hSw);go_simp)
 simp only [Act.put,List.setIfInBounds_toArray,List.set_cons_zero,List.set_cons_succ]
 refine wpAnyH_take (i:=2) (oi:={ dst:=some 18,op:=Op.fieldAddr 35 (Operand.tmp 4) 0,type:=0,pos := "quotient.go:30",after:=#[],guard:=none }) (v:=Value.pointer (some ⟨g,0,none⟩)) rfl (by kernel_rfl) (by kernel_rfl) (by kernel_rfl) (fun _ _ _ h=>h) (Or.inl ⟨by rfl,?_⟩) (by assumption) ?_
 ·(intro w hSw;(try dsimp only at hSw);go_simp)
 simp only [Act.put,List.setIfInBounds_toArray,List.set_cons_zero,List.set_cons_succ]
 refine wpAnyH_take (i:=3) (oi:={ dst:=some 19,op:=Op.load 33 (Operand.tmp 18),type:=33,pos := "quotient.go:30",after:=#[{ on:=2,ground:=Ground.data }],guard:=none }) (v:=(Value.agg #[.bool false,.slice a1 l1 c1])) rfl (by kernel_rfl) (by kernel_rfl) (by kernel_rfl) (fun _ _ _ h=>h) (Or.inl ⟨by rfl,?_⟩) (by assumption) ?_
 ·(intro w hSw;(try dsimp only at hSw);go_simp)
 simp only [Act.put,List.setIfInBounds_toArray,List.set_cons_zero,List.set_cons_succ]
 refine wpAnyH_ready (rs:=[4,10]) (by kernel_rfl) (by simp) ?_
 refine AllReadyH.cons (o:={ dst:=some 20,op:=Op.call { callee:=Callee.value (Operand.func 208),args:=#[Operand.tmp 19],argTypes:=#[33] },type:=3,pos := "quotient.go:30",after:=#[{ on:=3,ground:=Ground.data }],guard:=none }) rfl (fun K hK=>?_) (AllReadyH.cons (o:={ dst:=some 6,op:=Op.alloc 33,type:=0,pos := "quotient.go:30",after:=#[],guard:=none }) rfl (fun K hK=>?_) AllReadyH.nil)
 ·go_simp
  refine (uH K2 _ _ _ _ _ ((uH HV).below (And.left (by assumption)))).mono ?_
  rintro e wn ⟨rfl,hb1⟩
  have hBn:Below W0.heap.size W0 wn:=Below.trans (And.left (by assumption)) (hb1.mono (Below.size (And.left (by assumption))))
  clear hb1
  go_wp2_with fail
  refine hK.out _ _ ?_ (fun hHeld=>?_)
  ·exact uH HK _ hBn
  clear hK K
  refine wpAnyH_take (i:=5) (oi:={ dst:=some 21,op:=Op.binOp BinOp.sub 3 (Operand.const (Value.int IntKind.i64 53)) (Operand.tmp 20) 3,type:=3,pos := "quotient.go:30",after:=#[{ on:=4,ground:=Ground.data }],guard:=none }) (v:=(.int .i64 (53 - ln))) rfl (by kernel_rfl) (by kernel_rfl) (by kernel_rfl) (fun _ _ _ h=>h) (Or.inl ⟨by rfl,?_⟩) (by assumption) ?_
  ·(intro w hSw;(try dsimp only at hSw);go_simp;exact wrap_small _ (by omega))
  simp only [Act.put,List.setIfInBounds_toArray,List.set_cons_zero,List.set_cons_succ]
  refine wpAnyH_ready (rs:=[6,10]) (by kernel_rfl) (by simp) ?_
  refine AllReadyH.cons (o:={ dst:=some 22,op:=Op.call { callee:=Callee.value (Operand.func 238),args:=#[Operand.tmp 17,Operand.tmp 21],argTypes:=#[33,3] },type:=206,pos := "quotient.go:30",after:=#[{ on:=1,ground:=Ground.data },{ on:=5,ground:=Ground.data },{ on:=4,ground:=Ground.chain }],guard:=none }) rfl (fun K hK=>?_) (AllReadyH.cons (o:={ dst:=some 6,op:=Op.alloc 33,type:=0,pos := "quotient.go:30",after:=#[],guard:=none }) rfl (fun K hK=>?_) AllReadyH.nil)
  ·go_simp
   refine (uH K3 _ _ _ _ _ ((uH HV).below (And.left (by assumption)))).mono ?_
   rintro e wm ⟨v,rfl,⟨n2,a2,c2,L2,rfl,i2⟩,hb1⟩
   have hBm:Below W0.heap.size W0 wm:=Below.trans (And.left (by assumption)) (hb1.mono (Below.size (And.left (by assumption))))
   have I2:=hide (show IsNum 0 wm (.agg #[.bool n2,.slice a2 L2.length c2]) z2 from IsNum.mono ⟨n2,a2,c2,L2,rfl,i2⟩ (Nat.zero_le _))
   clear i2
   generalize L2.length = l2 at *
   clear hb1
   go_wp2_with fail
   refine hK.out _ _ ?_ (fun hHeld=>?_)
   ·exact uH HK _ hBm
   clear hK K
   refine wpAnyH_take (i:=7) (oi:={ dst:=some 15,op:=Op.move (Operand.tmp 22),type:=206,pos := "quotient.go:30",after:=#[{ on:=6,ground:=Ground.data }],guard:=none }) (v:=(Value.tuple #[.agg #[.bool n2,.slice a2 l2 c2],.int .i64 0])) rfl (by kernel_rfl) (by kernel_rfl) (by kernel_rfl) (fun _ _ _ h=>h) (Or.inl ⟨by rfl,?_⟩) (by assumption) ?_
   ·(intro w hSw;(try dsimp only at hSw);go_simp)
   simp only [Act.put,List.setIfInBounds_toArray,List.set_cons_zero,List.set_cons_succ]
   refine wpAnyH_take (i:=8) (oi:={ dst:=some 23,op:=Op.extract (Operand.tmp 15) 0,type:=33,pos := "quotient.go:30",after:=#[{ on:=7,ground:=Ground.data }],guard:=none }) (v:=(Value.agg #[.bool n2,.slice a2 l2 c2])) rfl (by kernel_rfl) (by kernel_rfl) (by kernel_rfl) (fun _ _ _ h=>h) (Or.inl ⟨by rfl,?_⟩) (by assumption) ?_
   ·(intro w hSw;(try dsimp only at hSw);go_simp)
   simp only [Act.put,List.setIfInBounds_toArray,List.set_cons_zero,List.set_cons_succ]
   refine wpAnyH_take (i:=9) (oi:={ dst:=some 24,op:=Op.extract (Operand.tmp 15) 1,type:=27,pos := "quotient.go:30",after:=#[{ on:=7,ground:=Ground.data },{ on:=11,ground:=Ground.gcOnly Departure.lateStores }],guard:=none }) (v:=(.int .i64 0)) rfl (by kernel_rfl) (by kernel_rfl) (by kernel_rfl) (fun _ _ _ h=>h) (Or.inl ⟨by rfl,?_⟩) (by assumption) ?_
   ·(intro w hSw;(try dsimp only at hSw);go_simp)
   simp only [Act.put,List.setIfInBounds_toArray,List.set_cons_zero,List.set_cons_succ]
   refine wpAnyH_ready (rs:=[10]) (by kernel_rfl) (by simp) ?_
   refine AllReadyH.cons (o:={ dst:=some 6,op:=Op.alloc 33,type:=0,pos := "quotient.go:30",after:=#[],guard:=none }) rfl (fun K hK=>?_) AllReadyH.nil
   go_wp2_with fail
   refine hK.out _ _ ?_ (fun hHeld=>?_)
   ·exact uH HK _ (Below.alloc (And.left (by assumption)) (Below.size (And.left (by assumption))) _)
   clear hK K
   have bx:=Box2.new wm (.bool false) (.slice none 0 0)
   have gB:W0.heap.size≤wm.heap.size:=Below.size (B:=W0.heap.size) (w:=W0) hBm
   have I0:=I2
   have I2:=hide (show IsNum 0 (wm.alloc (.cells #[.bool false,.slice none 0 0] 33)) (.agg #[.bool n2,.slice a2 l2 c2]) z2 from (uH I2).below ((Below.refl _ _).alloc (Nat.le_refl _) _))
   have hW:=Below.alloc hBm gB (.cells #[.bool false,.slice none 0 0] 33)
   have IS:=hide (show IsNum 0 ((((wm.alloc (.cells #[.bool false,.slice none 0 0] 33)).setCell ⟨wm.heap.size,0,none⟩ (.bool n2)).setCell ⟨wm.heap.size,1,none⟩ (.slice a2 l2 c2))) (.agg #[.bool n2,.slice a2 l2 c2]) z2 from (uH I0).below ((((Below.refl _ _).alloc (Nat.le_refl _) _).setCell (Nat.le_refl _) _).setCell (Nat.le_refl _) _))
   generalize hwa:(wm.alloc (.cells #[.bool false,.slice none 0 0] 33)) = wa at *
   generalize wm.heap.size = gm at *
   refine wpAnyH_ready (rs:=[11]) (by kernel_rfl) (by simp) ?_
   refine AllReadyH.cons (o:={ dst:=none,op:=Op.store 33 (Operand.tmp 6) (Operand.tmp 23),type:=0,pos := "quotient.go:30",after:=#[{ on:=10,ground:=Ground.data },{ on:=8,ground:=Ground.data },{ on:=6,ground:=Ground.chain },{ on:=0,ground:=Ground.phase },{ on:=1,ground:=Ground.phase },{ on:=2,ground:=Ground.phase },{ on:=3,ground:=Ground.phase },{ on:=4,ground:=Ground.phase },{ on:=5,ground:=Ground.phase },{ on:=6,ground:=Ground.phase },{ on:=7,ground:=Ground.phase },{ on:=8,ground:=Ground.phase },{ on:=9,ground:=Ground.textOnly Departure.lateStores },{ on:=10,ground:=Ground.phase }],guard:=none }) rfl (fun K hK=>?_) AllReadyH.nil
   have q0:=bx.c0;have q1:=bx.c1;have f0:=bx.free 0;have f1:=bx.free 1
   go_wp2_with fail
   refine hK.out _ _ ?_ (fun hHeld=>?_)
   ·exact uH HK _ (Below.setCell (Below.setCell (And.left (by assumption)) gB _) gB _)
   clear hK K q0 q1 f0 f1
   refine wpAnyH_take (i:=12) (oi:={ dst:=some 7,op:=Op.assign (Operand.tmp 24),type:=27,pos := "quotient.go:30",after:=#[{ on:=9,ground:=Ground.data },{ on:=11,ground:=Ground.chain },{ on:=0,ground:=Ground.phase },{ on:=1,ground:=Ground.phase },{ on:=2,ground:=Ground.phase },{ on:=3,ground:=Ground.phase },{ on:=4,ground:=Ground.phase },{ on:=5,ground:=Ground.phase },{ on:=6,ground:=Ground.phase },{ on:=7,ground:=Ground.phase },{ on:=8,ground:=Ground.phase },{ on:=9,ground:=Ground.phase },{ on:=10,ground:=Ground.phase },{ on:=11,ground:=Ground.phase }],guard:=none }) (v:=(.int .i64 0)) rfl (by kernel_rfl) (by kernel_rfl) (by kernel_rfl) (fun _ _ _ h=>h) (Or.inl ⟨by rfl,?_⟩) (by assumption) ?_
   ·(intro w hSw;(try dsimp only at hSw);go_simp)
   simp only [Act.put,List.setIfInBounds_toArray,List.set_cons_zero,List.set_cons_succ]
   refine wpAnyH_done (by kernel_rfl) ?_ _
   have bz:=bx.put (.bool n2) (.slice a2 l2 c2)
   have HZ:=hide (show IsNum 0 ((wa.setCell ⟨gm,0,none⟩ (.bool n2)).setCell ⟨gm,1,none⟩ (.slice a2 l2 c2)) (.agg #[.bool n2,.slice a2 l2 c2]) z2 from uH IS)
   have BZ:=hide (show Below W0.heap.size W0 ((wa.setCell ⟨gm,0,none⟩ (.bool n2)).setCell ⟨gm,1,none⟩ (.slice a2 l2 c2)) from Below.setCell (Below.setCell hW gB _) gB _)
   have r0:=bz.c0;have r1:=bz.c1
   clear bx I2 hHeld
   generalize ((wa.setCell ⟨gm,0,none⟩ (.bool n2)).setCell ⟨gm,1,none⟩ (.slice a2 l2 c2)) = WE at *
   go_wp2_with fail
   refine (uH K4 _ _ _ (uH HZ)).mono ?_
   rintro e we ⟨rfl,hb1⟩
   have BE:=hide ((uH BZ).trans (hb1.mono (uH BZ).size))
   have HW:=hide ((uH HV).below (uH BE))
   have xe:=(uH XB).all (uH BE)
   have y0:=xe.c0;have y1:=xe.c1;have y2:=xe.c2
   clear r0 r1 bz hb1 BZ HZ xe
   go_wp2_with fail
   refine (uH K5 _ _ _ _ _ (uH HW)).mono ?_
   rintro e wf ⟨rfl,hb1⟩
   have BF:=hide ((uH B1).trans (((uH BE).trans (hb1.mono (uH BE).size)).mono (uH B1).size))
   clear hb1 BE HW y0 y1 y2
   go_wp2
   exact bodyPost_ret (v:=.tuple #[.int .i64 z2,.int .i64 tp]) (by simp [results,Tryz.results283,go_sem]) rfl ⟨rfl,uH BF⟩
  ·go_wp2_with fail
   refine hK.out _ _ ?_ (fun hHeld=>?_)
   ·exact uH HK _ (Below.alloc (And.left (by assumption)) (Below.size (And.left (by assumption))) _)
   clear hK K
   have bx:=Box2.new wn (.bool false) (.slice none 0 0)
   have gB:W0.heap.size≤wn.heap.size:=Below.size (B:=W0.heap.size) (w:=W0) hBn
   have hW:=Below.alloc hBn gB (.cells #[.bool false,.slice none 0 0] 33)
   generalize hwa:(wn.alloc (.cells #[.bool false,.slice none 0 0] 33)) = wa at *
   generalize wn.heap.size = gm at *
   refine wpAnyH_ready (rs:=[6]) (by kernel_rfl) (by simp) ?_
   refine AllReadyH.cons (o:={ dst:=some 22,op:=Op.call { callee:=Callee.value (Operand.func 238),args:=#[Operand.tmp 17,Operand.tmp 21],argTypes:=#[33,3] },type:=206,pos := "quotient.go:30",after:=#[{ on:=1,ground:=Ground.data },{ on:=5,ground:=Ground.data },{ on:=4,ground:=Ground.chain }],guard:=none }) rfl (fun K hK=>?_) AllReadyH.nil
   go_simp
   refine (uH K3 _ _ _ _ _ ((uH HV).below (And.left (by assumption)))).mono ?_
   rintro e wm ⟨v,rfl,⟨n2,a2,c2,L2,rfl,i2⟩,hb1⟩
   have hBm:Below W0.heap.size W0 wm:=Below.trans (And.left (by assumption)) (hb1.mono (Below.size (And.left (by assumption))))
   have I2:=hide (show IsNum (gm+1) wm (.agg #[.bool n2,.slice a2 L2.length c2]) z2 from IsNum.mono ⟨n2,a2,c2,L2,rfl,i2⟩ (Nat.succ_le_of_lt bx.lt))
   have bx:=bx.all hb1
   clear i2
   generalize L2.length = l2 at *
   clear hb1
   go_wp2_with fail
   refine hK.out _ _ ?_ (fun hHeld=>?_)
   ·exact uH HK _ hBm
   clear hK K
   refine wpAnyH_take (i:=7) (oi:={ dst:=some 15,op:=Op.move (Operand.tmp 22),type:=206,pos := "quotient.go:30",after:=#[{ on:=6,ground:=Ground.data }],guard:=none }) (v:=(Value.tuple #[.agg #[.bool n2,.slice a2 l2 c2],.int .i64 0])) rfl (by kernel_rfl) (by kernel_rfl) (by kernel_rfl) (fun _ _ _ h=>h) (Or.inl ⟨by rfl,?_⟩) (by assumption) ?_
   ·(intro w hSw;(try dsimp only at hSw);go_simp)
   simp only [Act.put,List.setIfInBounds_toArray,List.set_cons_zero,List.set_cons_succ]
   refine wpAnyH_take (i:=8) (oi:={ dst:=some 23,op:=Op.extract (Operand.tmp 15) 0,type:=33,pos := "quotient.go:30",after:=#[{ on:=7,ground:=Ground.data }],guard:=none }) (v:=(Value.agg #[.bool n2,.slice a2 l2 c2])) rfl (by kernel_rfl) (by kernel_rfl) (by kernel_rfl) (fun _ _ _ h=>h) (Or.inl ⟨by rfl,?_⟩) (by assumption) ?_
   ·(intro w hSw;(try dsimp only at hSw);go_simp)
   simp only [Act.put,List.setIfInBounds_toArray,List.set_cons_zero,List.set_cons_succ]
   refine wpAnyH_take (i:=9) (oi:={ dst:=some 24,op:=Op.extract (Operand.tmp 15) 1,type:=27,pos := "quotient.go:30",after:=#[{ on:=7,ground:=Ground.data },{ on:=11,ground:=Ground.gcOnly Departure.lateStores }],guard:=none }) (v:=(.int .i64 0)) rfl (by kernel_rfl) (by kernel_rfl) (by kernel_rfl) (fun _ _ _ h=>h) (Or.inl ⟨by rfl,?_⟩) (by assumption) ?_
   ·(intro w hSw;(try dsimp only at hSw);go_simp)
   simp only [Act.put,List.setIfInBounds_toArray,List.set_cons_zero,List.set_cons_succ]
   refine wpAnyH_ready (rs:=[11]) (by kernel_rfl) (by simp) ?_
   refine AllReadyH.cons (o:={ dst:=none,op:=Op.store 33 (Operand.tmp 6) (Operand.tmp 23),type:=0,pos := "quotient.go:30",after:=#[{ on:=10,ground:=Ground.data },{ on:=8,ground:=Ground.data },{ on:=6,ground:=Ground.chain },{ on:=0,ground:=Ground.phase },{ on:=1,ground:=Ground.phase },{ on:=2,ground:=Ground.phase },{ on:=3,ground:=Ground.phase },{ on:=4,ground:=Ground.phase },{ on:=5,ground:=Ground.phase },{ on:=6,ground:=Ground.phase },{ on:=7,ground:=Ground.phase },{ on:=8,ground:=Ground.phase },{ on:=9,ground:=Ground.textOnly Departure.lateStores },{ on:=10,ground:=Ground.phase }],guard:=none }) rfl (fun K hK=>?_) AllReadyH.nil
   have q0:=bx.c0;have q1:=bx.c1;have f0:=bx.free 0;have f1:=bx.free 1
   go_wp2_with fail
   refine hK.out _ _ ?_ (fun hHeld=>?_)
   ·exact uH HK _ (Below.setCell (Below.setCell (And.left (by assumption)) gB _) gB _)
   clear hK K q0 q1 f0 f1
   refine wpAnyH_take (i:=12) (oi:={ dst:=some 7,op:=Op.assign (Operand.tmp 24),type:=27,pos := "quotient.go:30",after:=#[{ on:=9,ground:=Ground.data },{ on:=11,ground:=Ground.chain },{ on:=0,ground:=Ground.phase },{ on:=1,ground:=Ground.phase },{ on:=2,ground:=Ground.phase },{ on:=3,ground:=Ground.phase },{ on:=4,ground:=Ground.phase },{ on:=5,ground:=Ground.phase },{ on:=6,ground:=Ground.phase },{ on:=7,ground:=Ground.phase },{ on:=8,ground:=Ground.phase },{ on:=9,ground:=Ground.phase },{ on:=10,ground:=Ground.phase },{ on:=11,ground:=Ground.phase }],guard:=none }) (v:=(.int .i64 0)) rfl (by kernel_rfl) (by kernel_rfl) (by kernel_rfl) (fun _ _ _ h=>h) (Or.inl ⟨by rfl,?_⟩) (by assumption) ?_
   ·(intro w hSw;(try dsimp only at hSw);go_simp)
   simp only [Act.put,List.setIfInBounds_toArray,List.set_cons_zero,List.set_cons_succ]
   refine wpAnyH_done (by kernel_rfl) ?_ _
   have bz:=bx.put (.bool n2) (.slice a2 l2 c2)
   have HZ:=hide (show IsNum 0 ((wm.setCell ⟨gm,0,none⟩ (.bool n2)).setCell ⟨gm,1,none⟩ (.slice a2 l2 c2)) (.agg #[.bool n2,.slice a2 l2 c2]) z2 from ((uH I2).put2 (p:=⟨gm,0,none⟩) (q:=⟨gm,1,none⟩) (by simp) (by simp) (.bool n2) (.slice a2 l2 c2)).mono (Nat.zero_le _))
   have BZ:=hide (show Below W0.heap.size W0 ((wm.setCell ⟨gm,0,none⟩ (.bool n2)).setCell ⟨gm,1,none⟩ (.slice a2 l2 c2)) from Below.setCell (Below.setCell hBm gB _) gB _)
   have r0:=bz.c0;have r1:=bz.c1
   clear bx I2 hHeld
   generalize ((wm.setCell ⟨gm,0,none⟩ (.bool n2)).setCell ⟨gm,1,none⟩ (.slice a2 l2 c2)) = WE at *
   go_wp2_with fail
   refine (uH K4 _ _ _ (uH HZ)).mono ?_
   rintro e we ⟨rfl,hb1⟩
   have BE:=hide ((uH BZ).trans (hb1.mono (uH BZ).size))
   have HW:=hide ((uH HV).below (uH BE))
   have xe:=(uH XB).all (uH BE)
   have y0:=xe.c0;have y1:=xe.c1;have y2:=xe.c2
   clear r0 r1 bz hb1 BZ HZ xe
   go_wp2_with fail
   refine (uH K5 _ _ _ _ _ (uH HW)).mono ?_
   rintro e wf ⟨rfl,hb1⟩
   have BF:=hide ((uH B1).trans (((uH BE).trans (hb1.mono (uH BE).size)).mono (uH B1).size))
   clear hb1 BE HW y0 y1 y2
   go_wp2
   exact bodyPost_ret (v:=.tuple #[.int .i64 z2,.int .i64 tp]) (by simp [results,Tryz.results283,go_sem]) rfl ⟨rfl,uH BF⟩
 ·go_wp2_with fail
  refine hK.out _ _ ?_ (fun hHeld=>?_)
  ·exact uH HK _ (((Below.refl W0.heap.size W0).alloc (Nat.le_refl _) _).drew)
  clear hK K
  have bx:Box2 (W0.alloc (.cells #[.bool false,.slice none 0 0] 33)).drew W0.heap.size (.bool false) (.slice none 0 0):=(Box2.new W0 (.bool false) (.slice none 0 0)).drew
  have gB:W0.heap.size≤W0.heap.size:=Nat.le_refl _
  generalize hwa:(W0.alloc (.cells #[.bool false,.slice none 0 0] 33)).drew = wa at *
  refine wpAnyH_ready (rs:=[4]) (by kernel_rfl) (by simp) ?_
  refine AllReadyH.cons (o:={ dst:=some 20,op:=Op.call { callee:=Callee.value (Operand.func 208),args:=#[Operand.tmp 19],argTypes:=#[33] },type:=3,pos := "quotient.go:30",after:=#[{ on:=3,ground:=Ground.data }],guard:=none }) rfl (fun K hK=>?_) AllReadyH.nil
  go_simp
  refine (uH K2 _ _ _ _ _ ((uH HV).below (And.left (by assumption)))).mono ?_
  rintro e wn ⟨rfl,hb1⟩
  have hBn:Below W0.heap.size W0 wn:=Below.trans (And.left (by assumption)) (hb1.mono (Below.size (And.left (by assumption))))
  have bx:=bx.all hb1
  clear hb1
  go_wp2_with fail
  refine hK.out _ _ ?_ (fun hHeld=>?_)
  ·exact uH HK _ hBn
  clear hK K
  refine wpAnyH_take (i:=5) (oi:={ dst:=some 21,op:=Op.binOp BinOp.sub 3 (Operand.const (Value.int IntKind.i64 53)) (Operand.tmp 20) 3,type:=3,pos := "quotient.go:30",after:=#[{ on:=4,ground:=Ground.data }],guard:=none }) (v:=(.int .i64 (53 - ln))) rfl (by kernel_rfl) (by kernel_rfl) (by kernel_rfl) (fun _ _ _ h=>h) (Or.inl ⟨by rfl,?_⟩) (by assumption) ?_
  ·(intro w hSw;(try dsimp only at hSw);go_simp;exact wrap_small _ (by omega))
  simp only [Act.put,List.setIfInBounds_toArray,List.set_cons_zero,List.set_cons_succ]
  refine wpAnyH_ready (rs:=[6]) (by kernel_rfl) (by simp) ?_
  refine AllReadyH.cons (o:={ dst:=some 22,op:=Op.call { callee:=Callee.value (Operand.func 238),args:=#[Operand.tmp 17,Operand.tmp 21],argTypes:=#[33,3] },type:=206,pos := "quotient.go:30",after:=#[{ on:=1,ground:=Ground.data },{ on:=5,ground:=Ground.data },{ on:=4,ground:=Ground.chain }],guard:=none }) rfl (fun K hK=>?_) AllReadyH.nil
  go_simp
  refine (uH K3 _ _ _ _ _ ((uH HV).below (And.left (by assumption)))).mono ?_
  rintro e wm ⟨v,rfl,⟨n2,a2,c2,L2,rfl,i2⟩,hb1⟩
  have hBm:Below W0.heap.size W0 wm:=Below.trans (And.left (by assumption)) (hb1.mono (Below.size (And.left (by assumption))))
  have I2:=hide (show IsNum (W0.heap.size+1) wm (.agg #[.bool n2,.slice a2 L2.length c2]) z2 from IsNum.mono ⟨n2,a2,c2,L2,rfl,i2⟩ (Nat.succ_le_of_lt bx.lt))
  have bx:=bx.all hb1
  clear i2
  generalize L2.length = l2 at *
  clear hb1
  go_wp2_with fail
  refine hK.out _ _ ?_ (fun hHeld=>?_)
  ·exact uH HK _ hBm
  clear hK K
  refine wpAnyH_take (i:=7) (oi:={ dst:=some 15,op:=Op.move (Operand.tmp 22),type:=206,pos := "quotient.go:30",after:=#[{ on:=6,ground:=Ground.data }],guard:=none }) (v:=(Value.tuple #[.agg #[.bool n2,.slice a2 l2 c2],.int .i64 0])) rfl (by kernel_rfl) (by kernel_rfl) (by kernel_rfl) (fun _ _ _ h=>h) (Or.inl ⟨by rfl,?_⟩) (by assumption) ?_
  ·(intro w hSw;(try dsimp only at hSw);go_simp)
  simp only [Act.put,List.setIfInBounds_toArray,List.set_cons_zero,List.set_cons_succ]
  refine wpAnyH_take (i:=8) (oi:={ dst:=some 23,op:=Op.extract (Operand.tmp 15) 0,type:=33,pos := "quotient.go:30",after:=#[{ on:=7,ground:=Ground.data }],guard:=none }) (v:=(Value.agg #[.bool n2,.slice a2 l2 c2])) rfl (by kernel_rfl) (by kernel_rfl) (by kernel_rfl) (fun _ _ _ h=>h) (Or.inl ⟨by rfl,?_⟩) (by assumption) ?_
  ·(intro w hSw;(try dsimp only at hSw);go_simp)
  simp only [Act.put,List.setIfInBounds_toArray,List.set_cons_zero,List.set_cons_succ]
  refine wpAnyH_take (i:=9) (oi:={ dst:=some 24,op:=Op.extract (Operand.tmp 15) 1,type:=27,pos := "quotient.go:30",after:=#[{ on:=7,ground:=Ground.data },{ on:=11,ground:=Ground.gcOnly Departure.lateStores }],guard:=none }) (v:=(.int .i64 0)) rfl (by kernel_rfl) (by kernel_rfl) (by kernel_rfl) (fun _ _ _ h=>h) (Or.inl ⟨by rfl,?_⟩) (by assumption) ?_
  ·(intro w hSw;(try dsimp only at hSw);go_simp)
  simp only [Act.put,List.setIfInBounds_toArray,List.set_cons_zero,List.set_cons_succ]
  refine wpAnyH_ready (rs:=[11]) (by kernel_rfl) (by simp) ?_
  refine AllReadyH.cons (o:={ dst:=none,op:=Op.store 33 (Operand.tmp 6) (Operand.tmp 23),type:=0,pos := "quotient.go:30",after:=#[{ on:=10,ground:=Ground.data },{ on:=8,ground:=Ground.data },{ on:=6,ground:=Ground.chain },{ on:=0,ground:=Ground.phase },{ on:=1,ground:=Ground.phase },{ on:=2,ground:=Ground.phase },{ on:=3,ground:=Ground.phase },{ on:=4,ground:=Ground.phase },{ on:=5,ground:=Ground.phase },{ on:=6,ground:=Ground.phase },{ on:=7,ground:=Ground.phase },{ on:=8,ground:=Ground.phase },{ on:=9,ground:=Ground.textOnly Departure.lateStores },{ on:=10,ground:=Ground.phase }],guard:=none }) rfl (fun K hK=>?_) AllReadyH.nil
  have q0:=bx.c0;have q1:=bx.c1;have f0:=bx.free 0;have f1:=bx.free 1
  go_wp2_with fail
  refine hK.out _ _ ?_ (fun hHeld=>?_)
  ·exact uH HK _ (Below.setCell (Below.setCell (And.left (by assumption)) gB _) gB _)
  clear hK K q0 q1 f0 f1
  refine wpAnyH_take (i:=12) (oi:={ dst:=some 7,op:=Op.assign (Operand.tmp 24),type:=27,pos := "quotient.go:30",after:=#[{ on:=9,ground:=Ground.data },{ on:=11,ground:=Ground.chain },{ on:=0,ground:=Ground.phase },{ on:=1,ground:=Ground.phase },{ on:=2,ground:=Ground.phase },{ on:=3,ground:=Ground.phase },{ on:=4,ground:=Ground.phase },{ on:=5,ground:=Ground.phase },{ on:=6,ground:=Ground.phase },{ on:=7,ground:=Ground.phase },{ on:=8,ground:=Ground.phase },{ on:=9,ground:=Ground.phase },{ on:=10,ground:=Ground.phase },{ on:=11,ground:=Ground.phase }],guard:=none }) (v:=(.int .i64 0)) rfl (by kernel_rfl) (by kernel_rfl) (by kernel_rfl) (fun _ _ _ h=>h) (Or.inl ⟨by rfl,?_⟩) (by assumption) ?_
  ·(intro w hSw;(try dsimp only at hSw);go_simp)
  simp only [Act.put,List.setIfInBounds_toArray,List.set_cons_zero,List.set_cons_succ]
  refine wpAnyH_done (by kernel_rfl) ?_ _
  have bz:=bx.put (.bool n2) (.slice a2 l2 c2)
  have HZ:=hide (show IsNum 0 ((wm.setCell ⟨W0.heap.size,0,none⟩ (.bool n2)).setCell ⟨W0.heap.size,1,none⟩ (.slice a2 l2 c2)) (.agg #[.bool n2,.slice a2 l2 c2]) z2 from ((uH I2).put2 (p:=⟨W0.heap.size,0,none⟩) (q:=⟨W0.heap.size,1,none⟩) (by simp) (by simp) (.bool n2) (.slice a2 l2 c2)).mono (Nat.zero_le _))
  have BZ:=hide (show Below W0.heap.size W0 ((wm.setCell ⟨W0.heap.size,0,none⟩ (.bool n2)).setCell ⟨W0.heap.size,1,none⟩ (.slice a2 l2 c2)) from Below.setCell (Below.setCell hBm gB _) gB _)
  have r0:=bz.c0;have r1:=bz.c1
  clear bx I2 hHeld
  generalize ((wm.setCell ⟨W0.heap.size,0,none⟩ (.bool n2)).setCell ⟨W0.heap.size,1,none⟩ (.slice a2 l2 c2)) = WE at *
  go_wp2_with fail
  refine (uH K4 _ _ _ (uH HZ)).mono ?_
  rintro e we ⟨rfl,hb1⟩
  have BE:=hide ((uH BZ).trans (hb1.mono (uH BZ).size))
  have HW:=hide ((uH HV).below (uH BE))
  have xe:=(uH XB).all (uH BE)
  have y0:=xe.c0;have y1:=xe.c1;have y2:=xe.c2
  clear r0 r1 bz hb1 BZ HZ xe
  go_wp2_with fail
  refine (uH K5 _ _ _ _ _ (uH HW)).mono ?_
  rintro e wf ⟨rfl,hb1⟩
  have BF:=hide ((uH B1).trans (((uH BE).trans (hb1.mono (uH BE).size)).mono (uH B1).size))
  clear hb1 BE HW y0 y1 y2
  go_wp2
  exact bodyPost_ret (v:=.tuple #[.int .i64 z2,.int .i64 tp]) (by simp [results,Tryz.results283,go_sem]) rfl ⟨rfl,uH BF⟩
end Go.Proofs.YtcbcmlaogehimaaGreatDoor
namespace Go.Proofs.YtcbcmlaogehimaaGreatDoor
open Go.RowKit
theorem IsDy.limbs {w:World} {n:Bool} {a:Option Addr} {l c:Nat} {X m Y:Int} (h:IsDy w (.agg #[.bool n,.slice a l c,.int .i64 X]) m Y) (hm:m.natAbs < TOP) :
  ∃ L,l = L.length∧LimbsAt w a c L∧rightB false L = true∧val L = m.natAbs∧L.length≤512:=by
 obtain ⟨n',a',c',L,e1,h1,h2,h3,h4,h5⟩:=h.right hm
 simp only [Value.agg.injEq,Array.mk.injEq,List.cons.injEq,Value.bool.injEq,Value.slice.injEq,and_true] at e1
 obtain ⟨rfl,⟨rfl,e2,rfl⟩,_⟩:=e1
 have hr:rightB false L = true:=by
  simp only [rightB,Bool.and_eq_true,decide_eq_true_eq,Bool.not_eq_true',Bool.and_eq_false_iff,decide_eq_false_iff_not,Bool.or_eq_true] at h2 ⊢
  exact ⟨⟨h2.1.1,Or.inr trivial⟩,h2.2⟩
 exact ⟨L,e2,h1,hr,by rw [← h3,natAbs_sval],h4⟩
theorem small6 {B:Nat} {w:World} {v:Value} {x:Int} (hv:IsNum B w v x) (h0:-9223372036854775808≤x) (h1:x≤9223372036854775807) :
  Calls Tryz.prog 290 #[v] w fun e w'=>e = .returned (.tuple #[.int .i64 x,.int .i64 0])∧Below w.heap.size w w':=by
 obtain ⟨na,ao,ca,A,rfl,a1,a2,a3,a4⟩:=hv.right (small_TOP _ (by omega))
 have:=small_any na ao ca A w a1 (by omega)
 have hf:fits64 x = true:=by unfold fits64;rw [decide_eq_true (by omega)]
 rwa [show smV na A = x by unfold smV;rw [a2,a3,hf];rfl,show smE na A = 0 by unfold smE;rw [a2,a3,hf];rfl] at this
theorem sizeOf_any (b:Nat) (w:World) (hb:b < 18446744073709551616) (hf:fFin b = true) (h0:fK b ≠ 0) (hT:Tab w) :
  Calls Tryz.prog 283 #[.int .u64 b] w fun r w'=>r = .returned (.tuple #[.int .i64 (dS b:Nat),.int .i64 (dT b)])∧Below w.heap.size w w':=by
 obtain ⟨x1,x2,x3,x4,x5,x6,x7,x8⟩:=dS_facts b hb hf h0
 have hm:(fD b).natAbs < TOP:=small_TOP _ (by omega)
 have hS:(dS b:Int) = ((fD b).natAbs * 2 ^ (53 - (bl (fD b).natAbs:Int)).toNat:Nat):=by
  unfold dS
  rw [show (53 - (bl (fD b).natAbs:Int)).toNat = 53 - bl (fD b).natAbs by omega]
 refine sizeOf_ways b (fD b) (fX b) (dS b:Nat) (bl (fD b).natAbs:Nat) (dT b) w (by omega) (fun w' h=>value_some b w' hb hf (hT.all h)) ?_ ?_ ?_ ?_
 ·intro w' n a l c h
  obtain ⟨L,rfl,h1,h2,h3,h4⟩:=h.limbs hm
  have:=len_any false a c L w' h1 (by omega)
  rwa [lenL_bl h1.2.1 h2,h3] at this
 ·intro w' n a l c h
  obtain ⟨L,rfl,h1,h2,h3,h4⟩:=h.limbs hm
  have:=shift_any false a c L (53 - (bl (fD b).natAbs:Int)) w' h1 (by omega) (by omega)
  have hV:shV false L (53 - (bl (fD b).natAbs:Int)) = (dS b:Int):=by
   unfold shV
   rw [if_pos (by omega),h3,hS];rfl
  have hok:shOk false L (53 - (bl (fD b).natAbs:Int)) = true:=by unfold shOk;rw [h2,decide_eq_true (by omega)];rfl
  have hz:((dS b:Nat):Int).natAbs < TOP:=small_TOP _ (by omega)
  rwa [show shE false L (53 - (bl (fD b).natAbs:Int)) = 0 by unfold shE;rw [hok,if_pos rfl,hV,errOf_small _ hz],show shN false L (53 - (bl (fD b).natAbs:Int)) = (dS b:Nat) by unfold shN;rw [hok,if_pos rfl,hV,numOf_small _ hz]] at this
 ·intro B w' v h
  exact small6 h (by omega) (by omega)
 ·intro w' n a l c h
  obtain ⟨L,rfl,h1,h2,h3,h4⟩:=h.limbs hm
  have:=dtop_any false a c L (fX b) w' h1 (by omega)
  rwa [lenL_bl h1.2.1 h2,h3,wrap_small _ (by omega)] at this
theorem divFinite_n (a b:Nat) (x y tx ty q E M X fl:Int) (w:World) (r o:Nat) (ht:-3000≤tx∧tx≤3000∧-3000≤ty∧ty≤3000) (hE:E = tx - ty - 55)
  (C1:∀ w',Below w.heap.size w w'→Calls Tryz.prog 283 #[.int .u64 a] w' fun r w''=>r = .returned (.tuple #[.int .i64 x,.int .i64 tx])∧Below w'.heap.size w' w'')
  (C2:∀ w',Below w.heap.size w w'→Calls Tryz.prog 283 #[.int .u64 b] w' fun r w''=>r = .returned (.tuple #[.int .i64 y,.int .i64 ty])∧Below w'.heap.size w' w'')
  (C3:∀ w',Calls Tryz.prog 284 #[.int .i64 x,.int .i64 y] w' fun r w''=>r = .returned (.int .i64 q)∧w' = w'')
  (C4:∀ w',Calls Tryz.prog 207 #[.int .i64 q] w' fun r w''=>∃ v,r = .returned v∧IsNum w'.heap.size w'' v q∧Below w'.heap.size w' w'')
  (C5:∀ B w' v,Below w.heap.size w w'→IsNum B w' v q→Calls Tryz.prog 206 #[v,.int .i64 E] w' fun r w''=>DyR w'' r 0 M X∧Below w'.heap.size w' w'')
  (C6:∀ w' v,Below w.heap.size w w'→IsDy w' v M X→Calls Tryz.prog 229 #[v] w' fun s w''=>s = .returned (.tuple #[.int .u64 (r:Nat),.int .u8 fl,.int .i64 0])∧Below w'.heap.size w' w'')
  (C7:∀ w',Calls Tryz.prog 262 #[.int .u64 (r:Nat),.int .u64 a,.int .u64 b] w' fun s w''=>s = .returned (.int .u64 (o:Nat))∧Below w'.heap.size w' w'') :
  Calls Tryz.prog 264 #[.int .u64 a,.int .u64 b] w fun s w'=>s = .returned (.tuple #[.int .u64 (o:Nat),.int .u8 fl])∧Below w.heap.size w w':=by
 have K1:=hide C1;have K2:=hide C2;have K3:=hide C3;have K4:=hide C4;have K5:=hide C5;have K6:=hide C6;have K7:=hide C7
 clear C1 C2 C3 C4 C5 C6 C7
 have e1:=wrap_small (tx - ty) (by omega)
 have e2:=wrap_small (tx - ty - 55) (by omega)
 rw [← hE] at e2
 go_enter Tryz.func264,Tryz.ntmps264
 go_wp2_with fail
 refine (uH K1 _ (Below.refl _ _)).mono ?_
 rintro e w1 ⟨rfl,hb1⟩
 have B1:=hide hb1
 clear hb1 K1
 go_wp2_with fail
 refine (uH K2 _ (uH B1)).mono ?_
 rintro e w2 ⟨rfl,hb1⟩
 have B2:=hide ((uH B1).trans (hb1.mono (uH B1).size))
 clear hb1 K2 B1
 go_wp2_with fail
 refine (uH K3 _).mono ?_
 rintro e wk ⟨rfl,rfl⟩
 go_wp2_with fail
 refine (uH K4 _).mono ?_
 rintro e w3 ⟨v,rfl,⟨n3,a3,c3,L3,rfl,i3⟩,hb1⟩
 have B3:=hide ((uH B2).trans (hb1.mono (uH B2).size))
 have I3:=hide (show IsNum w2.heap.size w3 (.agg #[.bool n3,.slice a3 L3.length c3]) q from ⟨n3,a3,c3,L3,rfl,i3⟩)
 clear hb1 K3 K4 B2 i3
 generalize L3.length = l3 at *
 subst hE
 go_wp2_with fail
 refine (uH K5 _ _ _ (uH B3) (uH I3)).mono ?_
 rintro e w4 ⟨⟨v,rfl,hv⟩,hb1⟩
 obtain ⟨n1,a1,c1,L1,rfl,i1⟩:=hv
 have hb1a:Below w4.heap.size w4 (w4.alloc (.cells #[.bool n1,.slice a1 L1.length c1,.int .i64 X] 35)):=(Below.refl _ _).alloc (Nat.le_refl _) _
 have HX:=hide ((show IsDy w4 (.agg #[.bool n1,.slice a1 L1.length c1,.int .i64 X]) M X from ⟨n1,a1,c1,L1,rfl,i1⟩).below hb1a)
 have B4:=hide ((uH B3).trans ((hb1.trans (hb1a.mono hb1.size)).mono (uH B3).size))
 have x3:=Box3.new w4 (.bool n1) (.slice a1 L1.length c1) (.int .i64 X)
 have y0:=x3.c0;have y1:=x3.c1;have y2:=x3.c2
 clear i1 hb1 hb1a K5 B3 x3 I3
 generalize L1.length = l1 at *
 go_wp2_with fail
 refine (uH K6 _ _ (uH B4) (uH HX)).mono ?_
 rintro e w5 ⟨rfl,hb1⟩
 have B5:=hide ((uH B4).trans (hb1.mono (uH B4).size))
 clear hb1 K6 B4 y0 y1 y2 HX
 go_wp2_with fail
 refine (uH K7 _).mono ?_
 rintro e w6 ⟨rfl,hb1⟩
 have B6:=hide ((uH B5).trans (hb1.mono (uH B5).size))
 clear hb1 K7 B5
 go_wp2
 exact bodyPost_ret (v:=.tuple #[.int .u64 o,.int .u8 fl]) (by simp [results,Tryz.results264,go_sem]) rfl ⟨rfl,uH B6⟩
theorem lt57 {S:Nat} (h:S < 144115188075855872):S < 2 ^ 57:=by
 have:(2:Nat) ^ 57 = 144115188075855872:=by decide
 omega
theorem divFinite_of (a b S sx sy r:Nat) (tx ty fl:Int) (w:World) (ha:a < 18446744073709551616) (hb:b < 18446744073709551616) (hr:r≤9218868437227405312)
  (ht:-1100≤tx∧tx≤1100∧-1100≤ty∧ty≤1100) (s1:S ≠ 0) (s2:S < 144115188075855872)
  (q1:rnd S (tx - ty - 55) = r) (q2:rflag (oM (S:Nat)).natAbs (oE (S:Nat) (tx - ty - 55)) = fl) (hT:Tab w)
  (C1:∀ w',Below w.heap.size w w'→Calls Tryz.prog 283 #[.int .u64 a] w' fun r w''=>r = .returned (.tuple #[.int .i64 (sx:Nat),.int .i64 tx])∧Below w'.heap.size w' w'')
  (C2:∀ w',Below w.heap.size w w'→Calls Tryz.prog 283 #[.int .u64 b] w' fun r w''=>r = .returned (.tuple #[.int .i64 (sy:Nat),.int .i64 ty])∧Below w'.heap.size w' w'')
  (C3:∀ w',Calls Tryz.prog 284 #[.int .i64 (sx:Nat),.int .i64 (sy:Nat)] w' fun r w''=>r = .returned (.int .i64 (S:Nat))∧w' = w'') :
  Calls Tryz.prog 264 #[.int .u64 a,.int .u64 b] w fun s w'=>s = .returned (.tuple #[.int .u64 (wrd (fS a ^^ fS b) r:Nat),.int .u8 fl])∧Below w.heap.size w w':=by
 have hz:((S:Nat):Int).natAbs < TOP:=small_TOP _ (by omega)
 have hz0:((S:Nat):Int) ≠ 0:=by omega
 have htz:tz ((S:Nat):Int).natAbs < 57:=tz_lt _ 57 (by omega) (by rw [Int.natAbs_natCast];exact lt57 s2)
 obtain ⟨E,hE⟩:∃ E,E = tx - ty - 55:=⟨_,rfl⟩
 rw [← hE] at q1 q2
 have hE2:-2300≤E∧E≤2300:=by omega
 have hok:dOk (S:Nat) E = true:=by
  unfold dOk
  rw [decide_eq_true (show -32768≤E∧E≤32768 by omega),decide_eq_true (show -16384≤E+(tz ((S:Nat):Int).natAbs:Int)∧E+(tz ((S:Nat):Int).natAbs:Int)≤16384 by omega),Bool.or_true]
  rfl
 have hRt:dRt (oM (S:Nat)) (oE (S:Nat) E) = true:=by
  unfold dRt
  rw [if_neg (oM_ne _ hz0).1,oE_ne _ _ hz0,decide_eq_true (oM_ne _ hz0).2,decide_eq_true (by omega)]
  rfl
 have hle:(oM (S:Nat)).natAbs < TOP:=Nat.lt_of_le_of_lt (oM_le _) hz
 have C6:∀ w' v,Below w.heap.size w w'→IsDy w' v (oM (S:Nat)) (oE (S:Nat) E)→_:=fun w' v h hv=>round_dy hv hle hRt (hT.all h)
 rw [(rnd_odd ((S:Nat):Int) E).1,oM_sign,decide_eq_false (show ¬ ((S:Nat):Int) < 0 by omega),wrd_false,Int.natAbs_natCast,q1,q2] at C6
 refine divFinite_n a b (sx:Nat) (sy:Nat) tx ty (S:Nat) E _ _ _ w _ _ (by omega) hE C1 C2 C3
  (fun w'=>of_any _ w' (by omega) (by omega)) (fun B w' v h hv=>?_) C6 (fun w'=>tsigned_any r a b w' ha hb (by omega))
 have:=make_num E hv hz (by omega) (hT.all h)
 unfold dErr dM dX at this
 rw [hok] at this
 exact this.mono fun r w'' ⟨u,g1,g2,g3⟩=>⟨⟨u,g1,g2⟩,g3⟩
theorem pS_def (a b:Nat):stk (dS a * 2 ^ 54) (dS b) = pS a b:=by unfold pS;rfl
theorem dT_in (b:Nat) (hb:b < 18446744073709551616) (hf:fFin b = true) (h0:fK b ≠ 0):-1100≤dT b∧dT b≤1100:=by
 obtain ⟨x1,x2,x3,x4,x5,x6,x7,x8⟩:=dS_facts b hb hf h0
 unfold dT
 omega
theorem divFinite_any (a b:Nat) (w:World) (ha:a < 18446744073709551616) (hb:b < 18446744073709551616) (fa:fFin a = true) (fb:fFin b = true) (a0:fK a ≠ 0) (b0:fK b ≠ 0) (hT:Tab w) :
  Calls Tryz.prog 264 #[.int .u64 a,.int .u64 b] w fun r w'=>r = .returned (.tuple #[.int .u64 (dV a b:Nat),.int .u8 (dF a b)])∧Below w.heap.size w w':=by
 obtain ⟨y1,y2,y3,y4,y5,y6,y7,y8⟩:=dS_facts b hb fb b0
 obtain ⟨s1,s2,s3⟩:=pS_facts a b ha hb fa fb a0 b0
 obtain ⟨q1,q2⟩:=quo_prog a b ha hb fa fb a0 b0
 have hr:qV a b≤9218868437227405312:=rnd_le _ _
 have C3:=fun w'=>quotient_any (dS a) (dS b) w' y4 s3
 have t1:=dT_in a ha fa a0
 have t2:=dT_in b hb fb b0
 have e1:=(dV_fin a b fa fb a0 b0).1
 have e2:=(dV_fin a b fa fb a0 b0).2
 rw [pS_def] at C3
 rw [e1,e2]
 exact divFinite_of a b (pS a b) (dS a) (dS b) (qV a b) (dT a) (dT b) (qF a b) w ha hb hr ⟨t1.1,t1.2,t2.1,t2.2⟩ s1 s2 q1 q2 hT (fun w' h=>sizeOf_any a w' ha fa a0 (hT.all h)) (fun w' h=>sizeOf_any b w' hb fb b0 (hT.all h)) C3
end Go.Proofs.YtcbcmlaogehimaaGreatDoor
