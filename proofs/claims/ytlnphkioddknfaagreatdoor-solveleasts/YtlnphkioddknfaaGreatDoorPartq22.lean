/- Part 22 of the texts. -/
import Derived.Test.YtlnphkioddknfaaGreatDoorPartq21
import Derived.Test.YtlnphkioddknfaaGreatDoorPartq18
import Derived.Test.YtlnphkioddknfaaGreatDoorPartq17
set_option maxHeartbeats 4000000
set_option maxRecDepth 20000
namespace Go.Proofs.YtlnphkioddknfaaGreatDoor
open Go.RowKit
def apV (t:Nat):List Nat→List Nat→List Nat
 | v :: vs,y :: ys=>aV y (fN (mV t v)) :: apV t vs ys
 | _,_=>[]
end Go.Proofs.YtlnphkioddknfaaGreatDoor
namespace Go.Proofs.YtlnphkioddknfaaGreatDoor
open Go.RowKit
def sm:Nat→(Nat→Rat)→Rat
 | 0,_=>0
 | n+1,f=>sm n f+f n
end Go.Proofs.YtlnphkioddknfaaGreatDoor
namespace Go.Proofs.YtlnphkioddknfaaGreatDoor
open Go.RowKit
def gw (ε:Rat):Nat→Rat
 | 0=>1
 | k+1=>(1+2 * ε) * gw ε k
def bk (ε:Rat):Nat→Rat
 | 0=>0
 | k+1=>3+(1+2 * ε) * (1+2 * ε) * bk ε k
def er (ε δ:Rat):Nat→Rat
 | 0=>0
 | k+1=>gw ε k+er ε δ k * (1+2 * ε+δ)
end Go.Proofs.YtlnphkioddknfaaGreatDoor
namespace Go.Proofs.YtlnphkioddknfaaGreatDoor
open Go.RowKit
def aO (s t:Bool):Nat:=if (s && t) = true then 9223372036854775808 else 0
theorem nought_any (a b:Nat) (w:World) (ha:a < 18446744073709551616) (hb:b < 18446744073709551616) :
  Calls Tryz.prog 263 #[.int .u64 a,.int .u64 b] w fun e w'=>e = .returned (.int .u64 (aO (fS a) (fS b):Nat))∧Below w.heap.size w w':=by
 have C1:=hide (fun w'=>ssign_any a w' ha)
 have C2:=hide (fun w'=>ssign_any b w' hb)
 generalize fS a = s at *
 generalize fS b = t at *
 clear ha hb
 go_enter Tryz.func263,Tryz.ntmps263
 go_wp2_with fail
 refine (uH C1 _).mono ?_
 rintro e w1 ⟨rfl,hb1⟩
 cases s
 ·go_wp2
  go_ret
  exact ⟨rfl,hb1⟩
 ·go_wp2_with fail
  refine (uH C2 _).mono ?_
  rintro e w2 ⟨rfl,hb2⟩
  cases t
  ·go_wp2
   go_ret
   exact ⟨rfl,hb1.trans (hb2.mono hb1.size)⟩
  ·go_wp2
   go_ret
   exact ⟨rfl,hb1.trans (hb2.mono hb1.size)⟩
theorem dy_len {w:World} {n:Bool} {a:Option Addr} {l c:Nat} {e m X:Int} (h:IsDy w (.agg #[.bool n,.slice a l c,.int .i64 e]) m X):((l:Int) == 0) = decide (m = 0):=by
 obtain ⟨n',a',c',L',e1,_,e3,_,e5,_⟩:=h.parts
 simp only [Value.agg.injEq,Array.mk.injEq,List.cons.injEq,Value.slice.injEq] at e1
 have e2:=e1.2.1.2.1
 by_cases h0:m = 0
 ·have:L' = []:=(val_zero_of_canon L' e3).1 (by rw [e5,h0];rfl)
  rw [decide_eq_true h0,e2,this];rfl
 ·have:L'.length ≠ 0:=fun h1=>by
   have:L' = []:=List.length_eq_zero_iff.1 h1
   rw [this] at e5
   simp [val] at e5
   omega
  rw [decide_eq_false h0];simp;omega
theorem addFinite_z (a b:Nat) (z1 z2 X1 X2 X3:Int) (w:World) (o:Nat)
  (C1:∀ w',Below w.heap.size w w'→Calls Tryz.prog 203 #[.int .u64 a] w' fun r w''=>DyR w'' r 0 z1 X1∧Below w'.heap.size w' w'')
  (C2:∀ w',Below w.heap.size w w'→Calls Tryz.prog 203 #[.int .u64 b] w' fun r w''=>DyR w'' r 0 z2 X2∧Below w'.heap.size w' w'')
  (C3:∀ w' v u,Below w.heap.size w w'→IsDy w' v z1 X1→IsDy w' u z2 X2→Calls Tryz.prog 262 #[v,u] w' fun r w''=>DyR w'' r 0 0 X3∧Below w'.heap.size w' w'')
  (C4:∀ w',Calls Tryz.prog 263 #[.int .u64 a,.int .u64 b] w' fun r w''=>r = .returned (.int .u64 (o:Nat))∧Below w'.heap.size w' w'') :
  Calls Tryz.prog 245 #[.int .u64 a,.int .u64 b] w fun r w'=>r = .returned (.tuple #[.int .u64 (o:Nat),.int .u8 0])∧Below w.heap.size w w':=by
 have K1:=hide C1;have K2:=hide C2;have K3:=hide C3;have K4:=hide C4
 clear C1 C2 C3 C4
 go_enter Tryz.func245,Tryz.ntmps245
 go_wp2_with fail
 refine (uH K1 _ (Below.refl _ _)).mono ?_
 rintro e w1 ⟨⟨v,rfl,hv⟩,hb1⟩
 obtain ⟨n1,a1,c1,L1,rfl,i1⟩:=hv
 have hb1a:Below w1.heap.size w1 (w1.alloc (.cells #[.bool n1,.slice a1 L1.length c1,.int .i64 X1] 47)):=(Below.refl _ _).alloc (Nat.le_refl _) _
 have HV:=hide ((show IsDy w1 (.agg #[.bool n1,.slice a1 L1.length c1,.int .i64 X1]) z1 X1 from ⟨n1,a1,c1,L1,rfl,i1⟩).below hb1a)
 have X:=hide (Box3.new w1 (.bool n1) (.slice a1 L1.length c1) (.int .i64 X1))
 have B1:=hide (hb1.trans (hb1a.mono hb1.size))
 clear i1 hb1 hb1a K1
 go_wp2_with fail
 refine (uH K2 _ (uH B1)).mono ?_
 rintro e w2 ⟨⟨v,rfl,hv⟩,hb1⟩
 obtain ⟨n2,a2,c2,L2,rfl,i2⟩:=hv
 have hb1a:Below w2.heap.size w2 (w2.alloc (.cells #[.bool n2,.slice a2 L2.length c2,.int .i64 X2] 47)):=(Below.refl _ _).alloc (Nat.le_refl _) _
 have HU:=hide ((show IsDy w2 (.agg #[.bool n2,.slice a2 L2.length c2,.int .i64 X2]) z2 X2 from ⟨n2,a2,c2,L2,rfl,i2⟩).below hb1a)
 have HV2:=hide (((uH HV).below hb1).below hb1a)
 have x1:=((uH X).all hb1).all hb1a
 have x2:=Box3.new w2 (.bool n2) (.slice a2 L2.length c2) (.int .i64 X2)
 have B2:=hide ((uH B1).trans ((hb1.trans (hb1a.mono hb1.size)).mono (uH B1).size))
 have y0:=x1.c0;have y1:=x1.c1;have y2:=x1.c2;have u0:=x2.c0;have u1:=x2.c1;have u2:=x2.c2
 clear i2 hb1 hb1a K2 B1 HV X x1 x2
 go_wp2_with fail
 refine (uH K3 _ _ _ (uH B2) (uH HV2) (uH HU)).mono ?_
 rintro e w3 ⟨⟨v,rfl,hv⟩,hb1⟩
 clear y0 y1 y2 u0 u1 u2
 obtain ⟨n3,a3,c3,L3,rfl,i3⟩:=hv
 have hb1a:Below w3.heap.size w3 (w3.alloc (.cells #[.bool n3,.slice a3 L3.length c3,.int .i64 X3] 47)):=(Below.refl _ _).alloc (Nat.le_refl _) _
 have HX:=hide ((show IsDy w3 (.agg #[.bool n3,.slice a3 L3.length c3,.int .i64 X3]) 0 X3 from ⟨n3,a3,c3,L3,rfl,i3⟩).below hb1a)
 have hl:=dy_len (uH HX)
 rw [decide_eq_true rfl] at hl
 have B3:=hide ((uH B2).trans ((hb1.trans (hb1a.mono hb1.size)).mono (uH B2).size))
 have x3:=Box3.new w3 (.bool n3) (.slice a3 L3.length c3) (.int .i64 X3)
 have y0:=x3.c0;have y1:=x3.c1;have y2:=x3.c2
 clear i3 hb1 hb1a K3 B2 HV2 HU x3
 generalize L3.length = l3 at *
 go_wp2_with fail
 refine (uH K4 _).mono ?_
 rintro e w4 ⟨rfl,hb1⟩
 have B4:=hide ((uH B3).trans (hb1.mono (uH B3).size))
 clear hb1 K4 B3
 go_wp2
 exact bodyPost_ret (v:=.tuple #[.int .u64 o,.int .u8 0]) (by simp [results,Tryz.results245,go_sem]) rfl ⟨rfl,uH B4⟩
theorem addFinite_n (a b:Nat) (z1 z2 z3 X1 X2 X3 fl:Int) (w:World) (o:Nat) (h0:z3 ≠ 0)
  (C1:∀ w',Below w.heap.size w w'→Calls Tryz.prog 203 #[.int .u64 a] w' fun r w''=>DyR w'' r 0 z1 X1∧Below w'.heap.size w' w'')
  (C2:∀ w',Below w.heap.size w w'→Calls Tryz.prog 203 #[.int .u64 b] w' fun r w''=>DyR w'' r 0 z2 X2∧Below w'.heap.size w' w'')
  (C3:∀ w' v u,Below w.heap.size w w'→IsDy w' v z1 X1→IsDy w' u z2 X2→Calls Tryz.prog 262 #[v,u] w' fun r w''=>DyR w'' r 0 z3 X3∧Below w'.heap.size w' w'')
  (C4:∀ w' v,Below w.heap.size w w'→IsDy w' v z3 X3→Calls Tryz.prog 205 #[v] w' fun r w''=>r = .returned (.tuple #[.int .u64 (o:Nat),.int .u8 fl,.int .i64 0])∧Below w'.heap.size w' w'') :
  Calls Tryz.prog 245 #[.int .u64 a,.int .u64 b] w fun r w'=>r = .returned (.tuple #[.int .u64 (o:Nat),.int .u8 fl])∧Below w.heap.size w w':=by
 have K1:=hide C1;have K2:=hide C2;have K3:=hide C3;have K4:=hide C4
 clear C1 C2 C3 C4
 go_enter Tryz.func245,Tryz.ntmps245
 go_wp2_with fail
 refine (uH K1 _ (Below.refl _ _)).mono ?_
 rintro e w1 ⟨⟨v,rfl,hv⟩,hb1⟩
 obtain ⟨n1,a1,c1,L1,rfl,i1⟩:=hv
 have hb1a:Below w1.heap.size w1 (w1.alloc (.cells #[.bool n1,.slice a1 L1.length c1,.int .i64 X1] 47)):=(Below.refl _ _).alloc (Nat.le_refl _) _
 have HV:=hide ((show IsDy w1 (.agg #[.bool n1,.slice a1 L1.length c1,.int .i64 X1]) z1 X1 from ⟨n1,a1,c1,L1,rfl,i1⟩).below hb1a)
 have X:=hide (Box3.new w1 (.bool n1) (.slice a1 L1.length c1) (.int .i64 X1))
 have B1:=hide (hb1.trans (hb1a.mono hb1.size))
 clear i1 hb1 hb1a K1
 go_wp2_with fail
 refine (uH K2 _ (uH B1)).mono ?_
 rintro e w2 ⟨⟨v,rfl,hv⟩,hb1⟩
 obtain ⟨n2,a2,c2,L2,rfl,i2⟩:=hv
 have hb1a:Below w2.heap.size w2 (w2.alloc (.cells #[.bool n2,.slice a2 L2.length c2,.int .i64 X2] 47)):=(Below.refl _ _).alloc (Nat.le_refl _) _
 have HU:=hide ((show IsDy w2 (.agg #[.bool n2,.slice a2 L2.length c2,.int .i64 X2]) z2 X2 from ⟨n2,a2,c2,L2,rfl,i2⟩).below hb1a)
 have HV2:=hide (((uH HV).below hb1).below hb1a)
 have x1:=((uH X).all hb1).all hb1a
 have x2:=Box3.new w2 (.bool n2) (.slice a2 L2.length c2) (.int .i64 X2)
 have B2:=hide ((uH B1).trans ((hb1.trans (hb1a.mono hb1.size)).mono (uH B1).size))
 have y0:=x1.c0;have y1:=x1.c1;have y2:=x1.c2;have u0:=x2.c0;have u1:=x2.c1;have u2:=x2.c2
 clear i2 hb1 hb1a K2 B1 HV X x1 x2
 go_wp2_with fail
 refine (uH K3 _ _ _ (uH B2) (uH HV2) (uH HU)).mono ?_
 rintro e w3 ⟨⟨v,rfl,hv⟩,hb1⟩
 clear y0 y1 y2 u0 u1 u2
 obtain ⟨n3,a3,c3,L3,rfl,i3⟩:=hv
 have hb1a:Below w3.heap.size w3 (w3.alloc (.cells #[.bool n3,.slice a3 L3.length c3,.int .i64 X3] 47)):=(Below.refl _ _).alloc (Nat.le_refl _) _
 have HX:=hide ((show IsDy w3 (.agg #[.bool n3,.slice a3 L3.length c3,.int .i64 X3]) z3 X3 from ⟨n3,a3,c3,L3,rfl,i3⟩).below hb1a)
 have hl:=dy_len (uH HX)
 rw [decide_eq_false h0] at hl
 have B3:=hide ((uH B2).trans ((hb1.trans (hb1a.mono hb1.size)).mono (uH B2).size))
 have x3:=Box3.new w3 (.bool n3) (.slice a3 L3.length c3) (.int .i64 X3)
 have y0:=x3.c0;have y1:=x3.c1;have y2:=x3.c2
 clear i3 hb1 hb1a K3 B2 HV2 HU x3
 generalize L3.length = l3 at *
 go_wp2_with fail
 refine (uH K4 _ _ (uH B3) (uH HX)).mono ?_
 rintro e w4 ⟨rfl,hb1⟩
 have B4:=hide ((uH B3).trans (hb1.mono (uH B3).size))
 clear hb1 K4 B3
 go_wp2
 exact bodyPost_ret (v:=.tuple #[.int .u64 o,.int .u8 fl]) (by simp [results,Tryz.results245,go_sem]) rfl ⟨rfl,uH B4⟩
theorem addFinite_any (a b:Nat) (w:World) (ha:a < 18446744073709551616) (hb:b < 18446744073709551616) (fa:fFin a = true) (fb:fFin b = true) (hT:Tab w) :
  Calls Tryz.prog 245 #[.int .u64 a,.int .u64 b] w fun r w'=>r = .returned (.tuple #[.int .u64 (aV a b:Nat),.int .u8 (aF a b)])∧Below w.heap.size w w':=by
 obtain ⟨a3,a4⟩:fK a ≠ 3∧fK a ≠ 4:=by
  rcases fK_cases a with ⟨h,_⟩ | ⟨_,h⟩
  ·rw [fa] at h;cases h
  ·omega
 obtain ⟨b3,b4⟩:fK b ≠ 3∧fK b ≠ 4:=by
  rcases fK_cases b with ⟨h,_⟩ | ⟨_,h⟩
  ·rw [fb] at h;cases h
  ·omega
 obtain ⟨d1,d2⟩:=fZ_level a ha fa
 obtain ⟨d3,d4⟩:=fZ_level b hb fb
 have l3:=aZ_Lvl a b fa fb
 have C1:∀ w',Below w.heap.size w w'→_:=fun w' h=>value_some a w' ha fa (hT.all h)
 have C2:∀ w',Below w.heap.size w w'→_:=fun w' h=>value_some b w' hb fb (hT.all h)
 have C3:∀ w' v u,Below w.heap.size w w'→IsDy w' v (fD a) (fX a)→IsDy w' u (fD b) (fX b)→_:=fun w' v u h hv hu =>
  addN (W:=2099) (lo:=-1074) (z1:=fZ a) (z2:=fZ b) (by rw [d1,d2];exact hv) (by rw [d3,d4];exact hu) (fZ_Lvl a fa) (fZ_Lvl b fb) l3 (hT.all h)
 rw [(add_f a b a3 a4 b3 b4).1,(add_f a b a3 a4 b3 b4).2]
 by_cases h0:aZ a b = 0
 ·rw [if_pos h0,if_pos h0]
  have hz:fZ a+fZ b = 0:=h0
  rw [hz,oM_zero] at C3
  exact addFinite_z a b _ _ _ _ _ w _ C1 C2 C3 (fun w'=>nought_any a b w' ha hb)
 ·rw [if_neg h0,if_neg h0]
  have C4:∀ w' v,Below w.heap.size w w'→IsDy w' v (oM (aZ a b)) (oE (aZ a b) (-1074))→_:=fun w' v h hv=>round_dy hv l3.right.2 l3.right.1 (hT.all h)
  rw [(rnd_odd (aZ a b) (-1074)).1,oM_sign] at C4
  exact addFinite_n a b _ _ _ _ _ _ _ w _ (oM_ne _ h0).1 C1 C2 C3 C4
end Go.Proofs.YtlnphkioddknfaaGreatDoor
namespace Go.Proofs.YtlnphkioddknfaaGreatDoor
open Go.RowKit
theorem sadd_n1 (a b:Nat) (kb:Int) (w:World) 
  (C1:∀ w',Calls Tryz.prog 103 #[.int .u64 a] w' fun r w''=>r = .returned (.int .i64 4)∧Below w'.heap.size w' w'')
  (C2:∀ w',Calls Tryz.prog 103 #[.int .u64 b] w' fun r w''=>r = .returned (.int .i64 kb)∧Below w'.heap.size w' w'') :
  Calls Tryz.prog 224 #[.int .u64 a,.int .u64 b] w fun r w'=>r = .returned (.tuple #[.int .u64 9221120237041090560,.int .u8 0])∧Below w.heap.size w w':=by
 have K1:=hide C1;have K2:=hide C2
 clear C1 C2
 go_enter Tryz.func224,Tryz.ntmps224
 go_wp2_with fail
 refine (uH K1 _).mono ?_
 rintro e w1 ⟨rfl,hb1⟩
 go_wp2_with fail
 refine (uH K2 _).mono ?_
 rintro e w2 ⟨rfl,hb2⟩
 have B:=hide (hb1.trans (hb2.mono hb1.size))
 clear hb1 hb2 K1 K2
 go_wp2
 exact bodyPost_ret (v:=.tuple #[.int .u64 9221120237041090560,.int .u8 0]) (by simp [results,Tryz.results224,go_sem]) rfl ⟨rfl,uH B⟩
theorem sadd_n2 (a b:Nat) (ka:Int) (w:World) (h1:(ka == 4) = false)
  (C1:∀ w',Calls Tryz.prog 103 #[.int .u64 a] w' fun r w''=>r = .returned (.int .i64 ka)∧Below w'.heap.size w' w'')
  (C2:∀ w',Calls Tryz.prog 103 #[.int .u64 b] w' fun r w''=>r = .returned (.int .i64 4)∧Below w'.heap.size w' w'') :
  Calls Tryz.prog 224 #[.int .u64 a,.int .u64 b] w fun r w'=>r = .returned (.tuple #[.int .u64 9221120237041090560,.int .u8 0])∧Below w.heap.size w w':=by
 have K1:=hide C1;have K2:=hide C2
 clear C1 C2
 go_enter Tryz.func224,Tryz.ntmps224
 go_wp2_with fail
 refine (uH K1 _).mono ?_
 rintro e w1 ⟨rfl,hb1⟩
 go_wp2_with fail
 refine (uH K2 _).mono ?_
 rintro e w2 ⟨rfl,hb2⟩
 have B:=hide (hb1.trans (hb2.mono hb1.size))
 clear hb1 hb2 K1 K2
 go_wp2
 exact bodyPost_ret (v:=.tuple #[.int .u64 9221120237041090560,.int .u8 0]) (by simp [results,Tryz.results224,go_sem]) rfl ⟨rfl,uH B⟩
theorem sadd_ii (a b:Nat) (w:World) (h1:((a:Int) == (b:Int)) = false)
  (C1:∀ w',Calls Tryz.prog 103 #[.int .u64 a] w' fun r w''=>r = .returned (.int .i64 3)∧Below w'.heap.size w' w'')
  (C2:∀ w',Calls Tryz.prog 103 #[.int .u64 b] w' fun r w''=>r = .returned (.int .i64 3)∧Below w'.heap.size w' w'') :
  Calls Tryz.prog 224 #[.int .u64 a,.int .u64 b] w fun r w'=>r = .returned (.tuple #[.int .u64 9221120237041090560,.int .u8 16])∧Below w.heap.size w w':=by
 have K1:=hide C1;have K2:=hide C2
 clear C1 C2
 go_enter Tryz.func224,Tryz.ntmps224
 go_wp2_with fail
 refine (uH K1 _).mono ?_
 rintro e w1 ⟨rfl,hb1⟩
 go_wp2_with fail
 refine (uH K2 _).mono ?_
 rintro e w2 ⟨rfl,hb2⟩
 have B:=hide (hb1.trans (hb2.mono hb1.size))
 clear hb1 hb2 K1 K2
 go_wp2
 exact bodyPost_ret (v:=.tuple #[.int .u64 9221120237041090560,.int .u8 16]) (by simp [results,Tryz.results224,go_sem]) rfl ⟨rfl,uH B⟩
theorem sadd_ie (a b:Nat) (w:World) (h1:((a:Int) == (b:Int)) = true)
  (C1:∀ w',Calls Tryz.prog 103 #[.int .u64 a] w' fun r w''=>r = .returned (.int .i64 3)∧Below w'.heap.size w' w'')
  (C2:∀ w',Calls Tryz.prog 103 #[.int .u64 b] w' fun r w''=>r = .returned (.int .i64 3)∧Below w'.heap.size w' w'') :
  Calls Tryz.prog 224 #[.int .u64 a,.int .u64 b] w fun r w'=>r = .returned (.tuple #[.int .u64 a,.int .u8 0])∧Below w.heap.size w w':=by
 have K1:=hide C1;have K2:=hide C2
 clear C1 C2
 go_enter Tryz.func224,Tryz.ntmps224
 go_wp2_with fail
 refine (uH K1 _).mono ?_
 rintro e w1 ⟨rfl,hb1⟩
 go_wp2_with fail
 refine (uH K2 _).mono ?_
 rintro e w2 ⟨rfl,hb2⟩
 have B:=hide (hb1.trans (hb2.mono hb1.size))
 clear hb1 hb2 K1 K2
 go_wp2
 exact bodyPost_ret (v:=.tuple #[.int .u64 a,.int .u8 0]) (by simp [results,Tryz.results224,go_sem]) rfl ⟨rfl,uH B⟩
theorem sadd_i (a b:Nat) (kb:Int) (w:World) (h1:(kb == 4) = false) (h2:(kb == 3) = false)
  (C1:∀ w',Calls Tryz.prog 103 #[.int .u64 a] w' fun r w''=>r = .returned (.int .i64 3)∧Below w'.heap.size w' w'')
  (C2:∀ w',Calls Tryz.prog 103 #[.int .u64 b] w' fun r w''=>r = .returned (.int .i64 kb)∧Below w'.heap.size w' w'') :
  Calls Tryz.prog 224 #[.int .u64 a,.int .u64 b] w fun r w'=>r = .returned (.tuple #[.int .u64 a,.int .u8 0])∧Below w.heap.size w w':=by
 have K1:=hide C1;have K2:=hide C2
 clear C1 C2
 go_enter Tryz.func224,Tryz.ntmps224
 go_wp2_with fail
 refine (uH K1 _).mono ?_
 rintro e w1 ⟨rfl,hb1⟩
 go_wp2_with fail
 refine (uH K2 _).mono ?_
 rintro e w2 ⟨rfl,hb2⟩
 have B:=hide (hb1.trans (hb2.mono hb1.size))
 clear hb1 hb2 K1 K2
 go_wp2
 exact bodyPost_ret (v:=.tuple #[.int .u64 a,.int .u8 0]) (by simp [results,Tryz.results224,go_sem]) rfl ⟨rfl,uH B⟩
theorem sadd_j (a b:Nat) (ka:Int) (w:World) (h1:(ka == 4) = false) (h2:(ka == 3) = false)
  (C1:∀ w',Calls Tryz.prog 103 #[.int .u64 a] w' fun r w''=>r = .returned (.int .i64 ka)∧Below w'.heap.size w' w'')
  (C2:∀ w',Calls Tryz.prog 103 #[.int .u64 b] w' fun r w''=>r = .returned (.int .i64 3)∧Below w'.heap.size w' w'') :
  Calls Tryz.prog 224 #[.int .u64 a,.int .u64 b] w fun r w'=>r = .returned (.tuple #[.int .u64 b,.int .u8 0])∧Below w.heap.size w w':=by
 have K1:=hide C1;have K2:=hide C2
 clear C1 C2
 go_enter Tryz.func224,Tryz.ntmps224
 go_wp2_with fail
 refine (uH K1 _).mono ?_
 rintro e w1 ⟨rfl,hb1⟩
 go_wp2_with fail
 refine (uH K2 _).mono ?_
 rintro e w2 ⟨rfl,hb2⟩
 have B:=hide (hb1.trans (hb2.mono hb1.size))
 clear hb1 hb2 K1 K2
 go_wp2
 exact bodyPost_ret (v:=.tuple #[.int .u64 b,.int .u8 0]) (by simp [results,Tryz.results224,go_sem]) rfl ⟨rfl,uH B⟩
theorem sadd_f (a b:Nat) (ka kb fl:Int) (o:Nat) (w:World) (h1:(ka == 4) = false) (h2:(ka == 3) = false) (h3:(kb == 4) = false) (h4:(kb == 3) = false) (hT:Tab w)
  (C3:∀ w',Tab w'→Calls Tryz.prog 245 #[.int .u64 a,.int .u64 b] w' fun r w''=>r = .returned (.tuple #[.int .u64 (o:Nat),.int .u8 fl])∧Below w'.heap.size w' w'')
  (C1:∀ w',Calls Tryz.prog 103 #[.int .u64 a] w' fun r w''=>r = .returned (.int .i64 ka)∧Below w'.heap.size w' w'')
  (C2:∀ w',Calls Tryz.prog 103 #[.int .u64 b] w' fun r w''=>r = .returned (.int .i64 kb)∧Below w'.heap.size w' w'') :
  Calls Tryz.prog 224 #[.int .u64 a,.int .u64 b] w fun r w'=>r = .returned (.tuple #[.int .u64 (o:Nat),.int .u8 fl])∧Below w.heap.size w w':=by
 have K1:=hide C1;have K2:=hide C2
 clear C1 C2
 go_enter Tryz.func224,Tryz.ntmps224
 go_wp2_with fail
 refine (uH K1 _).mono ?_
 rintro e w1 ⟨rfl,hb1⟩
 go_wp2_with fail
 refine (uH K2 _).mono ?_
 rintro e w2 ⟨rfl,hb2⟩
 have B:=hide (hb1.trans (hb2.mono hb1.size))
 clear hb1 hb2 K1 K2
 have K3:=hide C3;have HT:=hide (hT.all (uH B))
 clear C3 hT
 go_wp2_with fail
 refine (uH K3 _ (uH HT)).mono ?_
 rintro e w3 ⟨rfl,hb3⟩
 have B:=hide ((uH B).trans (hb3.mono (uH B).size))
 clear hb3 K3 HT
 go_wp2
 exact bodyPost_ret (v:=.tuple #[.int .u64 (o:Nat),.int .u8 fl]) (by simp [results,Tryz.results224,go_sem]) rfl ⟨rfl,uH B⟩
theorem sadd_any (a b:Nat) (w:World) (ha:a < 18446744073709551616) (hb:b < 18446744073709551616) (hT:Tab w) :
  Calls Tryz.prog 224 #[.int .u64 a,.int .u64 b] w fun r w'=>r = .returned (.tuple #[.int .u64 (aV a b:Nat),.int .u8 (aF a b)])∧Below w.heap.size w w':=by
 have C1:=fun w'=>kind_any a w' ha
 have C2:=fun w'=>kind_any b w' hb
 by_cases a4:fK a = 4
 ·have e1:aV a b = 9221120237041090560:=by unfold aV;rw [if_pos (Or.inl a4)]
  have e2:aF a b = 0:=by unfold aF;rw [if_pos (Or.inl a4)]
  rw [e1,e2]
  rw [a4] at C1
  exact sadd_n1 a b _ w C1 C2
 by_cases b4:fK b = 4
 ·have e1:aV a b = 9221120237041090560:=by unfold aV;rw [if_pos (Or.inr b4)]
  have e2:aF a b = 0:=by unfold aF;rw [if_pos (Or.inr b4)]
  rw [e1,e2]
  rw [b4] at C2
  exact sadd_n2 a b _ w (by simp [a4]) C1 C2
 have n4:¬ (fK a = 4 ∨ fK b = 4):=by omega
 by_cases a3:fK a = 3
 ·by_cases b3:fK b = 3
  ·by_cases hab:a = b
   ·have e1:aV a b = a:=by unfold aV;rw [if_neg n4,if_pos a3,if_neg (fun h=>h.2 hab)]
    have e2:aF a b = 0:=by unfold aF;rw [if_neg n4,if_pos a3,if_neg (fun h=>h.2 hab)]
    rw [e1,e2]
    rw [a3] at C1
    rw [b3] at C2
    exact sadd_ie a b w (by simp [hab]) C1 C2
   ·have e1:aV a b = 9221120237041090560:=by unfold aV;rw [if_neg n4,if_pos a3,if_pos ⟨b3,hab⟩]
    have e2:aF a b = 16:=by unfold aF;rw [if_neg n4,if_pos a3,if_pos ⟨b3,hab⟩]
    rw [e1,e2]
    rw [a3] at C1
    rw [b3] at C2
    exact sadd_ii a b w (by simp;omega) C1 C2
  ·have e1:aV a b = a:=by unfold aV;rw [if_neg n4,if_pos a3,if_neg (fun h=>b3 h.1)]
   have e2:aF a b = 0:=by unfold aF;rw [if_neg n4,if_pos a3,if_neg (fun h=>b3 h.1)]
   rw [e1,e2]
   rw [a3] at C1
   exact sadd_i a b _ w (by simp [b4]) (by simp [b3]) C1 C2
 ·by_cases b3:fK b = 3
  ·have e1:aV a b = b:=by unfold aV;rw [if_neg n4,if_neg a3,if_pos b3]
   have e2:aF a b = 0:=by unfold aF;rw [if_neg n4,if_neg a3,if_pos b3]
   rw [e1,e2]
   rw [b3] at C2
   exact sadd_j a b _ w (by simp [a4]) (by simp [a3]) C1 C2
  ·exact sadd_f a b _ _ _ _ w (by simp [a4]) (by simp [a3]) (by simp [b4]) (by simp [b3]) hT (fun w' t=>addFinite_any a b w' ha hb (fin_of a a3 a4) (fin_of b b3 b4) t) C1 C2
theorem ssub_any (a b:Nat) (w:World) (ha:a < 18446744073709551616) (hb:b < 18446744073709551616) (hT:Tab w) :
  Calls Tryz.prog 200 #[.int .u64 a,.int .u64 b] w fun r w'=>r = .returned (.tuple #[.int .u64 (aV a (fN b):Nat),.int .u8 (aF a (fN b))])∧Below w.heap.size w w':=by
 have K1:=hide (fun w'=>sminus_any b w' hb)
 have K2:=hide (sadd_any a (fN b) w ha (fN_lt b hb) hT)
 clear ha hb hT
 generalize aV a (fN b) = o at *
 generalize aF a (fN b) = fl at *
 go_enter Tryz.func200,Tryz.ntmps200
 go_wp2_with fail
 refine (uH K1 _).mono ?_
 rintro e w1 ⟨rfl,rfl⟩
 go_wp2_with fail
 refine Calls.mono (uH K2) ?_
 rintro e w2 ⟨rfl,hb2⟩
 have B:=hide hb2
 clear hb2 K1 K2
 go_wp2
 exact bodyPost_ret (v:=.tuple #[.int .u64 o,.int .u8 fl]) (by simp [results,Tryz.results200,go_sem]) rfl ⟨rfl,uH B⟩
end Go.Proofs.YtlnphkioddknfaaGreatDoor
