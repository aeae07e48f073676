/- Part 18 of the texts. -/
import Derived.Test.YtlnphkioddknfaaGreatDoorParti17
import Derived.Test.YtlnphkioddknfaaGreatDoorParti15
import Derived.Test.YtlnphkioddknfaaGreatDoorParti14
import Ieee.Arith
namespace Go.Proofs.YtlnphkioddknfaaGreatDoor
open Go.RowKit
def pv (n:Bool) (r:Nat):Int:=if n = true then -(rv r:Int) else (rv r:Int)
theorem rv_lt {r s:Nat} (h:r < s):rv r < rv s:=Nat.lt_of_lt_of_le (rv_succ r) (rv_mono h)
end Go.Proofs.YtlnphkioddknfaaGreatDoor
namespace Go.Proofs.YtlnphkioddknfaaGreatDoor
open Go.RowKit
theorem up_level (z lo:Int) (k:Nat) (h:z ≠ 0→lo+k≤oE z lo):up (oM z) (oE z lo) (lo+k) * 2 ^ k = z:=by
 by_cases h0:z = 0
 ·subst h0;rw [oM_zero,up_zero];simp
 ·have h1:=h h0
  conv=>rhs;rw [← oM_level z lo h0]
  unfold up
  rw [Int.mul_assoc,← Int.pow_add]
  congr 2
  omega
theorem low_level {lo:Int} {W:Nat} {z1 z2:Int} (h1:Lvl lo W z1) (h2:Lvl lo W z2) (h0:¬ (z1 = 0∧z2 = 0)) :
  ∃ k:Nat,lowE (oM z1) (oE z1 lo) (oM z2) (oE z2 lo) = lo+k∧up (oM z1) (oE z1 lo) (lo+k) * 2 ^ k = z1∧up (oM z2) (oE z2 lo) (lo+k) * 2 ^ k = z2∧oE z1 lo - (lo+k)≤16384∧oE z2 lo - (lo+k)≤16384:=by
 have b1:=h1.2.1
 have b2:=h1.2.2.1
 have b3:=h1.2.2.2
 have hb:∀ z,Lvl lo W z→(z = 0∧oM z = 0∧oE z lo = 0) ∨ (z ≠ 0∧oM z ≠ 0∧oE z lo = lo+(tz z.natAbs:Int)∧tz z.natAbs < W):=fun z hz=>by
  by_cases e:z = 0
  ·left;subst e;exact ⟨rfl,oM_zero,oE_zero _⟩
  ·right;exact ⟨e,(oM_ne z e).1,oE_ne z lo e,hz.tzs e⟩
 rcases hb z1 h1 with ⟨e1,m1,x1⟩ | ⟨e1,m1,x1,t1⟩
 ·rcases hb z2 h2 with ⟨e2,m2,x2⟩ | ⟨e2,m2,x2,t2⟩
  ·exact absurd ⟨e1,e2⟩ h0
  ·refine ⟨tz z2.natAbs,?_,up_level z1 lo _ (fun h=>absurd e1 h),up_level z2 lo _ (fun _=>by omega),by omega,by omega⟩
   unfold lowE;rw [if_pos m1];exact x2
 ·rcases hb z2 h2 with ⟨e2,m2,x2⟩ | ⟨e2,m2,x2,t2⟩
  ·refine ⟨tz z1.natAbs,?_,up_level z1 lo _ (fun _=>by omega),up_level z2 lo _ (fun h=>absurd e2 h),by omega,by omega⟩
   unfold lowE;rw [if_neg m1,if_pos m2];exact x1
  ·refine ⟨min (tz z1.natAbs) (tz z2.natAbs),?_,up_level z1 lo _ (fun _=>by omega),up_level z2 lo _ (fun _=>by omega),by omega,by omega⟩
   rw [lowE_ne _ _ _ _ m1 m2,x1,x2];omega
theorem cmpI_scale (u v:Int) (k:Nat):cmpI (u * 2 ^ k) (v * 2 ^ k) = cmpI u v:=by
 rw [cmpI_sgn,cmpI_sgn,← Int.sub_mul,sgnI_mul_pow]
theorem rcmpN {w:World} {v u:Value} {lo:Int} {W:Nat} {z1 z2:Int} (hv:IsDy w v (oM z1) (oE z1 lo)) (hu:IsDy w u (oM z2) (oE z2 lo)) (h1:Lvl lo W z1) (h2:Lvl lo W z2) :
  Calls Tryz.prog 90 #[v,u] w fun r w'=>r = .returned (.int .i64 (cmpI z1 z2))∧Below w.heap.size w w':=by
 obtain ⟨na,ao,ca,A,rfl,a1,a2,a3,a4,a5⟩:=hv.right h1.right.2
 obtain ⟨nb,bo,cb,B,rfl,b1,b2,b3,b4,b5⟩:=hu.right h2.right.2
 have:=rcompare_any na nb ao bo ca cb A B _ _ w a1 b1 (a5.trans h1.right.1) (b5.trans h2.right.1)
 rw [a3,b3] at this
 have hc:cmpV (oM z1) (oE z1 lo) (oM z2) (oE z2 lo) = cmpI z1 z2:=by
  by_cases h0:z1 = 0∧z2 = 0
  ·obtain ⟨rfl,rfl⟩:=h0
   rw [oM_zero,oE_zero];rfl
  ·obtain ⟨k,e1,e2,e3,_,_⟩:=low_level h1 h2 h0
   unfold cmpV
   rw [e1,← cmpI_scale _ _ k,e2,e3]
 rwa [hc] at this
end Go.Proofs.YtlnphkioddknfaaGreatDoor
namespace Go.Proofs.YtlnphkioddknfaaGreatDoor
open Go.RowKit
def fR (b:Nat):Nat:=b % 9223372036854775808
def fZ (b:Nat):Int:=pv (fS b) (fR b)
theorem b_wrd (b:Nat) (h:b < 18446744073709551616):wrd (fS b) (fR b) = b:=by
 unfold fS fR
 by_cases c:9223372036854775808≤b
 ·rw [decide_eq_true c,wrd_true];omega
 ·rw [decide_eq_false c,wrd_false];omega
theorem fR_lt (b:Nat):fR b < 9223372036854775808:=by unfold fR;omega
theorem fR_fin (b:Nat) (hf:fFin b = true):fR b < 9218868437227405312:=by
 have h1:=of_decide_eq_true hf
 unfold fP at h1
 unfold fR
 omega
theorem sg_pv (n:Bool) (s:Nat):sg n (rv s) = pv n s:=rfl
theorem fZ_level (b:Nat) (h:b < 18446744073709551616) (hf:fFin b = true):oM (fZ b) = fD b∧oE (fZ b) (-1074) = fX b:=by
 obtain ⟨j,h1,h2⟩:=fM_wrd (fS b) (fR b) (fR_fin b hf)
 rw [b_wrd b h] at h1 h2
 have h3:=oM_scale (fM b) j (-1074)
 rw [h2,sg_pv,← h1] at h3
 exact h3
theorem rv_inf:rv 9218868437227405312 = 2 ^ 2098:=by decide +kernel
theorem pv_abs (n:Bool) (r:Nat):(pv n r).natAbs = rv r:=by unfold pv;split <;> omega
theorem fZ_abs (b:Nat):(fZ b).natAbs = rv (fR b):=pv_abs _ _
theorem fZ_lt (b:Nat) (hf:fFin b = true):(fZ b).natAbs < 2 ^ 2098:=by
 rw [fZ_abs,← rv_inf];exact rv_lt (fR_fin b hf)
def aZ (a b:Nat):Int:=fZ a+fZ b
def aV (a b:Nat):Nat :=
 if fK a = 4 ∨ fK b = 4 then 9221120237041090560
 else if fK a = 3 then (if fK b = 3∧a ≠ b then 9221120237041090560 else a)
 else if fK b = 3 then b
 else if aZ a b = 0 then (if (fS a && fS b) = true then 9223372036854775808 else 0)
 else wrd (decide (aZ a b < 0)) (rnd (aZ a b).natAbs (-1074))
def aF (a b:Nat):Int :=
 if fK a = 4 ∨ fK b = 4 then 0
 else if fK a = 3 then (if fK b = 3∧a ≠ b then 16 else 0)
 else if fK b = 3 then 0
 else if aZ a b = 0 then 0
 else rflag (oM (aZ a b)).natAbs (oE (aZ a b) (-1074))
theorem p2098:(2:Nat) ^ 2098+2 ^ 2098 = 2 ^ 2099:=by decide +kernel
theorem fZ_Lvl (b:Nat) (hf:fFin b = true):Lvl (-1074) 2099 (fZ b):=by
 have h1:=fZ_lt b hf
 have h2:=p2098
 have h3:=Nat.two_pow_pos 2098
 generalize (2:Nat) ^ 2098 = P at *
 exact ⟨by rw [← h2];omega,by decide,by decide,by decide⟩
theorem aZ_Lvl (a b:Nat) (ha:fFin a = true) (hb:fFin b = true):Lvl (-1074) 2099 (fZ a+fZ b):=by
 have h1:=fZ_lt a ha
 have h4:=fZ_lt b hb
 have h2:=p2098
 generalize (2:Nat) ^ 2098 = P at *
 exact ⟨by rw [← h2];omega,by decide,by decide,by decide⟩
theorem wrd_lt (n:Bool) (r:Nat) (h:r < 9223372036854775808):wrd n r < 18446744073709551616:=by unfold wrd;split <;> omega
theorem aV_lt (a b:Nat) (ha:a < 18446744073709551616) (hb:b < 18446744073709551616):aV a b < 18446744073709551616:=by
 unfold aV
 split
 ·omega
 ·split
  ·split <;> omega
  ·split
   ·omega
   ·split
    ·split <;> omega
    ·have:=rnd_le (aZ a b).natAbs (-1074)
     exact wrd_lt _ _ (by omega)
theorem add_f (a b:Nat) (a3:fK a ≠ 3) (a4:fK a ≠ 4) (b3:fK b ≠ 3) (b4:fK b ≠ 4) :
  aV a b = (if aZ a b = 0 then (if (fS a && fS b) = true then 9223372036854775808 else 0) else wrd (decide (aZ a b < 0)) (rnd (aZ a b).natAbs (-1074)))∧aF a b = (if aZ a b = 0 then 0 else rflag (oM (aZ a b)).natAbs (oE (aZ a b) (-1074))):=by
 have h:¬ (fK a = 4 ∨ fK b = 4):=by omega
 unfold aV aF
 simp only [if_neg h,if_neg a3,if_neg b3,and_self]
theorem rnd_0 (E:Int):rnd 0 E = 0:=by unfold rnd;exact if_pos rfl
end Go.Proofs.YtlnphkioddknfaaGreatDoor
namespace Go.Proofs.YtlnphkioddknfaaGreatDoor
open Go.RowKit
theorem fK_rungs (b:Nat):(fK b = 4 ↔ 9218868437227405312 < fR b)∧(fK b = 3 ↔ fR b = 9218868437227405312)∧(fFin b = true ↔ fR b < 9218868437227405312):=by
 have h:=fR_lt b
 have hF:fF b = fR b % 4503599627370496:=by unfold fF fR;omega
 have hP:fP b = fR b / 4503599627370496:=rfl
 unfold fK fFin
 rw [hF,hP]
 generalize fR b = r at *
 refine ⟨?_,?_,?_⟩
 ·split
  ·split <;> constructor <;> intro _ <;> omega
  ·split
   ·split <;> constructor <;> intro _ <;> omega
   ·constructor <;> intro _ <;> omega
 ·split
  ·split <;> constructor <;> intro _ <;> omega
  ·split
   ·split <;> constructor <;> intro _ <;> omega
   ·constructor <;> intro _ <;> omega
 ·rw [decide_eq_true_iff];omega
theorem fin_of (b:Nat) (h3:fK b ≠ 3) (h4:fK b ≠ 4):fFin b = true:=by
 rcases fK_cases b with ⟨_,h | h⟩ | ⟨h,_⟩
 ·exact absurd h h3
 ·exact absurd h h4
 ·exact h
end Go.Proofs.YtlnphkioddknfaaGreatDoor
namespace Go.Proofs.YtlnphkioddknfaaGreatDoor
open Go.RowKit
theorem fin_kind {b:Nat} (hf:fFin b = true):fK b ≠ 3∧fK b ≠ 4:=by
 rcases fK_cases b with ⟨h,_⟩ | ⟨_,h⟩
 ·rw [hf] at h;cases h
 ·omega
end Go.Proofs.YtlnphkioddknfaaGreatDoor
