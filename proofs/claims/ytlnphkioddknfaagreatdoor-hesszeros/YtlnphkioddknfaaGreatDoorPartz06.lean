/- Part 6 of the texts. -/
import Derived.Test.YtlnphkioddknfaaGreatDoorPartz05
import Derived.Test.YtlnphkioddknfaaGreatDoorPartz04
import Derived.Test.YtlnphkioddknfaaGreatDoorPartz02
import Derived.Lib.BitFns
import Derived.Laws.BitsAllLaws
set_option maxHeartbeats 4000000
namespace Go.Proofs.YtlnphkioddknfaaGreatDoor
open Go.RowKit
attribute [local go_sem ↓] Go.wp_at_zero Go.wp_at_succ
def chk2 (na:Bool) (A:List Nat) (nb:Bool) (B:List Nat):Int:=if rightB na A && rightB nb B then 0 else 1
theorem checkBoth_any (na nb:Bool) (ao bo:Option Addr) (ca cb:Nat) (A B:List Nat) (w:World) (hA:LimbsAt w ao ca A) (hB:LimbsAt w bo cb B) (la:A.length≤35184372088830) (lb:B.length≤35184372088830) :
  Calls Tryz.prog 277 #[.agg #[.bool na,.slice ao A.length ca],.agg #[.bool nb,.slice bo B.length cb]] w fun e w'=>e = .returned (.int .i64 (chk2 na A nb B))∧Below w.heap.size w w':=by
 have hE:(rightB na A = false→chk2 na A nb B = 1)∧(rightB na A = true→chk2 na A nb B = chkE nb B):=by
  constructor <;> intro h <;> simp [chk2,chkE,h]
 have HE:=hide hE
 clear hE
 generalize chk2 na A nb B = r at *
 go_enter Tryz.func277,Tryz.ntmps277
 go_wp2_with fail
 refine (check_any na ao ca A _ (hA.below (((Below.refl _ _).alloc (Nat.le_refl _) _).alloc (by simp) _)) la).mono ?_
 rintro e w1 ⟨rfl,hb1⟩
 have hb2:Below w.heap.size w w1:=(((Below.refl _ _).alloc (Nat.le_refl _) _).alloc (by simp) _).trans (hb1.mono (by simp;omega))
 have hc0:w1.cell? ⟨w.heap.size+1,0,none⟩ = some (.bool nb):=by rw [hb1.cell (p:=⟨w.heap.size+1,0,none⟩) (by simp)];simp [go_sem]
 have hc1:w1.cell? ⟨w.heap.size+1,1,none⟩ = some (.slice bo B.length cb):=by rw [hb1.cell (p:=⟨w.heap.size+1,1,none⟩) (by simp)];simp [go_sem]
 clear hb1
 cases hr:rightB na A
 ·have H0:=hide ((uH HE).1 hr)
  have hc:chkE na A = 1:=by simp [chkE,hr]
  rw [hc]
  clear hc hr HE
  go_wp2
  go_ret
  exact ⟨ret_int (uH H0).symm,hb2⟩
 ·have H0:=hide ((uH HE).2 hr)
  have hc:chkE na A = 0:=by simp [chkE,hr]
  rw [hc]
  clear hc hr HE
  go_wp2_with fail
  refine (check_any nb bo cb B _ (hB.below hb2) lb).mono ?_
  rintro e w2 ⟨rfl,hb3⟩
  go_wp2
  go_ret
  exact ⟨ret_int (uH H0).symm,hb2.trans (hb3.mono hb2.size)⟩
end Go.Proofs.YtlnphkioddknfaaGreatDoor
namespace Go.Proofs.YtlnphkioddknfaaGreatDoor
open Go.RowKit
def opErr (ok:Bool) (z:Int):Int:=if ok then errOf z else 1
def opNum (ok:Bool) (z:Int):Int:=if ok then numOf z else 0
theorem opErr_true (z:Int):opErr true z = errOf z:=by unfold opErr;rw [if_pos rfl]
theorem opNum_true (z:Int):opNum true z = numOf z:=by unfold opNum;rw [if_pos rfl]
theorem opErr_false (z:Int):opErr false z = 1:=by unfold opErr;rw [if_neg (by decide)]
theorem opNum_false (z:Int):opNum false z = 0:=by unfold opNum;rw [if_neg (by decide)]
theorem right_canon {neg:Bool} {L:List Nat} (h:rightB neg L = true):L.length≤512∧Canon L∧(neg = true→L ≠ []):=by
 simp only [rightB,Bool.and_eq_true,decide_eq_true_eq,Bool.not_eq_true',Bool.and_eq_false_iff,decide_eq_false_iff_not,Bool.or_eq_true] at h
 obtain ⟨⟨h1,h2⟩,h3⟩:=h
 refine ⟨h1,?_,?_⟩
 ·rcases h3 with h3 | h3
  ·exact .inl (List.length_eq_zero_iff.1 h3)
  ·exact .inr h3
 ·rintro hn rfl
  rcases h2 with h2 | h2
  ·simp at h2
  ·rw [hn] at h2;cases h2
theorem add_any (na nb:Bool) (ao bo:Option Addr) (ca cb:Nat) (A B:List Nat) (w:World) (hA:LimbsAt w ao ca A) (hB:LimbsAt w bo cb B) (la:A.length≤35184372088830) (lb:B.length≤35184372088830) :
  Calls Tryz.prog 285 #[.agg #[.bool na,.slice ao A.length ca],.agg #[.bool nb,.slice bo B.length cb]] w fun e w'=>∃ v,e = .returned (.tuple #[v,.int .i64 (opErr (rightB na A && rightB nb B) (sval na A+sval nb B))])∧IsNum w.heap.size w' v (opNum (rightB na A && rightB nb B) (sval na A+sval nb B))∧Below w.heap.size w w':=by
 have hC:(rightB na A && rightB nb B) = true→Canon A∧Canon B:=fun h=>by
  simp only [Bool.and_eq_true] at h;exact ⟨(right_canon h.1).2.1,(right_canon h.2).2.1⟩
 have HC:=hide hC
 have H2:=hide (show chk2 na A nb B = if (rightB na A && rightB nb B) then 0 else 1 from rfl)
 clear hC
 generalize hok:(rightB na A && rightB nb B) = ok at *
 clear hok
 go_enter Tryz.func285,Tryz.ntmps285
 go_wp2_with fail
 have hb0:Below w.heap.size w (((w.alloc (.cells #[.bool na,.slice ao A.length ca] 45)).alloc (.cells #[.bool nb,.slice bo B.length cb] 45)).alloc (.cells #[.bool false,.slice none 0 0] 45)) :=
  (((Below.refl _ _).alloc (Nat.le_refl _) _).alloc (by simp) _).alloc (by simp;omega) _
 refine (checkBoth_any na nb ao bo ca cb A B _ (hA.below hb0) (hB.below hb0) la lb).mono ?_
 rintro e w1 ⟨rfl,hb1⟩
 have hs1:w.heap.size+3≤w1.heap.size:=by have:=hb1.size;simpa using this
 have hb2:Below w.heap.size w w1:=hb0.trans (hb1.mono (by simp;omega))
 have p0:w1.cell? ⟨w.heap.size,0,none⟩ = some (.bool na):=by rw [hb1.cell (p:=⟨w.heap.size,0,none⟩) (by simp;omega)];simp [go_sem]
 have p1:w1.cell? ⟨w.heap.size,1,none⟩ = some (.slice ao A.length ca):=by rw [hb1.cell (p:=⟨w.heap.size,1,none⟩) (by simp;omega)];simp [go_sem]
 have q0:w1.cell? ⟨w.heap.size+1,0,none⟩ = some (.bool nb):=by rw [hb1.cell (p:=⟨w.heap.size+1,0,none⟩) (by simp)];simp [go_sem]
 have q1:w1.cell? ⟨w.heap.size+1,1,none⟩ = some (.slice bo B.length cb):=by rw [hb1.cell (p:=⟨w.heap.size+1,1,none⟩) (by simp)];simp [go_sem]
 have r2:Box2 w1 (w.heap.size+2) (.bool false) (.slice none 0 0):=by
  have:=Box2.new ((w.alloc (.cells #[.bool na,.slice ao A.length ca] 45)).alloc (.cells #[.bool nb,.slice bo B.length cb] 45)) (.bool false) (.slice none 0 0)
  exact Box2.below (by simpa using this) hb1 (by simp)
 rw [uH H2]
 clear hb1 H2 hb0
 cases ok
 ·simp only [Bool.false_eq_true,if_false]
  have y0:=r2.c0;have y1:=r2.c1;have f0:=r2.free 0;have f1:=r2.free 1
  go_wp2
  refine bodyPost_ret (v:=.tuple #[.agg #[.bool false,.slice none 0 0],.int .i64 1]) (by simp [results,Tryz.results285,go_sem,y0,y1]) rfl ⟨.agg #[.bool false,.slice none 0 0],by rw [opErr_false],by rw [opNum_false];exact IsNum.zero _ _ _ _,?_⟩
  exact (hb2.setCell (by simp;omega) _).setCell (by simp;omega) _
 ·obtain ⟨cA,cB⟩:=uH HC rfl
  have CA:=hide cA
  have CB:=hide cB
  clear cA cB
  simp only [if_true]
  go_wp2_with fail
  refine (addSigned_any na nb ao bo ca cb A B _ (hA.below hb2) (hB.below hb2) la lb (uH CA) (uH CB)).mono ?_
  rintro e w2 ⟨v,rfl,⟨n2,a2,c2,L2,rfl,i1⟩,hb3⟩
  have r3:=r2.below hb3 (by omega)
  have y0:=r3.c0;have y1:=r3.c1;have f0:=r3.free 0;have f1:=r3.free 1
  have I1:=hide i1
  have hb4:=hb2.trans (hb3.mono hb2.size)
  clear i1
  go_wp2
  refine bodyPost_ret (v:=.tuple #[.agg #[.bool n2,.slice a2 L2.length c2],.int .i64 (errOf (sval na A+sval nb B))]) (by simp [results,Tryz.results285,go_sem,y0,y1]) rfl ⟨.agg #[.bool n2,.slice a2 L2.length c2],by rw [opErr_true],?_,?_⟩
  ·rw [opNum_true];exact IsNum.stored (uH I1) (by simp;omega) (by simp;omega) (by omega) _ _
  ·exact (hb4.setCell (by simp;omega) _).setCell (by simp;omega) _
end Go.Proofs.YtlnphkioddknfaaGreatDoor
namespace Go.Proofs.YtlnphkioddknfaaGreatDoor
open Go.RowKit
set_option maxRecDepth 100000 in
theorem len32_any (x:Int) (w:World) (h0:0≤x) (h1:x≤4294967295) :
  Calls Tryz.prog 279 #[.int .u32 x] w fun e w'=>e = .returned (.int .i64 (Lib.bitLen x.toNat))∧w = w':=by
 rcases (show x < 256 ∨ (256≤x∧x < 65536) ∨ (65536≤x∧x < 16777216) ∨ 16777216≤x by omega) with h | ⟨ha,hb⟩ | ⟨ha,hb⟩ | h
 ·have hi:=fun w=>Lib.run_index_len8tab (P:=Tryz.prog) w 9 .u8 (x) Tryz.underlying9 (by omega) (by omega)
  have l1:=Lib.len8_eq ⟨(x).toNat,by omega⟩
  have l2:=Lib.bitLen_le8 ⟨(x).toNat,by omega⟩
  have hl0:0≤Lib.len8 (x):=by simp only [Int.toNat_of_nonneg (show 0≤x by omega)] at l1;rw [l1];omega
  have hl8:Lib.len8 (x)≤8:=by simp only [Int.toNat_of_nonneg (show 0≤x by omega)] at l1;rw [l1];simp only at l2;omega
  have HE:Hid (Lib.len8 (x) = (Lib.bitLen (x).toNat:Int)):=by unfold Hid;simp only [Int.toNat_of_nonneg (show 0≤x by omega)] at l1;exact l1
  clear l1 l2
  go_enter Tryz.func279,Tryz.ntmps279
  go_wp2
  go_ret
  refine ⟨ret_int ?_,rfl⟩
  rw [HE.out]
 ·have hi:=fun w=>Lib.run_index_len8tab (P:=Tryz.prog) w 9 .u8 (x / 256) Tryz.underlying9 (by omega) (by omega)
  have l1:=Lib.len8_eq ⟨(x / 256).toNat,by omega⟩
  have l2:=Lib.bitLen_le8 ⟨(x / 256).toNat,by omega⟩
  have hl0:0≤Lib.len8 (x / 256):=by simp only [Int.toNat_of_nonneg (show 0≤x / 256 by omega)] at l1;rw [l1];omega
  have hl8:Lib.len8 (x / 256)≤8:=by simp only [Int.toNat_of_nonneg (show 0≤x / 256 by omega)] at l1;rw [l1];simp only at l2;omega
  have HE:Hid (Lib.len8 (x / 256) = (Lib.bitLen (x / 256).toNat:Int)):=by unfold Hid;simp only [Int.toNat_of_nonneg (show 0≤x / 256 by omega)] at l1;exact l1
  clear l1 l2
  go_enter Tryz.func279,Tryz.ntmps279
  go_wp2
  go_ret
  refine ⟨ret_int ?_,rfl⟩
  rw [HE.out]
  have s:=Lib.bitLen_shift8 x.toNat (by omega) (by omega)
  rw [show (x / 256).toNat = x.toNat / 256 by omega]
  omega
 ·have hi:=fun w=>Lib.run_index_len8tab (P:=Tryz.prog) w 9 .u8 (x / 65536) Tryz.underlying9 (by omega) (by omega)
  have l1:=Lib.len8_eq ⟨(x / 65536).toNat,by omega⟩
  have l2:=Lib.bitLen_le8 ⟨(x / 65536).toNat,by omega⟩
  have hl0:0≤Lib.len8 (x / 65536):=by simp only [Int.toNat_of_nonneg (show 0≤x / 65536 by omega)] at l1;rw [l1];omega
  have hl8:Lib.len8 (x / 65536)≤8:=by simp only [Int.toNat_of_nonneg (show 0≤x / 65536 by omega)] at l1;rw [l1];simp only at l2;omega
  have HE:Hid (Lib.len8 (x / 65536) = (Lib.bitLen (x / 65536).toNat:Int)):=by unfold Hid;simp only [Int.toNat_of_nonneg (show 0≤x / 65536 by omega)] at l1;exact l1
  clear l1 l2
  go_enter Tryz.func279,Tryz.ntmps279
  go_wp2
  go_ret
  refine ⟨ret_int ?_,rfl⟩
  rw [HE.out]
  have s:=Lib.bitLen_shift16 x.toNat (by omega) (by omega)
  rw [show (x / 65536).toNat = x.toNat / 65536 by omega]
  omega
 ·have hi:=fun w=>Lib.run_index_len8tab (P:=Tryz.prog) w 9 .u8 (x / 65536 / 256) Tryz.underlying9 (by omega) (by omega)
  have l1:=Lib.len8_eq ⟨(x / 65536 / 256).toNat,by omega⟩
  have l2:=Lib.bitLen_le8 ⟨(x / 65536 / 256).toNat,by omega⟩
  have hl0:0≤Lib.len8 (x / 65536 / 256):=by simp only [Int.toNat_of_nonneg (show 0≤x / 65536 / 256 by omega)] at l1;rw [l1];omega
  have hl8:Lib.len8 (x / 65536 / 256)≤8:=by simp only [Int.toNat_of_nonneg (show 0≤x / 65536 / 256 by omega)] at l1;rw [l1];simp only at l2;omega
  have HE:Hid (Lib.len8 (x / 65536 / 256) = (Lib.bitLen (x / 65536 / 256).toNat:Int)):=by unfold Hid;simp only [Int.toNat_of_nonneg (show 0≤x / 65536 / 256 by omega)] at l1;exact l1
  clear l1 l2
  go_enter Tryz.func279,Tryz.ntmps279
  go_wp2
  go_ret
  refine ⟨ret_int ?_,rfl⟩
  rw [HE.out]
  have s:=Lib.bitLen_shift24 x.toNat (by omega) (by omega)
  rw [show (x / 65536 / 256).toNat = x.toNat / 16777216 by omega]
  omega
end Go.Proofs.YtlnphkioddknfaaGreatDoor
namespace Go.Proofs.YtlnphkioddknfaaGreatDoor
open Go.RowKit
theorem bitLen_fuel:∀ (f x:Nat),x < 2 ^ f→Lib.bitLenAux (f+1) x = Lib.bitLenAux f x
 | 0,x,h=>by simp at h;subst h;rfl
 | f+1,x,h=>by
  have ih:=bitLen_fuel f (x / 2) (by rw [Nat.pow_succ] at h;omega)
  have e1:Lib.bitLenAux (f+1+1) x = if x = 0 then 0 else 1+Lib.bitLenAux (f+1) (x / 2):=rfl
  have e2:Lib.bitLenAux (f+1) x = if x = 0 then 0 else 1+Lib.bitLenAux f (x / 2):=rfl
  rw [e1,e2,ih]
theorem bitLen_half (t:Nat) (h0:0 < t) (h:t < 4294967296):Lib.bitLen t = 1+Lib.bitLen (t / 2):=by
 have e1:Lib.bitLen t = 1+Lib.bitLenAux 63 (t / 2):=by
  unfold Lib.bitLen
  rw [Lib.bitLenAux,if_neg (by omega)]
 rw [e1]
 unfold Lib.bitLen
 rw [← bitLen_fuel 63 (t / 2) (by omega)]
theorem bitLen_le (t:Nat):Lib.bitLen t≤64:=by
 have:∀ f x,Lib.bitLenAux f x≤f:=by
  intro f
  induction f with
  | zero=>intro x;simp [Lib.bitLenAux]
  | succ f ih=>intro x;rw [Lib.bitLenAux];split;omega;have:=ih (x / 2);omega
 exact this 64 t
def lenL (L:List Nat):Int:=if L.length = 0 then 0 else 32 * ((L.length:Int) - 1)+(Lib.bitLen (L[L.length - 1]?.getD 0):Int)
theorem len_any (neg:Bool) (ao:Option Addr) (cap:Nat) (L:List Nat) (w:World) (h:LimbsAt w ao cap L) (hl:L.length≤35184372088830) :
  Calls Tryz.prog 266 #[.agg #[.bool neg,.slice ao L.length cap]] w fun e w'=>e = .returned (.int .i64 (lenL L))∧Below w.heap.size w w':=by
 by_cases h0:L = []
 ·subst h0
  go_enter Tryz.func266,Tryz.ntmps266
  go_wp2
  go_ret
  exact ⟨ret_int (by simp [lenL]),(Below.refl _ _).alloc (Nat.le_refl _) _⟩
 obtain ⟨b,off,rfl,hb,hc⟩:=h.ne (List.length_pos_iff.2 h0)
 have hp:0 < L.length:=List.length_pos_iff.2 h0
 have hc1:=hc (L.length - 1) (by omega)
 have hx:=h.lt (L.length - 1)
 have HE:Hid (lenL L = 32 * ((L.length:Int) - 1)+(Lib.bitLen (L[L.length - 1]?.getD 0):Int)):=by unfold Hid lenL;rw [if_neg (by omega)]
 generalize lenL L = r at *
 generalize hn:L.length = n at *
 generalize L[n - 1]?.getD 0 = x at *
 clear hn h hc h0
 have hbx:=bitLen_le x
 have hne:((n:Int) == 0) = false:=by simp;omega
 go_enter Tryz.func266,Tryz.ntmps266
 go_wp2_with (go_at_call 279;refine (len32_any _ _ (by omega) (by omega)).mono ?_;rw [Int.toNat_natCast];rintro e w' ⟨rfl,rfl⟩)
 go_ret
 exact ⟨ret_int (by rw [HE.out];omega),(Below.refl _ _).alloc (Nat.le_refl _) _⟩
theorem ret_int2 {k k':IntKind} {a b c d:Int} (h:a = b) (h':c = d):Ending.returned (.tuple #[.int k a,.int k' c]) = .returned (.tuple #[.int k b,.int k' d]):=by rw [h,h']
end Go.Proofs.YtlnphkioddknfaaGreatDoor
namespace Go.Proofs.YtlnphkioddknfaaGreatDoor
open Go.RowKit
theorem wrap_wide (x p:Nat) (bx:x < 4294967296) (hp:p≤31):IntKind.u64.wrap ((x:Int) * 2 ^ p) = ((x * 2 ^ p:Nat):Int):=by
 have h:=wide_lt x p bx hp
 have e:(x:Int) * 2 ^ p = ((x * 2 ^ p:Nat):Int):=by simp
 rw [e]
 clear e
 generalize x * 2 ^ p = z at *
 simp only [IntKind.wrap,IntKind.signed,IntKind.bits]
 simp
 omega
theorem up_vals (x p s:Nat) (bx:x < 4294967296) (hp:p≤31) (hs:s < 2 ^ p) :
  bits BinOp.or IntKind.u32 (s:Int) (IntKind.u64.wrap ((x:Int) * 2 ^ p) % 4294967296) = ((s+(x * 2 ^ p) % 4294967296:Nat):Int)∧IntKind.u64.wrap ((x:Int) * 2 ^ p) / 4294967296 % 4294967296 = (((x * 2 ^ p) / 4294967296:Nat):Int)∧s+(x * 2 ^ p) % 4294967296 < 4294967296:=by
 have h:=wide_lt x p bx hp
 have hs2:s < 4294967296:=Nat.lt_of_lt_of_le hs (by have:=Nat.pow_le_pow_right (n:=2) (by decide) (show p≤32 by omega);simpa using this)
 have e:=or_disj s ((x * 2 ^ p) % 4294967296) p hs (wide_low x p (by omega))
 have e2:s ||| (x * 2 ^ p) % 4294967296 < 2 ^ 32:=Nat.or_lt_two_pow (by omega) (by omega)
 rw [wrap_wide x p bx hp]
 generalize x * 2 ^ p = z at *
 have e3:((z:Nat):Int) % 4294967296 = ((z % 4294967296:Nat):Int):=by omega
 rw [e3,u32_or_nat s (z % 4294967296) hs2 (by omega),e]
 refine ⟨rfl,by omega,by omega⟩
theorem shiftUp_any (ao:Option Addr) (ca:Nat) (A:List Nat) (l p:Nat) (m:Int) (w:World) (hA:LimbsAt w ao ca A) (la:A.length≤1073741824) (hm:m = 32 * (l:Int)+(p:Int)) (hp:p≤31) (hl:l≤1073741824) :
  Calls Tryz.prog 271 #[.slice ao A.length ca,.int .i64 m] w fun e w'=>∃ ao' cap' L',e = .returned (.slice ao' L'.length cap')∧LimbsAt w' ao' cap' L'∧NewAt w.heap.size ao' L'∧L'.length = A.length+l+1∧val L' = 4294967296 ^ l * 2 ^ p * val A∧Below w.heap.size w w':=by
 obtain ⟨i0,hi,hz0,hz1,hz2⟩:=info_parts Tryz.info133
 have hd:m / 32 = (l:Int):=by omega
 have hr:m % 32 = (p:Int):=by omega
 have hm0:0≤m:=by omega
 have hm1:m≤68719476735:=by omega
 clear hm
 go_enter Tryz.func271,Tryz.ntmps271
 go_wp2_with (at_make;refine wpList_make_full _ rfl _ _ 43 rfl w.heap.size 133 i0 (.int .u32 0) 1 Tryz.underlying43 hi hz0 hz1 .i64 .i64 _ _ (A.length+l+1) rfl rfl (by omega) (by omega) (by rw [hz2];omega) (by unfold maxLen;omega) (Nat.le_refl _) ?_;intro w1 hown hgrow)
 have hrow:=RowAt.made hown
 have hb1:Below w.heap.size w w1:=(Below.refl _ _).grown hgrow (Nat.le_refl _) (fun k h=>by simp at h)
 clear hown hgrow
 go_wp2
 go_loopw [22] (fun c wr=>∃ (i:Nat) (S:List Nat),i≤A.length∧c = .int .i64 i∧RowAt wr w.heap.size S∧S.length = A.length+l+1∧Fits S∧Below w.heap.size w wr∧Hid (val S = 4294967296 ^ l * 2 ^ p * val (A.take i))∧Hid (S[i+l]?.getD 0 < 2 ^ p)∧Hid (∀ j,i+l < j→S[j]?.getD 0 = 0))
  (fun c _=>A.length - (intOf c).toNat)
 case atStart =>
  refine ⟨0,List.replicate (A.length+l+1) 0,Nat.zero_le _,rfl,hrow,by simp,Fits.zeros _,hb1,?_,?_,?_⟩
  ·unfold Hid
   have:∀ k,val (List.replicate k 0) = 0:=by intro k;induction k with | zero=>rfl | succ k ih=>simp [List.replicate_succ,val,ih]
   rw [this];simp [val]
  ·unfold Hid
   have:(List.replicate (A.length+l+1) 0)[0+l]?.getD 0 = 0:=by rw [List.getElem?_replicate];split <;> rfl
   rw [this];exact Nat.pow_pos (by decide)
  ·intro j _
   rw [List.getElem?_replicate];split <;> rfl
 case round =>
  obtain ⟨i,S,hi1,rfl,hr',hsl,hf,hbel,hv,hlow,hzr⟩:=hrel
  by_cases hlt:i < A.length
  ·obtain ⟨x,hx⟩:∃ x,A[i]?.getD 0 = x:=⟨_,rfl⟩
   have bx:x < 4294967296:=by rw [← hx];exact hA.lt i
   obtain ⟨s,hs⟩:∃ s,S[i+l]?.getD 0 = s:=⟨_,rfl⟩
   obtain ⟨b1,o1,hao,hb1',hc1⟩:=hA.ne (by omega)
   have ca1:=hc1 i hlt
   rw [hx] at ca1
   have dA:wr.cell? ⟨b1,o1+i,none⟩ = some (.int .u32 (x:Int)):=by rw [hbel.cell (p:=⟨b1,o1+i,none⟩) hb1'];exact ca1
   have dS:=hr'.cell (i+l) (by omega)
   rw [hs] at dS
   have dT:=hr'.cell (i+l+1) (by omega)
   rw [hzr.out _ (by omega)] at dT
   have hsp:s < 2 ^ p:=by rw [← hs];exact hlow.out
   obtain ⟨u1,u2,u3⟩:=up_vals x p s bx hp hsp
   have hst:=up_step A S i l p x s (by omega) hx hs (hzr.out _ (by omega)) hv.out
   have hhi:=wide_high x p bx hp
   have hlow2:((S.set (i+l) (s+(x * 2 ^ p) % 4294967296)).set (i+l+1) ((x * 2 ^ p) / 4294967296))[i+1+l]?.getD 0 < 2 ^ p:=by
    rw [show i+1+l = i+l+1 by omega,List.getElem?_set_self (by simp;omega)];exact hhi
   have hzr2:∀ j,i+1+l < j→((S.set (i+l) (s+(x * 2 ^ p) % 4294967296)).set (i+l+1) ((x * 2 ^ p) / 4294967296))[j]?.getD 0 = 0:=fun j hj=>by
    rw [getD_set_ne _ _ _ _ (by omega),getD_set_ne _ _ _ _ (by omega)];exact hzr.out j (by omega)
   have hhi2:(x * 2 ^ p) / 4294967296 < 4294967296:=by have:=wide_lt x p bx hp;omega
   have U1:=hide u1;have U2:=hide u2;have U3:=hide u3;have HST:=hide hst;have HLO:=hide hlow2;have HZ2:=hide hzr2;have HH:=hide hhi2
   have fS:=hr'.free (i+l)
   have fT:=hr'.free (i+l+1)
   have HR:=hide hr'
   clear u1 u2 u3 hst hlow2 hzr2 hhi hhi2 hsp hx hs hr' hv hlow hzr hc1 ca1
   subst hao
   have hltI:(i:Int) < (A.length:Int):=by omega
   go_wp2
   have r1:=((uH HR).set (i+l) (s+(x * 2 ^ p) % 4294967296)).set (i+l+1) ((x * 2 ^ p) / 4294967296)
   rw [← uH U1,← uH U2] at r1
   go_roundw
   case rel=>exact ⟨i+1,_,by omega,by go_num,r1,by simpa using hsl,(hf.set _ _ (uH U3)).set _ _ (uH HH),(hbel.setCell (by simp) _).setCell (by simp) _,uH HST,uH HLO,uH HZ2⟩
   case measure=>simp [intOf];omega
  ·have hii:i = A.length:=by omega
   have hv':=hv.out
   rw [hii,List.take_length] at hv'
   have HV:=hide hv'
   have HR:=hide hr'
   clear hv' hv hzr hr' hii hlow
   go_wp2
   go_ret
   exact ⟨some ⟨w.heap.size,0,none⟩,A.length+l+1,S,by rw [hsl];rfl,(uH HR).limbs hf _ (by omega),.inr ⟨_,_,rfl,Nat.le_refl _⟩,hsl,uH HV,hbel⟩
end Go.Proofs.YtlnphkioddknfaaGreatDoor
