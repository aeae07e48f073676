/- Part 22 of the texts. -/
import Derived.Test.YtfkndkaneffgdaaGreatDoorPartD21
import Derived.Test.YtfkndkaneffgdaaGreatDoorPartD20
import Derived.Test.YtfkndkaneffgdaaGreatDoorPartD17
import Derived.Test.YtfkndkaneffgdaaGreatDoorPartD19
import Derived.Test.YtfkndkaneffgdaaGreatDoorPartD18
import Derived.Test.YtfkndkaneffgdaaGreatDoorPartD04
import Derived.Test.YtfkndkaneffgdaaGreatDoorPartD01
import Derived.Deep.OwnRows
import Derived.Deep.RegionHeld3
namespace Go.Proofs.YtfkndkaneffgdaaGreatDoor
open Go.RowKit
def sqV (k:Int) (s x:Nat):Nat:=aV s (mV (xV x (-k)) (xV x (-k)))
end Go.Proofs.YtfkndkaneffgdaaGreatDoor
namespace Go.Proofs.YtfkndkaneffgdaaGreatDoor
open Go.RowKit
def ssV (k:Int):Nat→List Nat→Nat
 | s,[]=>s
 | s,x :: xs=>ssV k (sqV k s x) xs
def mx (a b:Nat):Nat:=if fK a = 4 ∨ fK b = 4 then 9221120237041090560 else if fZ a < fZ b then b else a
def bgF:Nat→List Nat→Nat
 | m,[]=>m
 | m,x :: xs=>bgF (mx m (fR x)) xs
theorem mag_fZ (r:Nat) (h:r < 9223372036854775808):fZ r = (rv r:Int)∧fR r = r∧fS r = false:=by
 have h1:fR r = r:=by unfold fR;omega
 have h2:fS r = false:=decide_eq_false (by omega)
 refine ⟨?_,h1,h2⟩
 unfold fZ pv
 rw [h1,h2]
 rfl
theorem mx_mag (m r:Nat) (hm:m < 9218868437227405312) (hr:r < 9218868437227405312):mx m r = max m r:=by
 obtain ⟨a1,a2,a3⟩:=mag_fZ m (by omega)
 obtain ⟨b1,b2,b3⟩:=mag_fZ r (by omega)
 have k1:=(fin_kind ((fK_rungs m).2.2.2 (by rw [a2];exact hm))).2
 have k2:=(fin_kind ((fK_rungs r).2.2.2 (by rw [b2];exact hr))).2
 unfold mx
 rw [if_neg (by omega),a1,b1]
 rcases Nat.lt_or_ge m r with h | h
 ·have:=rv8_lt h
  rw [if_pos (by omega)]
  omega
 ·have:=rv_mono h
  rw [if_neg (by omega)]
  omega
theorem bgF_fin:∀ (xs:List Nat) (m:Nat),m < 9218868437227405312→(∀ x ∈ xs,fFin x = true) →
  bgF m xs < 9218868437227405312∧m≤bgF m xs∧(∀ x ∈ xs,fR x≤bgF m xs)∧(bgF m xs = m ∨ ∃ x ∈ xs,fR x = bgF m xs):=by
 intro xs
 induction xs with
 | nil=>intro m hm _;exact ⟨hm,Nat.le_refl _,(fun x hx=>(by cases hx)),Or.inl rfl⟩
 | cons x xs ih =>
  intro m hm hx
  have hr:=fR_fin x (hx x List.mem_cons_self)
  have e:bgF m (x :: xs) = bgF (max m (fR x)) xs:=by
   show bgF (mx m (fR x)) xs = _
   rw [mx_mag m _ hm hr]
  obtain ⟨i1,i2,i3,i4⟩:=ih (max m (fR x)) (by omega) (fun y hy=>hx y (List.mem_cons_of_mem _ hy))
  rw [e]
  refine ⟨i1,by omega,?_,?_⟩
  ·intro y hy
   rcases List.mem_cons.1 hy with rfl | hy
   ·omega
   ·exact i3 y hy
  ·rcases i4 with i4 | ⟨y,hy,i4⟩
   ·rcases Nat.lt_or_ge m (fR x) with h | h
    ·exact .inr ⟨x,List.mem_cons_self,by omega⟩
    ·exact .inl (by omega)
   ·exact .inr ⟨y,List.mem_cons_of_mem _ hy,i4⟩
def nrV (xs:List Nat):Nat:=if bgF 0 xs = 0 ∨ fFin (bgF 0 xs) = false then bgF 0 xs else xV (sV (ssV (eX (bgF 0 xs)) 0 xs)) (eX (bgF 0 xs))
end Go.Proofs.YtfkndkaneffgdaaGreatDoor
namespace Go.Proofs.YtfkndkaneffgdaaGreatDoor
open Go.RowKit
set_option maxRecDepth 20000 in
set_option maxHeartbeats 2000000 in
theorem vadd_any (a b:Nat) (w:World) (ha:a < 18446744073709551616) (hb:b < 18446744073709551616) (hT:Tab w) :
  Calls Tryz.prog 111 #[.int .u64 a,.int .u64 b] w fun r w'=>r = .returned (.int .u64 (aV a b:Nat))∧Below w.heap.size w w':=by
 have K:=hide (sadd_any a b w ha hb hT)
 clear ha hb hT
 generalize aV a b = o at *
 generalize aF a b = f at *
 go_enter Tryz.func111,Tryz.ntmps111
 go_wp2_with fail
 refine Calls.mono (uH K) ?_
 rintro e w1 ⟨rfl,hb1⟩
 clear K
 go_wp2
 go_ret
 exact ⟨rfl,hb1⟩
set_option maxRecDepth 20000 in
set_option maxHeartbeats 2000000 in
theorem vmul_any (a b:Nat) (w:World) (ha:a < 18446744073709551616) (hb:b < 18446744073709551616) (hT:Tab w) :
  Calls Tryz.prog 112 #[.int .u64 a,.int .u64 b] w fun r w'=>r = .returned (.int .u64 (mV a b:Nat))∧Below w.heap.size w w':=by
 have K:=hide (tmul_any a b w ha hb hT)
 clear ha hb hT
 generalize mV a b = o at *
 generalize mF a b = f at *
 go_enter Tryz.func112,Tryz.ntmps112
 go_wp2_with fail
 refine Calls.mono (uH K) ?_
 rintro e w1 ⟨rfl,hb1⟩
 clear K
 go_wp2
 go_ret
 exact ⟨rfl,hb1⟩
set_option maxRecDepth 20000 in
set_option maxHeartbeats 2000000 in
theorem vscale_any (a:Nat) (n:Int) (w:World) (ha:a < 18446744073709551616) (hT:Tab w) :
  Calls Tryz.prog 134 #[.int .u64 a,.int .i64 n] w fun r w'=>r = .returned (.int .u64 (xV a n:Nat))∧Below w.heap.size w w':=by
 have K:=hide (cscale_any a n w ha hT)
 clear ha hT
 generalize xV a n = o at *
 generalize xF a n = f at *
 go_enter Tryz.func134,Tryz.ntmps134
 go_wp2_with fail
 refine Calls.mono (uH K) ?_
 rintro e w1 ⟨rfl,hb1⟩
 clear K
 go_wp2
 go_ret
 exact ⟨rfl,hb1⟩
set_option maxRecDepth 20000 in
set_option maxHeartbeats 2000000 in
theorem vfit_any (ao bo:Option Addr) (n m c d:Nat) (w:World) :
  Calls Tryz.prog 87 #[.slice ao n c,.slice bo m d] w fun r w'=>r = .returned (.bool (decide (n≤64∧n = m)))∧w = w':=by
 by_cases h1:n≤64
 ·have h1I:(n:Int)≤64:=by omega
  by_cases h2:n = m
  ·rw [decide_eq_true (And.intro h1 h2)]
   subst h2
   go_enter Tryz.func87,Tryz.ntmps87
   go_wp2
   go_ret
   exact ⟨rfl,rfl⟩
  ·rw [decide_eq_false (fun h=>h2 h.2)]
   have h2I:decide ((n:Int) = (m:Int)) = false:=decide_eq_false (by omega)
   go_enter Tryz.func87,Tryz.ntmps87
   go_wp2
   go_ret
   exact ⟨by simp;omega,rfl⟩
 ·rw [decide_eq_false (fun h=>h1 h.1)]
  have h1I:(64:Int) < (n:Int):=by omega
  go_enter Tryz.func87,Tryz.ntmps87
  go_wp2
  go_ret
  exact ⟨by simp,rfl⟩
set_option maxRecDepth 20000 in
set_option maxHeartbeats 2000000 in
theorem f9_any (b:Nat) (w:World) (_h:b < 18446744073709551616) :
  Calls Tryz.prog 85 #[.int .u64 b] w fun r w'=>r = .returned (.float .f64 b)∧w = w':=by
 have hF:=fun W=>frombits5 b W
 have hw:IntKind.u64.wrap (b:Int) = (b:Int):=by simp only [IntKind.wrap_u64];omega
 go_enter Tryz.func85,Tryz.ntmps85
 go_wp2
 go_ret
 exact ⟨rfl,rfl⟩
theorem b9_of (R v:Nat) (w:World) (C:∀ w',Calls Tryz.prog 107 #[.int .u64 (R:Nat)] w' fun r w''=>r = .returned (.int .u64 (v:Nat))∧w' = w'') :
  Calls Tryz.prog 84 #[.float .f64 R] w fun r w'=>r = .returned (.int .u64 (v:Nat))∧w = w':=by
 have K:=hide C
 have hB:=fun R W=>tobits5 R W
 clear C
 go_enter Tryz.func84,Tryz.ntmps84
 go_wp2_with fail
 refine (uH K _).mono ?_
 rintro e w2 ⟨rfl,rfl⟩
 clear K
 go_wp2
 go_ret
 exact ⟨rfl,rfl⟩
set_option maxRecDepth 20000 in
set_option maxHeartbeats 4000000 in
theorem r9add_of (a b v:Nat) (o:Option Nat) (w:World)
  (hA:∀ i w',(binOp .add i (.float .f64 a) (.float .f64 b)).run Tryz.prog w' = .ok (.float .f64 (fres o a b w')) (fwld o w'))
  (F1:∀ w',Calls Tryz.prog 85 #[.int .u64 a] w' fun r w''=>r = .returned (.float .f64 a)∧w' = w'')
  (F2:∀ w',Calls Tryz.prog 85 #[.int .u64 b] w' fun r w''=>r = .returned (.float .f64 b)∧w' = w'')
  (N1:∀ u w',Calls Tryz.prog 84 #[.float .f64 (fres o a b u)] w' fun r w''=>r = .returned (.int .u64 v)∧w' = w'') :
  Calls Tryz.prog 66 #[.int .u64 a,.int .u64 b] w fun r w'=>r = .returned (.int .u64 (v:Nat))∧Below w.heap.size w w':=by
 have L1:=hide F1;have L2:=hide F2;have M1:=hide N1
 have B:=hide (below_fwld o w)
 clear F1 F2 N1
 go_enter Tryz.func66,Tryz.ntmps66
 go_wp2_with fail
 refine (uH L1 _).mono ?_
 rintro e w2 ⟨rfl,rfl⟩
 go_wp2_with fail
 refine (uH L2 _).mono ?_
 rintro e w2 ⟨rfl,rfl⟩
 go_wp2_with fail
 refine (uH M1 _ _).mono ?_
 rintro e w2 ⟨rfl,rfl⟩
 clear L1 L2 M1
 go_wp2
 go_ret
 exact ⟨rfl,uH B⟩
theorem r9add_any (a b:Nat) (w:World) (ha:a < 18446744073709551616) (hb:b < 18446744073709551616) :
  Calls Tryz.prog 66 #[.int .u64 a,.int .u64 b] w fun r w'=>r = .returned (.int .u64 (aV a b:Nat))∧Below w.heap.size w w' :=
 r9add_of a b (aV a b) (Ieee.double.add a b) w (fun i w'=>fadd_run i a b w') (fun w'=>f9_any a w' ha) (fun w'=>f9_any b w' hb) (fun u w'=>b9_of _ _ w' (fun w''=>canon_add a b u w'' ha hb))
set_option maxRecDepth 20000 in
set_option maxHeartbeats 4000000 in
theorem r9mul_of (a b v:Nat) (o:Option Nat) (w:World)
  (hA:∀ i w',(binOp .mul i (.float .f64 a) (.float .f64 b)).run Tryz.prog w' = .ok (.float .f64 (fres o a b w')) (fwld o w'))
  (F1:∀ w',Calls Tryz.prog 85 #[.int .u64 a] w' fun r w''=>r = .returned (.float .f64 a)∧w' = w'')
  (F2:∀ w',Calls Tryz.prog 85 #[.int .u64 b] w' fun r w''=>r = .returned (.float .f64 b)∧w' = w'')
  (N1:∀ u w',Calls Tryz.prog 84 #[.float .f64 (fres o a b u)] w' fun r w''=>r = .returned (.int .u64 v)∧w' = w'') :
  Calls Tryz.prog 56 #[.int .u64 a,.int .u64 b] w fun r w'=>r = .returned (.int .u64 (v:Nat))∧Below w.heap.size w w':=by
 have L1:=hide F1;have L2:=hide F2;have M1:=hide N1
 have B:=hide (below_fwld o w)
 clear F1 F2 N1
 go_enter Tryz.func56,Tryz.ntmps56
 go_wp2_with fail
 refine (uH L1 _).mono ?_
 rintro e w2 ⟨rfl,rfl⟩
 go_wp2_with fail
 refine (uH L2 _).mono ?_
 rintro e w2 ⟨rfl,rfl⟩
 go_wp2_with fail
 refine (uH M1 _ _).mono ?_
 rintro e w2 ⟨rfl,rfl⟩
 clear L1 L2 M1
 go_wp2
 go_ret
 exact ⟨rfl,uH B⟩
theorem r9mul_any (a b:Nat) (w:World) (ha:a < 18446744073709551616) (hb:b < 18446744073709551616) :
  Calls Tryz.prog 56 #[.int .u64 a,.int .u64 b] w fun r w'=>r = .returned (.int .u64 (mV a b:Nat))∧Below w.heap.size w w' :=
 r9mul_of a b (mV a b) (Ieee.double.mul a b) w (fun i w'=>fmul_run i a b w') (fun w'=>f9_any a w' ha) (fun w'=>f9_any b w' hb) (fun u w'=>b9_of _ _ w' (fun w''=>canon_mul a b u w'' ha hb))
end Go.Proofs.YtfkndkaneffgdaaGreatDoor
namespace Go.Proofs.YtfkndkaneffgdaaGreatDoor
open Go.RowKit
set_option maxRecDepth 20000 in
set_option maxHeartbeats 4000000 in
theorem gatherB_any (fn:Nat) (caps:Array Value) (n:Nat) (f:Nat→Nat) (w:World)
  (hcf:∀ args w,(callFunc fn args).run Tryz.prog w = .ok (.enter fn args) w) (hn:n≤35184372088830)
  (hstep:∀ w' k,Below w.heap.size w w'→k < n→Calls Tryz.prog fn (#[.int .u64 (f k:Nat),.int .i64 (k:Nat)] ++ caps) w' fun e w''=>e = .returned (.int .u64 (f (k+1):Nat))∧Below w'.heap.size w' w'') :
  Calls Tryz.prog 90 #[.int .i64 n,.int .u64 (f 0:Nat),.func (.func fn) #[] caps] w fun e w'=>e = .returned (.int .u64 (f n:Nat))∧Below w.heap.size w w':=by
 have HS:=hide hstep
 clear hstep
 go_enter Tryz.func90,Tryz.ntmps90
 go_wp2_with fail
 go_loopw [7,11] (fun t i wr=>∃ k:Nat,k≤n∧i = .int .i64 k∧t = .int .u64 (f k:Nat)∧Hid (Below w.heap.size w wr)) (fun _ i _=>n - (intOf i).toNat)
 case atStart=>exact ⟨0,Nat.zero_le _,rfl,rfl,Below.refl _ _⟩
 case round =>
  obtain ⟨k,hk,rfl,rfl,hB⟩:=hrel
  by_cases hlt:k < n
  ·have hkI:(k:Int) < (n:Int):=by omega
   have C:=hide (fun w' h=>uH HS w' k h hlt)
   obtain ⟨o,eo⟩:∃ o,f (k+1) = o:=⟨_,rfl⟩
   rw [eo] at C
   have eV:=hide eo
   clear eo
   go_wp2_with fail
   refine (uH C _ hB.out).mono ?_
   rintro e w2 ⟨rfl,hb2⟩
   have B2:Hid (Below w.heap.size w w2):=hB.out.trans (hb2.mono hB.out.size)
   clear hb2 C
   go_wp2_with fail
   go_round
   case rel=>exact ⟨k+1,by omega,by go_num,by rw [uH eV],B2⟩
   case measure=>simp [intOf];omega
  ·have hkk:k = n:=by omega
   subst hkk
   go_wp2_with fail
   exact bodyPost_ret (v:=.int .u64 (f k:Nat)) (by simp [results,Tryz.results90,go_sem]) rfl ⟨rfl,hB.out⟩
set_option maxRecDepth 20000 in
set_option maxHeartbeats 4000000 in
theorem gatherb_any (fn:Nat) (caps:Array Value) (n:Nat) (f:Nat→Bool) (w:World)
  (hcf:∀ args w,(callFunc fn args).run Tryz.prog w = .ok (.enter fn args) w) (hn:n≤35184372088830)
  (hstep:∀ w' k,Below w.heap.size w w'→k < n→Calls Tryz.prog fn (#[.bool (f k),.int .i64 (k:Nat)] ++ caps) w' fun e w''=>e = .returned (.bool (f (k+1)))∧Below w'.heap.size w' w'') :
  Calls Tryz.prog 46 #[.int .i64 n,.bool (f 0),.func (.func fn) #[] caps] w fun e w'=>e = .returned (.bool (f n))∧Below w.heap.size w w':=by
 have HS:=hide hstep
 clear hstep
 go_enter Tryz.func46,Tryz.ntmps46
 go_wp2_with fail
 go_loopw [7,11] (fun t i wr=>∃ k:Nat,k≤n∧i = .int .i64 k∧t = .bool (f k)∧Hid (Below w.heap.size w wr)) (fun _ i _=>n - (intOf i).toNat)
 case atStart=>exact ⟨0,Nat.zero_le _,rfl,rfl,Below.refl _ _⟩
 case round =>
  obtain ⟨k,hk,rfl,rfl,hB⟩:=hrel
  by_cases hlt:k < n
  ·have hkI:(k:Int) < (n:Int):=by omega
   have C:=hide (fun w' h=>uH HS w' k h hlt)
   obtain ⟨o,eo⟩:∃ o,f (k+1) = o:=⟨_,rfl⟩
   rw [eo] at C
   have eV:=hide eo
   clear eo
   go_wp2_with fail
   refine (uH C _ hB.out).mono ?_
   rintro e w2 ⟨rfl,hb2⟩
   have B2:Hid (Below w.heap.size w w2):=hB.out.trans (hb2.mono hB.out.size)
   clear hb2 C
   go_wp2_with fail
   go_round
   case rel=>exact ⟨k+1,by omega,by go_num,by rw [uH eV],B2⟩
   case measure=>simp [intOf];omega
  ·have hkk:k = n:=by omega
   subst hkk
   go_wp2_with fail
   exact bodyPost_ret (v:=.bool (f k)) (by simp [results,Tryz.results46,go_sem]) rfl ⟨rfl,hB.out⟩
def bitV (x:Nat):Value:=.int .u64 (x:Int)
def RowB (w:World) (g:Nat) (S:List Nat):Prop:=w.heap[g]? = some (.cells (S.map bitV).toArray 30 (0,0))
theorem RowB.cell {w:World} {g:Nat} {S:List Nat} (h:RowB w g S) (j:Nat) (hj:j < S.length):w.cell? ⟨g,j,none⟩ = some (.int .u64 ((S[j]?.getD 0:Nat):Int)):=by
 rw [cell_of_row w g j _ _ _ h]
 simp [bitV,hj]
theorem RowB.free {w:World} {g:Nat} {S:List Nat} (h:RowB w g S) (j:Nat):w.frozen? ⟨g,j,none⟩ = false:=frozen_of_row w g j _ _ h
theorem RowB.set {w:World} {g:Nat} {S:List Nat} (h:RowB w g S) (j x:Nat):RowB (w.setCell ⟨g,j,none⟩ (.int .u64 (x:Int))) g (S.set j x):=by
 unfold RowB
 rw [heap_setCell_same w g j _ _ _ h]
 simp [bitV,List.map_set]
theorem RowB.lt {w:World} {g:Nat} {S:List Nat} (h:RowB w g S):g < w.heap.size:=(Array.getElem?_eq_some_iff.1 h).1
theorem RowB.below {w w':World} {g:Nat} {S:List Nat} (h:RowB w g S) {B:Nat} (hb:Below B w w') (hg:g < B):RowB w' g S:=by
 unfold RowB;rw [hb.block g hg];exact h
theorem RowB.made (w:World) (n:Nat):RowB (w.alloc (.cells (madeCells #[.int .u64 0] n) 30)) w.heap.size (List.replicate n 0):=by
 unfold RowB
 rw [heap_alloc_new w _]
 have:madeCells #[Value.int .u64 0] n = ((List.replicate n 0).map bitV).toArray:=by
  apply Array.toList_inj.1
  refine List.ext_getElem (by simp [madeCells]) fun i h1 h2=>?_
  simp [madeCells,bitV,Nat.mod_one]
 rw [this]
def eaL (f:Nat→Nat) (n k:Nat):List Nat:=(List.range n).map (fun j=>if j < k then f j else 0)
theorem eaL_0 (f:Nat→Nat) (n:Nat):eaL f n 0 = List.replicate n 0:=by
 unfold eaL
 refine List.ext_getElem (by simp) fun i h1 h2=>?_
 simp
theorem eaL_len (f:Nat→Nat) (n k:Nat):(eaL f n k).length = n:=by simp [eaL]
theorem eaL_set (f:Nat→Nat) (n k:Nat):(eaL f n k).set k (f k) = eaL f n (k+1):=by
 unfold eaL
 refine List.ext_getElem (by simp) fun i h1 h2=>?_
 rw [List.getElem_set]
 simp only [List.getElem_map,List.getElem_range]
 by_cases h:k = i
 ·subst h;simp
 ·rw [if_neg h]
  by_cases h3:i < k
  ·rw [if_pos h3,if_pos (by omega)]
  ·rw [if_neg h3,if_neg (by omega)]
theorem eaL_full (f:Nat→Nat) (n:Nat):eaL f n n = (List.range n).map f:=by
 unfold eaL
 refine List.ext_getElem (by simp) fun i h1 h2=>?_
 simp only [List.getElem_map,List.getElem_range]
 rw [if_pos (by simpa using h2)]
set_option maxRecDepth 20000 in
set_option maxHeartbeats 4000000 in
theorem each_any (fn:Nat) (caps:Array Value) (n:Nat) (f:Nat→Nat) (w:World)
  (hcf:∀ args w,(callFunc fn args).run Tryz.prog w = .ok (.enter fn args) w) (hn:n≤35184372088830)
  (hstep:∀ w' k,Below w.heap.size w w'→k < n→Calls Tryz.prog fn (#[.int .i64 (k:Nat)] ++ caps) w' fun e w''=>e = .returned (.int .u64 (f k:Nat))∧Below w'.heap.size w' w'') :
  Calls Tryz.prog 132 #[.int .i64 n,.func (.func fn) #[] caps] w fun e w'=>∃ g,e = .returned (.slice (some ⟨g,0,none⟩) n n)∧w.heap.size≤g∧RowB w' g ((List.range n).map f)∧Below w.heap.size w w':=by
 have HS:=hide hstep
 have hmk:=run_make_row' (P:=Tryz.prog) 22 30 (.int .u64 0) 8 Tryz.underlying22 (by kernel_rfl) rfl .i64 .i64 n (by omega) (by omega)
 have HM:=hide (RowB.made w n)
 have HB:=hide ((Below.refl w.heap.size w).alloc (Nat.le_refl _) (.cells (madeCells #[.int .u64 0] n) 30))
 clear hstep
 go_enter Tryz.func132,Tryz.ntmps132
 go_wp2_with fail
 clear hmk
 go_loopw [10] (fun i wr=>∃ k:Nat,k≤n∧i = .int .i64 k∧Hid (RowB wr w.heap.size (eaL f n k))∧Hid (Below w.heap.size w wr)) (fun i _=>n - (intOf i).toNat)
 case atStart=>exact ⟨0,Nat.zero_le _,rfl,by rw [eaL_0];exact HM,HB⟩
 case round =>
  clear HM HB
  obtain ⟨k,hk,rfl,hR,hB⟩:=hrel
  by_cases hlt:k < n
  ·have hkI:(k:Int) < (n:Int):=by omega
   have C:=hide (fun w' h=>uH HS w' k h hlt)
   obtain ⟨o,eo⟩:∃ o,f k = o:=⟨_,rfl⟩
   rw [eo] at C
   have eV:=hide eo
   clear eo
   go_wp2_with fail
   refine (uH C _ hB.out).mono ?_
   rintro e w2 ⟨rfl,hb2⟩
   have hR2:=(uH hR).below hb2 (uH hR).lt
   have c0:=hR2.cell k (by rw [eaL_len];exact hlt)
   have f0:=hR2.free k
   have R3:=hide (hR2.set k o)
   have B2:Below w.heap.size w w2:=hB.out.trans (hb2.mono hB.out.size)
   have B3:=hide (B2.setCell (p:=⟨w.heap.size,k,none⟩) (Nat.le_refl _) (.int .u64 (o:Int)))
   clear hb2 C hR hB B2 hR2
   go_wp2_with fail
   go_round
   case rel=>exact ⟨k+1,by omega,by go_num,by rw [← eaL_set,uH eV];exact R3,B3⟩
   case measure=>simp [intOf];omega
  ·have hkk:k = n:=by omega
   subst hkk
   go_wp2_with fail
   exact bodyPost_ret (v:=.slice (some ⟨w.heap.size,0,none⟩) k k) (by simp [results,Tryz.results132,go_sem]) rfl ⟨_,rfl,Nat.le_refl _,by rw [← eaL_full];exact uH hR,hB.out⟩
end Go.Proofs.YtfkndkaneffgdaaGreatDoor
namespace Go.Proofs.YtfkndkaneffgdaaGreatDoor
open Go.RowKit
attribute [local go_sem ↓] Go.wp_at_zero Go.wp_at_succ
theorem cell_keep {w w':World} {p:Addr} {v:Value} (h:w.cell? p = some v) (hb:Below w.heap.size w w'):w'.cell? p = some v:=by
 rw [hb.cell (World.block_lt_of_cell? w _ h)];exact h
set_option maxRecDepth 20000 in
set_option maxHeartbeats 4000000 in
theorem dot1_of (s x y p o k n m c d bx by':Nat) (b1 o1 b2 o2:Nat) (w:World) (hk:k < n) (hm:k < m)
  (h1:w.cell? ⟨bx,0,none⟩ = some (.slice (some ⟨b1,o1,none⟩) n c)) (h2:w.cell? ⟨by',0,none⟩ = some (.slice (some ⟨b2,o2,none⟩) m d))
  (h3:w.cell? ⟨b1,o1+k,none⟩ = some (.int .u64 (x:Nat))) (h4:w.cell? ⟨b2,o2+k,none⟩ = some (.int .u64 (y:Nat)))
  (C1:∀ w',Below w.heap.size w w'→Calls Tryz.prog 112 #[.int .u64 x,.int .u64 y] w' fun r w''=>r = .returned (.int .u64 (p:Nat))∧Below w'.heap.size w' w'')
  (C2:∀ w',Below w.heap.size w w'→Calls Tryz.prog 111 #[.int .u64 s,.int .u64 p] w' fun r w''=>r = .returned (.int .u64 (o:Nat))∧Below w'.heap.size w' w'') :
  Calls Tryz.prog 110 #[.int .u64 s,.int .i64 k,.pointer (some ⟨bx,0,none⟩),.pointer (some ⟨by',0,none⟩)] w fun e w'=>e = .returned (.int .u64 (o:Nat))∧Below w.heap.size w w':=by
 have K1:=hide C1;have K2:=hide C2
 have hkI:(k:Int) < (n:Int):=by omega
 have hkJ:(k:Int) < (m:Int):=by omega
 have HK:=hide (fun w' (h:Below w.heap.size w w')=>(show Below w.heap.size w w'∧w'.cell? ⟨bx,0,none⟩ = some (.slice (some ⟨b1,o1,none⟩) n c)∧w'.cell? ⟨by',0,none⟩ = some (.slice (some ⟨b2,o2,none⟩) m d)∧w'.cell? ⟨b1,o1+k,none⟩ = some (.int .u64 (x:Nat))∧w'.cell? ⟨b2,o2+k,none⟩ = some (.int .u64 (y:Nat)) from
  ⟨h,cell_keep h1 h,cell_keep h2 h,cell_keep h3 h,cell_keep h4 h⟩))
 clear C1 C2 h1 h2 h3 h4
 go_enter Tryz.func110,Tryz.ntmps110
 go_wp2_with fail
 go_region_held3 (fun w'=>Below w.heap.size w w'∧w'.cell? ⟨bx,0,none⟩ = some (.slice (some ⟨b1,o1,none⟩) n c)∧w'.cell? ⟨by',0,none⟩ = some (.slice (some ⟨b2,o2,none⟩) m d)∧w'.cell? ⟨b1,o1+k,none⟩ = some (.int .u64 (x:Nat))∧w'.cell? ⟨b2,o2+k,none⟩ = some (.int .u64 (y:Nat)))
  (first | exact uH HK _ (Below.refl _ _).drew | exact uH HK _ (by assumption) | fail "KK")
  (first | (go_at_call 112;refine (uH K1 _ (And.left (by assumption))).mono ?_;rintro e w1 ⟨rfl,hb1⟩;have hB1:Below w.heap.size w w1:=Below.trans (And.left (by assumption)) (hb1.mono (Below.size (And.left (by assumption))));clear hb1) | (go_at_call 111;refine (uH K2 _ (And.left (by assumption))).mono ?_;rintro e w2 ⟨rfl,hb2⟩;have hB2:Below w.heap.size w w2:=Below.trans (And.left (by assumption)) (hb2.mono (Below.size (And.left (by assumption))));clear hb2) | fail "NO ARM")
 go_wp2
 go_ret
 exact ⟨rfl,And.left (by assumption)⟩
set_option maxRecDepth 20000 in
set_option maxHeartbeats 4000000 in
theorem norm1_of (x o k n c bx bk:Nat) (j:Int) (b1 o1:Nat) (w:World) (hk:k < n) (hj:-5000≤j∧j≤5000)
  (h1:w.cell? ⟨bx,0,none⟩ = some (.slice (some ⟨b1,o1,none⟩) n c)) (h5:w.cell? ⟨bk,0,none⟩ = some (.int .i64 j))
  (h3:w.cell? ⟨b1,o1+k,none⟩ = some (.int .u64 (x:Nat)))
  (C1:∀ w',Below w.heap.size w w'→Calls Tryz.prog 134 #[.int .u64 x,.int .i64 (-j)] w' fun r w''=>r = .returned (.int .u64 (o:Nat))∧Below w'.heap.size w' w'') :
  Calls Tryz.prog 133 #[.int .i64 k,.pointer (some ⟨bx,0,none⟩),.pointer (some ⟨bk,0,none⟩)] w fun e w'=>e = .returned (.int .u64 (o:Nat))∧Below w.heap.size w w':=by
 have K1:=hide C1
 have hkI:(k:Int) < (n:Int):=by omega
 have hw:IntKind.i64.wrap (-j) = -j:=by simp only [IntKind.wrap_i64];omega
 have HK:=hide (fun w' (h:Below w.heap.size w w')=>(show Below w.heap.size w w'∧w'.cell? ⟨bx,0,none⟩ = some (.slice (some ⟨b1,o1,none⟩) n c)∧w'.cell? ⟨b1,o1+k,none⟩ = some (.int .u64 (x:Nat))∧w'.cell? ⟨bk,0,none⟩ = some (.int .i64 j) from
  ⟨h,cell_keep h1 h,cell_keep h3 h,cell_keep h5 h⟩))
 clear C1 h1 h3 h5
 go_enter Tryz.func133,Tryz.ntmps133
 go_wp2_with fail
 go_region_held3 (fun w'=>Below w.heap.size w w'∧w'.cell? ⟨bx,0,none⟩ = some (.slice (some ⟨b1,o1,none⟩) n c)∧w'.cell? ⟨b1,o1+k,none⟩ = some (.int .u64 (x:Nat))∧w'.cell? ⟨bk,0,none⟩ = some (.int .i64 j))
  (first | exact uH HK _ (Below.refl _ _).drew | exact uH HK _ (by assumption) | fail "KK")
  (first | (go_at_call 134;refine (uH K1 _ (And.left (by assumption))).mono ?_;rintro e w1 ⟨rfl,hb1⟩;have hB1:Below w.heap.size w w1:=Below.trans (And.left (by assumption)) (hb1.mono (Below.size (And.left (by assumption))));clear hb1) | fail "NO ARM")
 go_wp2
 go_ret
 exact ⟨rfl,And.left (by assumption)⟩
set_option maxRecDepth 20000 in
set_option maxHeartbeats 4000000 in
theorem biggest1_of (m x r o k n c bx:Nat) (b1 o1:Nat) (w:World) (hk:k < n)
  (h1:w.cell? ⟨bx,0,none⟩ = some (.slice (some ⟨b1,o1,none⟩) n c))
  (h3:w.cell? ⟨b1,o1+k,none⟩ = some (.int .u64 (x:Nat)))
  (C1:∀ w',Below w.heap.size w w'→Calls Tryz.prog 93 #[.int .u64 x] w' fun e w''=>e = .returned (.int .u64 (r:Nat))∧Below w'.heap.size w' w'')
  (C2:∀ w',Below w.heap.size w w'→Calls Tryz.prog 92 #[.int .u64 m,.int .u64 r] w' fun e w''=>e = .returned (.int .u64 (o:Nat))∧Below w'.heap.size w' w'') :
  Calls Tryz.prog 91 #[.int .u64 m,.int .i64 k,.pointer (some ⟨bx,0,none⟩)] w fun e w'=>e = .returned (.int .u64 (o:Nat))∧Below w.heap.size w w':=by
 have K1:=hide C1;have K2:=hide C2
 have hkI:(k:Int) < (n:Int):=by omega
 clear C1 C2
 go_enter Tryz.func91,Tryz.ntmps91
 go_wp2_with fail
 refine (uH K1 _ (Below.refl _ _)).mono ?_
 rintro e w1 ⟨rfl,hb1⟩
 have B1:=hide hb1
 clear K1 hb1
 go_wp2_with fail
 refine (uH K2 _ (uH B1)).mono ?_
 rintro e w2 ⟨rfl,hb2⟩
 clear K2
 go_wp2
 go_ret
 exact ⟨rfl,(uH B1).trans (hb2.mono (uH B1).size)⟩
set_option maxRecDepth 20000 in
set_option maxHeartbeats 4000000 in
theorem finite1_of (q r:Bool) (x k n c bx:Nat) (b1 o1:Nat) (w:World) (hk:k < n)
  (h1:w.cell? ⟨bx,0,none⟩ = some (.slice (some ⟨b1,o1,none⟩) n c))
  (h3:w.cell? ⟨b1,o1+k,none⟩ = some (.int .u64 (x:Nat)))
  (C1:∀ w',Below w.heap.size w w'→Calls Tryz.prog 41 #[.int .u64 x] w' fun e w''=>e = .returned (.bool r)∧Below w'.heap.size w' w'') :
  Calls Tryz.prog 47 #[.bool q,.int .i64 k,.pointer (some ⟨bx,0,none⟩)] w fun e w'=>e = .returned (.bool (q && r))∧Below w.heap.size w w':=by
 have K1:=hide C1
 have hkI:(k:Int) < (n:Int):=by omega
 clear C1
 cases q
 ·go_enter Tryz.func47,Tryz.ntmps47
  go_wp2
  go_ret
  exact ⟨rfl,Below.refl _ _⟩
 ·go_enter Tryz.func47,Tryz.ntmps47
  go_wp2_with fail
  refine (uH K1 _ (Below.refl _ _)).mono ?_
  rintro e w1 ⟨rfl,hb1⟩
  clear K1
  go_wp2
  go_ret
  exact ⟨rfl,hb1⟩
end Go.Proofs.YtfkndkaneffgdaaGreatDoor
