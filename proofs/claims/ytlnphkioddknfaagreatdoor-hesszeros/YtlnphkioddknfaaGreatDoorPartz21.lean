/- Part 21 of the texts. -/
import Derived.Test.YtlnphkioddknfaaGreatDoorPartz15
import Derived.Test.YtlnphkioddknfaaGreatDoorPartz16
import Derived.Test.YtlnphkioddknfaaGreatDoorPartz19
import Derived.Test.YtlnphkioddknfaaGreatDoorPartz17
import Derived.Test.YtlnphkioddknfaaGreatDoorPartz18
import Derived.Test.YtlnphkioddknfaaGreatDoorPartz20
import Derived.Laws.Cover2
import Derived.Laws.Externs
import Derived.Test.YtlnphkioddknfaaGreatDoorPartz03
import Derived.Laws.FloatArith
import Derived.Test.YtlnphkioddknfaaGreatDoorPartz04
import Derived.Test.YtlnphkioddknfaaGreatDoorPartz01
import Derived.Deep.OwnRows
set_option maxHeartbeats 4000000
set_option maxRecDepth 20000
namespace Go.Proofs.YtlnphkioddknfaaGreatDoor
open Go.RowKit
def p2 (e:Int):Rat:=(2:Rat) ^ e
end Go.Proofs.YtlnphkioddknfaaGreatDoor
namespace Go.Proofs.YtlnphkioddknfaaGreatDoor
open Go.RowKit
def sqV (k:Int) (s x:Nat):Nat:=aV s (mV (xV x (-k)) (xV x (-k)))
end Go.Proofs.YtlnphkioddknfaaGreatDoor
namespace Go.Proofs.YtlnphkioddknfaaGreatDoor
open Go.RowKit
def ssV (k:Int):Nat→List Nat→Nat
 | s,[]=>s
 | s,x :: xs=>ssV k (sqV k s x) xs
def mx (a b:Nat):Nat:=if fK a = 4 ∨ fK b = 4 then 9221120237041090560 else if fZ a < fZ b then b else a
def bgF:Nat→List Nat→Nat
 | m,[]=>m
 | m,x :: xs=>bgF (mx m (fR x)) xs
theorem mag_fZ (r:Nat) (h:r < 9223372036854775808):fZ r = (rv r:Int)∧fR r = r∧fS r = false:=by
 have h1:fR r = r:=by unfold fR;omega
 have h2:fS r = false:=decide_eq_false (by omega)
 refine ⟨?_,h1,h2⟩
 unfold fZ pv
 rw [h1,h2]
 rfl
theorem mx_mag (m r:Nat) (hm:m < 9218868437227405312) (hr:r < 9218868437227405312):mx m r = max m r:=by
 obtain ⟨a1,a2,a3⟩:=mag_fZ m (by omega)
 obtain ⟨b1,b2,b3⟩:=mag_fZ r (by omega)
 have k1:=(fin_kind ((fK_rungs m).2.2.2 (by rw [a2];exact hm))).2
 have k2:=(fin_kind ((fK_rungs r).2.2.2 (by rw [b2];exact hr))).2
 unfold mx
 rw [if_neg (by omega),a1,b1]
 rcases Nat.lt_or_ge m r with h | h
 ·have:=rv8_lt h
  rw [if_pos (by omega)]
  omega
 ·have:=rv_mono h
  rw [if_neg (by omega)]
  omega
theorem bgF_fin:∀ (xs:List Nat) (m:Nat),m < 9218868437227405312→(∀ x ∈ xs,fFin x = true) →
  bgF m xs < 9218868437227405312∧m≤bgF m xs∧(∀ x ∈ xs,fR x≤bgF m xs)∧(bgF m xs = m ∨ ∃ x ∈ xs,fR x = bgF m xs):=by
 intro xs
 induction xs with
 | nil=>intro m hm _;exact ⟨hm,Nat.le_refl _,(fun x hx=>(by cases hx)),Or.inl rfl⟩
 | cons x xs ih =>
  intro m hm hx
  have hr:=fR_fin x (hx x List.mem_cons_self)
  have e:bgF m (x :: xs) = bgF (max m (fR x)) xs:=by
   show bgF (mx m (fR x)) xs = _
   rw [mx_mag m _ hm hr]
  obtain ⟨i1,i2,i3,i4⟩:=ih (max m (fR x)) (by omega) (fun y hy=>hx y (List.mem_cons_of_mem _ hy))
  rw [e]
  refine ⟨i1,by omega,?_,?_⟩
  ·intro y hy
   rcases List.mem_cons.1 hy with rfl | hy
   ·omega
   ·exact i3 y hy
  ·rcases i4 with i4 | ⟨y,hy,i4⟩
   ·rcases Nat.lt_or_ge m (fR x) with h | h
    ·exact .inr ⟨x,List.mem_cons_self,by omega⟩
    ·exact .inl (by omega)
   ·exact .inr ⟨y,List.mem_cons_of_mem _ hy,i4⟩
def nrV (xs:List Nat):Nat:=if bgF 0 xs = 0 ∨ fFin (bgF 0 xs) = false then bgF 0 xs else xV (sV (ssV (eX (bgF 0 xs)) 0 xs)) (eX (bgF 0 xs))
end Go.Proofs.YtlnphkioddknfaaGreatDoor
namespace Go.Proofs.YtlnphkioddknfaaGreatDoor
open Go.RowKit
theorem vadd_any (a b:Nat) (w:World) (ha:a < 18446744073709551616) (hb:b < 18446744073709551616) (hT:Tab w) :
  Calls Tryz.prog 239 #[.int .u64 a,.int .u64 b] w fun r w'=>r = .returned (.int .u64 (aV a b:Nat))∧Below w.heap.size w w':=by
 have K:=hide (sadd_any a b w ha hb hT)
 clear ha hb hT
 generalize aV a b = o at *
 generalize aF a b = f at *
 go_enter Tryz.func239,Tryz.ntmps239
 go_wp2_with fail
 refine Calls.mono (uH K) ?_
 rintro e w1 ⟨rfl,hb1⟩
 clear K
 go_wp2
 go_ret
 exact ⟨rfl,hb1⟩
theorem vmul_any (a b:Nat) (w:World) (ha:a < 18446744073709551616) (hb:b < 18446744073709551616) (hT:Tab w) :
  Calls Tryz.prog 165 #[.int .u64 a,.int .u64 b] w fun r w'=>r = .returned (.int .u64 (mV a b:Nat))∧Below w.heap.size w w':=by
 have K:=hide (tmul_any a b w ha hb hT)
 clear ha hb hT
 generalize mV a b = o at *
 generalize mF a b = f at *
 go_enter Tryz.func165,Tryz.ntmps165
 go_wp2_with fail
 refine Calls.mono (uH K) ?_
 rintro e w1 ⟨rfl,hb1⟩
 clear K
 go_wp2
 go_ret
 exact ⟨rfl,hb1⟩
theorem vscale_any (a:Nat) (n:Int) (w:World) (ha:a < 18446744073709551616) (hT:Tab w) :
  Calls Tryz.prog 58 #[.int .u64 a,.int .i64 n] w fun r w'=>r = .returned (.int .u64 (xV a n:Nat))∧Below w.heap.size w w':=by
 have K:=hide (cscale_any a n w ha hT)
 clear ha hT
 generalize xV a n = o at *
 generalize xF a n = f at *
 go_enter Tryz.func58,Tryz.ntmps58
 go_wp2_with fail
 refine Calls.mono (uH K) ?_
 rintro e w1 ⟨rfl,hb1⟩
 clear K
 go_wp2
 go_ret
 exact ⟨rfl,hb1⟩
theorem vfit_any (ao bo:Option Addr) (n m c d:Nat) (w:World) :
  Calls Tryz.prog 215 #[.slice ao n c,.slice bo m d] w fun r w'=>r = .returned (.bool (decide (n≤64∧n = m)))∧w = w':=by
 by_cases h1:n≤64
 ·have h1I:(n:Int)≤64:=by omega
  by_cases h2:n = m
  ·rw [decide_eq_true (And.intro h1 h2)]
   subst h2
   go_enter Tryz.func215,Tryz.ntmps215
   go_wp2
   go_ret
   exact ⟨rfl,rfl⟩
  ·rw [decide_eq_false (fun h=>h2 h.2)]
   have h2I:decide ((n:Int) = (m:Int)) = false:=decide_eq_false (by omega)
   go_enter Tryz.func215,Tryz.ntmps215
   go_wp2
   go_ret
   exact ⟨by simp;omega,rfl⟩
 ·rw [decide_eq_false (fun h=>h1 h.1)]
  have h1I:(64:Int) < (n:Int):=by omega
  go_enter Tryz.func215,Tryz.ntmps215
  go_wp2
  go_ret
  exact ⟨by simp,rfl⟩
end Go.Proofs.YtlnphkioddknfaaGreatDoor
namespace Go.Proofs.YtlnphkioddknfaaGreatDoor
open Go.RowKit
theorem gatherB_any (fn:Nat) (caps:Array Value) (n:Nat) (f:Nat→Nat) (w:World)
  (hcf:∀ args w,(callFunc fn args).run Tryz.prog w = .ok (.enter fn args) w) (hn:n≤35184372088830)
  (hstep:∀ w' k,Below w.heap.size w w'→k < n→Calls Tryz.prog fn (#[.int .u64 (f k:Nat),.int .i64 (k:Nat)] ++ caps) w' fun e w''=>e = .returned (.int .u64 (f (k+1):Nat))∧Below w'.heap.size w' w'') :
  Calls Tryz.prog 113 #[.int .i64 n,.int .u64 (f 0:Nat),.func (.func fn) #[] caps] w fun e w'=>e = .returned (.int .u64 (f n:Nat))∧Below w.heap.size w w':=by
 have HS:=hide hstep
 clear hstep
 go_enter Tryz.func113,Tryz.ntmps113
 go_wp2_with fail
 go_loopw [7,11] (fun t i wr=>∃ k:Nat,k≤n∧i = .int .i64 k∧t = .int .u64 (f k:Nat)∧Hid (Below w.heap.size w wr)) (fun _ i _=>n - (intOf i).toNat)
 case atStart=>exact ⟨0,Nat.zero_le _,rfl,rfl,Below.refl _ _⟩
 case round =>
  obtain ⟨k,hk,rfl,rfl,hB⟩:=hrel
  by_cases hlt:k < n
  ·have hkI:(k:Int) < (n:Int):=by omega
   have C:=hide (fun w' h=>uH HS w' k h hlt)
   obtain ⟨o,eo⟩:∃ o,f (k+1) = o:=⟨_,rfl⟩
   rw [eo] at C
   have eV:=hide eo
   clear eo
   go_wp2_with fail
   refine (uH C _ hB.out).mono ?_
   rintro e w2 ⟨rfl,hb2⟩
   have B2:Hid (Below w.heap.size w w2):=hB.out.trans (hb2.mono hB.out.size)
   clear hb2 C
   go_wp2_with fail
   go_round
   case rel=>exact ⟨k+1,by omega,by go_num,by rw [uH eV],B2⟩
   case measure=>simp [intOf];omega
  ·have hkk:k = n:=by omega
   subst hkk
   go_wp2_with fail
   exact bodyPost_ret (v:=.int .u64 (f k:Nat)) (by simp [results,Tryz.results113,go_sem]) rfl ⟨rfl,hB.out⟩
theorem gatherb_any (fn:Nat) (caps:Array Value) (n:Nat) (f:Nat→Bool) (w:World)
  (hcf:∀ args w,(callFunc fn args).run Tryz.prog w = .ok (.enter fn args) w) (hn:n≤35184372088830)
  (hstep:∀ w' k,Below w.heap.size w w'→k < n→Calls Tryz.prog fn (#[.bool (f k),.int .i64 (k:Nat)] ++ caps) w' fun e w''=>e = .returned (.bool (f (k+1)))∧Below w'.heap.size w' w'') :
  Calls Tryz.prog 193 #[.int .i64 n,.bool (f 0),.func (.func fn) #[] caps] w fun e w'=>e = .returned (.bool (f n))∧Below w.heap.size w w':=by
 have HS:=hide hstep
 clear hstep
 go_enter Tryz.func193,Tryz.ntmps193
 go_wp2_with fail
 go_loopw [7,11] (fun t i wr=>∃ k:Nat,k≤n∧i = .int .i64 k∧t = .bool (f k)∧Hid (Below w.heap.size w wr)) (fun _ i _=>n - (intOf i).toNat)
 case atStart=>exact ⟨0,Nat.zero_le _,rfl,rfl,Below.refl _ _⟩
 case round =>
  obtain ⟨k,hk,rfl,rfl,hB⟩:=hrel
  by_cases hlt:k < n
  ·have hkI:(k:Int) < (n:Int):=by omega
   have C:=hide (fun w' h=>uH HS w' k h hlt)
   obtain ⟨o,eo⟩:∃ o,f (k+1) = o:=⟨_,rfl⟩
   rw [eo] at C
   have eV:=hide eo
   clear eo
   go_wp2_with fail
   refine (uH C _ hB.out).mono ?_
   rintro e w2 ⟨rfl,hb2⟩
   have B2:Hid (Below w.heap.size w w2):=hB.out.trans (hb2.mono hB.out.size)
   clear hb2 C
   go_wp2_with fail
   go_round
   case rel=>exact ⟨k+1,by omega,by go_num,by rw [uH eV],B2⟩
   case measure=>simp [intOf];omega
  ·have hkk:k = n:=by omega
   subst hkk
   go_wp2_with fail
   exact bodyPost_ret (v:=.bool (f k)) (by simp [results,Tryz.results193,go_sem]) rfl ⟨rfl,hB.out⟩
def bitV (x:Nat):Value:=.int .u64 (x:Int)
def RowB (w:World) (g:Nat) (S:List Nat):Prop:=w.heap[g]? = some (.cells (S.map bitV).toArray 37 (0,0))
theorem RowB.cell {w:World} {g:Nat} {S:List Nat} (h:RowB w g S) (j:Nat) (hj:j < S.length):w.cell? ⟨g,j,none⟩ = some (.int .u64 ((S[j]?.getD 0:Nat):Int)):=by
 rw [cell_of_row w g j _ _ _ h]
 simp [bitV,hj]
theorem RowB.free {w:World} {g:Nat} {S:List Nat} (h:RowB w g S) (j:Nat):w.frozen? ⟨g,j,none⟩ = false:=frozen_of_row w g j _ _ h
theorem RowB.set {w:World} {g:Nat} {S:List Nat} (h:RowB w g S) (j x:Nat):RowB (w.setCell ⟨g,j,none⟩ (.int .u64 (x:Int))) g (S.set j x):=by
 unfold RowB
 rw [heap_setCell_same w g j _ _ _ h]
 simp [bitV,List.map_set]
theorem RowB.lt {w:World} {g:Nat} {S:List Nat} (h:RowB w g S):g < w.heap.size:=(Array.getElem?_eq_some_iff.1 h).1
theorem RowB.below {w w':World} {g:Nat} {S:List Nat} (h:RowB w g S) {B:Nat} (hb:Below B w w') (hg:g < B):RowB w' g S:=by
 unfold RowB;rw [hb.block g hg];exact h
theorem RowB.made (w:World) (n:Nat):RowB (w.alloc (.cells (madeCells #[.int .u64 0] n) 37)) w.heap.size (List.replicate n 0):=by
 unfold RowB
 rw [heap_alloc_new w _]
 have:madeCells #[Value.int .u64 0] n = ((List.replicate n 0).map bitV).toArray:=by
  apply Array.toList_inj.1
  refine List.ext_getElem (by simp [madeCells]) fun i h1 h2=>?_
  simp [madeCells,bitV,Nat.mod_one]
 rw [this]
def eaL (f:Nat→Nat) (n k:Nat):List Nat:=(List.range n).map (fun j=>if j < k then f j else 0)
theorem eaL_0 (f:Nat→Nat) (n:Nat):eaL f n 0 = List.replicate n 0:=by
 unfold eaL
 refine List.ext_getElem (by simp) fun i h1 h2=>?_
 simp
theorem eaL_len (f:Nat→Nat) (n k:Nat):(eaL f n k).length = n:=by simp [eaL]
theorem eaL_set (f:Nat→Nat) (n k:Nat):(eaL f n k).set k (f k) = eaL f n (k+1):=by
 unfold eaL
 refine List.ext_getElem (by simp) fun i h1 h2=>?_
 rw [List.getElem_set]
 simp only [List.getElem_map,List.getElem_range]
 by_cases h:k = i
 ·subst h;simp
 ·rw [if_neg h]
  by_cases h3:i < k
  ·rw [if_pos h3,if_pos (by omega)]
  ·rw [if_neg h3,if_neg (by omega)]
theorem eaL_full (f:Nat→Nat) (n:Nat):eaL f n n = (List.range n).map f:=by
 unfold eaL
 refine List.ext_getElem (by simp) fun i h1 h2=>?_
 simp only [List.getElem_map,List.getElem_range]
 rw [if_pos (by simpa using h2)]
theorem each_any (fn:Nat) (caps:Array Value) (n:Nat) (f:Nat→Nat) (w:World)
  (hcf:∀ args w,(callFunc fn args).run Tryz.prog w = .ok (.enter fn args) w) (hn:n≤35184372088830)
  (hstep:∀ w' k,Below w.heap.size w w'→k < n→Calls Tryz.prog fn (#[.int .i64 (k:Nat)] ++ caps) w' fun e w''=>e = .returned (.int .u64 (f k:Nat))∧Below w'.heap.size w' w'') :
  Calls Tryz.prog 286 #[.int .i64 n,.func (.func fn) #[] caps] w fun e w'=>∃ g,e = .returned (.slice (some ⟨g,0,none⟩) n n)∧w.heap.size≤g∧RowB w' g ((List.range n).map f)∧Below w.heap.size w w':=by
 have HS:=hide hstep
 have hmk:=run_make_row' (P:=Tryz.prog) 22 37 (.int .u64 0) 8 Tryz.underlying22 (by kernel_rfl) rfl .i64 .i64 n (by omega) (by omega)
 have HM:=hide (RowB.made w n)
 have HB:=hide ((Below.refl w.heap.size w).alloc (Nat.le_refl _) (.cells (madeCells #[.int .u64 0] n) 37))
 clear hstep
 go_enter Tryz.func286,Tryz.ntmps286
 go_wp2_with fail
 clear hmk
 go_loopw [10] (fun i wr=>∃ k:Nat,k≤n∧i = .int .i64 k∧Hid (RowB wr w.heap.size (eaL f n k))∧Hid (Below w.heap.size w wr)) (fun i _=>n - (intOf i).toNat)
 case atStart=>exact ⟨0,Nat.zero_le _,rfl,by rw [eaL_0];exact HM,HB⟩
 case round =>
  clear HM HB
  obtain ⟨k,hk,rfl,hR,hB⟩:=hrel
  by_cases hlt:k < n
  ·have hkI:(k:Int) < (n:Int):=by omega
   have C:=hide (fun w' h=>uH HS w' k h hlt)
   obtain ⟨o,eo⟩:∃ o,f k = o:=⟨_,rfl⟩
   rw [eo] at C
   have eV:=hide eo
   clear eo
   go_wp2_with fail
   refine (uH C _ hB.out).mono ?_
   rintro e w2 ⟨rfl,hb2⟩
   have hR2:=(uH hR).below hb2 (uH hR).lt
   have c0:=hR2.cell k (by rw [eaL_len];exact hlt)
   have f0:=hR2.free k
   have R3:=hide (hR2.set k o)
   have B2:Below w.heap.size w w2:=hB.out.trans (hb2.mono hB.out.size)
   have B3:=hide (B2.setCell (p:=⟨w.heap.size,k,none⟩) (Nat.le_refl _) (.int .u64 (o:Int)))
   clear hb2 C hR hB B2 hR2
   go_wp2_with fail
   go_round
   case rel=>exact ⟨k+1,by omega,by go_num,by rw [← eaL_set,uH eV];exact R3,B3⟩
   case measure=>simp [intOf];omega
  ·have hkk:k = n:=by omega
   subst hkk
   go_wp2_with fail
   exact bodyPost_ret (v:=.slice (some ⟨w.heap.size,0,none⟩) k k) (by simp [results,Tryz.results286,go_sem]) rfl ⟨_,rfl,Nat.le_refl _,by rw [← eaL_full];exact uH hR,hB.out⟩
end Go.Proofs.YtlnphkioddknfaaGreatDoor
