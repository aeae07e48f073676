/- Part 18 of the texts. -/
import Derived.Test.YtcbcmlaogehimaaGreatDoorPartc17
import Derived.Test.YtcbcmlaogehimaaGreatDoorPartc16
import Derived.Test.YtcbcmlaogehimaaGreatDoorPartc15
import Derived.Laws.Cover2
import Derived.Laws.Externs
import Derived.Test.YtcbcmlaogehimaaGreatDoorPartc03
import Derived.Laws.FloatArith
import Derived.Test.YtcbcmlaogehimaaGreatDoorPartc01
import Derived.Deep.OwnRows
import Derived.Deep.RegionHeld3
set_option maxHeartbeats 4000000
set_option maxRecDepth 20000
namespace Go.Proofs.YtcbcmlaogehimaaGreatDoor
open Go.RowKit
def ssV (k:Int):Nat→List Nat→Nat
 | s,[]=>s
 | s,x :: xs=>ssV k (sqV k s x) xs
def mx (a b:Nat):Nat:=if fK a = 4 ∨ fK b = 4 then 9221120237041090560 else if fZ a < fZ b then b else a
def bgF:Nat→List Nat→Nat
 | m,[]=>m
 | m,x :: xs=>bgF (mx m (fR x)) xs
theorem mag_fZ (r:Nat) (h:r < 9223372036854775808):fZ r = (rv r:Int)∧fR r = r∧fS r = false:=by
 have h1:fR r = r:=by unfold fR;omega
 have h2:fS r = false:=decide_eq_false (by omega)
 refine ⟨?_,h1,h2⟩
 unfold fZ pv
 rw [h1,h2]
 rfl
theorem mx_mag (m r:Nat) (hm:m < 9218868437227405312) (hr:r < 9218868437227405312):mx m r = max m r:=by
 obtain ⟨a1,a2,a3⟩:=mag_fZ m (by omega)
 obtain ⟨b1,b2,b3⟩:=mag_fZ r (by omega)
 have k1:=(fin_kind ((fK_rungs m).2.2.2 (by rw [a2];exact hm))).2
 have k2:=(fin_kind ((fK_rungs r).2.2.2 (by rw [b2];exact hr))).2
 unfold mx
 rw [if_neg (by omega),a1,b1]
 rcases Nat.lt_or_ge m r with h | h
 ·have:=rv8_lt h
  rw [if_pos (by omega)]
  omega
 ·have:=rv_mono h
  rw [if_neg (by omega)]
  omega
theorem bgF_fin:∀ (xs:List Nat) (m:Nat),m < 9218868437227405312→(∀ x ∈ xs,fFin x = true) →
  bgF m xs < 9218868437227405312∧m≤bgF m xs∧(∀ x ∈ xs,fR x≤bgF m xs)∧(bgF m xs = m ∨ ∃ x ∈ xs,fR x = bgF m xs):=by
 intro xs
 induction xs with
 | nil=>intro m hm _;exact ⟨hm,Nat.le_refl _,(fun x hx=>(by cases hx)),Or.inl rfl⟩
 | cons x xs ih =>
  intro m hm hx
  have hr:=fR_fin x (hx x List.mem_cons_self)
  have e:bgF m (x :: xs) = bgF (max m (fR x)) xs:=by
   show bgF (mx m (fR x)) xs = _
   rw [mx_mag m _ hm hr]
  obtain ⟨i1,i2,i3,i4⟩:=ih (max m (fR x)) (by omega) (fun y hy=>hx y (List.mem_cons_of_mem _ hy))
  rw [e]
  refine ⟨i1,by omega,?_,?_⟩
  ·intro y hy
   rcases List.mem_cons.1 hy with rfl | hy
   ·omega
   ·exact i3 y hy
  ·rcases i4 with i4 | ⟨y,hy,i4⟩
   ·rcases Nat.lt_or_ge m (fR x) with h | h
    ·exact .inr ⟨x,List.mem_cons_self,by omega⟩
    ·exact .inl (by omega)
   ·exact .inr ⟨y,List.mem_cons_of_mem _ hy,i4⟩
def nrV (xs:List Nat):Nat:=if bgF 0 xs = 0 ∨ fFin (bgF 0 xs) = false then bgF 0 xs else xV (sV (ssV (eX (bgF 0 xs)) 0 xs)) (eX (bgF 0 xs))
end Go.Proofs.YtcbcmlaogehimaaGreatDoor
namespace Go.Proofs.YtcbcmlaogehimaaGreatDoor
open Go.RowKit
theorem vadd_any (a b:Nat) (w:World) (ha:a < 18446744073709551616) (hb:b < 18446744073709551616) (hT:Tab w) :
  Calls Tryz.prog 217 #[.int .u64 a,.int .u64 b] w fun r w'=>r = .returned (.int .u64 (aV a b:Nat))∧Below w.heap.size w w':=by
 have K:=hide (sadd_any a b w ha hb hT)
 clear ha hb hT
 generalize aV a b = o at *
 generalize aF a b = f at *
 go_enter Tryz.func217,Tryz.ntmps217
 go_wp2_with fail
 refine Calls.mono (uH K) ?_
 rintro e w1 ⟨rfl,hb1⟩
 clear K
 go_wp2
 go_ret
 exact ⟨rfl,hb1⟩
theorem vmul_any (a b:Nat) (w:World) (ha:a < 18446744073709551616) (hb:b < 18446744073709551616) (hT:Tab w) :
  Calls Tryz.prog 203 #[.int .u64 a,.int .u64 b] w fun r w'=>r = .returned (.int .u64 (mV a b:Nat))∧Below w.heap.size w w':=by
 have K:=hide (tmul_any a b w ha hb hT)
 clear ha hb hT
 generalize mV a b = o at *
 generalize mF a b = f at *
 go_enter Tryz.func203,Tryz.ntmps203
 go_wp2_with fail
 refine Calls.mono (uH K) ?_
 rintro e w1 ⟨rfl,hb1⟩
 clear K
 go_wp2
 go_ret
 exact ⟨rfl,hb1⟩
theorem vscale_any (a:Nat) (n:Int) (w:World) (ha:a < 18446744073709551616) (hT:Tab w) :
  Calls Tryz.prog 97 #[.int .u64 a,.int .i64 n] w fun r w'=>r = .returned (.int .u64 (xV a n:Nat))∧Below w.heap.size w w':=by
 have K:=hide (cscale_any a n w ha hT)
 clear ha hT
 generalize xV a n = o at *
 generalize xF a n = f at *
 go_enter Tryz.func97,Tryz.ntmps97
 go_wp2_with fail
 refine Calls.mono (uH K) ?_
 rintro e w1 ⟨rfl,hb1⟩
 clear K
 go_wp2
 go_ret
 exact ⟨rfl,hb1⟩
theorem vfit_any (ao bo:Option Addr) (n m c d:Nat) (w:World) :
  Calls Tryz.prog 184 #[.slice ao n c,.slice bo m d] w fun r w'=>r = .returned (.bool (decide (n≤64∧n = m)))∧w = w':=by
 by_cases h1:n≤64
 ·have h1I:(n:Int)≤64:=by omega
  by_cases h2:n = m
  ·rw [decide_eq_true (And.intro h1 h2)]
   subst h2
   go_enter Tryz.func184,Tryz.ntmps184
   go_wp2
   go_ret
   exact ⟨rfl,rfl⟩
  ·rw [decide_eq_false (fun h=>h2 h.2)]
   have h2I:decide ((n:Int) = (m:Int)) = false:=decide_eq_false (by omega)
   go_enter Tryz.func184,Tryz.ntmps184
   go_wp2
   go_ret
   exact ⟨by simp;omega,rfl⟩
 ·rw [decide_eq_false (fun h=>h1 h.1)]
  have h1I:(64:Int) < (n:Int):=by omega
  go_enter Tryz.func184,Tryz.ntmps184
  go_wp2
  go_ret
  exact ⟨by simp,rfl⟩
end Go.Proofs.YtcbcmlaogehimaaGreatDoor
namespace Go.Proofs.YtcbcmlaogehimaaGreatDoor
open Go.RowKit
theorem gatherB_any (fn:Nat) (caps:Array Value) (n:Nat) (f:Nat→Nat) (w:World)
  (hcf:∀ args w,(callFunc fn args).run Tryz.prog w = .ok (.enter fn args) w) (hn:n≤35184372088830)
  (hstep:∀ w' k,Below w.heap.size w w'→k < n→Calls Tryz.prog fn (#[.int .u64 (f k:Nat),.int .i64 (k:Nat)] ++ caps) w' fun e w''=>e = .returned (.int .u64 (f (k+1):Nat))∧Below w'.heap.size w' w'') :
  Calls Tryz.prog 156 #[.int .i64 n,.int .u64 (f 0:Nat),.func (.func fn) #[] caps] w fun e w'=>e = .returned (.int .u64 (f n:Nat))∧Below w.heap.size w w':=by
 have HS:=hide hstep
 clear hstep
 go_enter Tryz.func156,Tryz.ntmps156
 go_wp2_with fail
 go_loopw [7,11] (fun t i wr=>∃ k:Nat,k≤n∧i = .int .i64 k∧t = .int .u64 (f k:Nat)∧Hid (Below w.heap.size w wr)) (fun _ i _=>n - (intOf i).toNat)
 case atStart=>exact ⟨0,Nat.zero_le _,rfl,rfl,Below.refl _ _⟩
 case round =>
  obtain ⟨k,hk,rfl,rfl,hB⟩:=hrel
  by_cases hlt:k < n
  ·have hkI:(k:Int) < (n:Int):=by omega
   have C:=hide (fun w' h=>uH HS w' k h hlt)
   obtain ⟨o,eo⟩:∃ o,f (k+1) = o:=⟨_,rfl⟩
   rw [eo] at C
   have eV:=hide eo
   clear eo
   go_wp2_with fail
   refine (uH C _ hB.out).mono ?_
   rintro e w2 ⟨rfl,hb2⟩
   have B2:Hid (Below w.heap.size w w2):=hB.out.trans (hb2.mono hB.out.size)
   clear hb2 C
   go_wp2_with fail
   go_round
   case rel=>exact ⟨k+1,by omega,by go_num,by rw [uH eV],B2⟩
   case measure=>simp [intOf];omega
  ·have hkk:k = n:=by omega
   subst hkk
   go_wp2_with fail
   exact bodyPost_ret (v:=.int .u64 (f k:Nat)) (by simp [results,Tryz.results156,go_sem]) rfl ⟨rfl,hB.out⟩
theorem gatherb_any (fn:Nat) (caps:Array Value) (n:Nat) (f:Nat→Bool) (w:World)
  (hcf:∀ args w,(callFunc fn args).run Tryz.prog w = .ok (.enter fn args) w) (hn:n≤35184372088830)
  (hstep:∀ w' k,Below w.heap.size w w'→k < n→Calls Tryz.prog fn (#[.bool (f k),.int .i64 (k:Nat)] ++ caps) w' fun e w''=>e = .returned (.bool (f (k+1)))∧Below w'.heap.size w' w'') :
  Calls Tryz.prog 176 #[.int .i64 n,.bool (f 0),.func (.func fn) #[] caps] w fun e w'=>e = .returned (.bool (f n))∧Below w.heap.size w w':=by
 have HS:=hide hstep
 clear hstep
 go_enter Tryz.func176,Tryz.ntmps176
 go_wp2_with fail
 go_loopw [7,11] (fun t i wr=>∃ k:Nat,k≤n∧i = .int .i64 k∧t = .bool (f k)∧Hid (Below w.heap.size w wr)) (fun _ i _=>n - (intOf i).toNat)
 case atStart=>exact ⟨0,Nat.zero_le _,rfl,rfl,Below.refl _ _⟩
 case round =>
  obtain ⟨k,hk,rfl,rfl,hB⟩:=hrel
  by_cases hlt:k < n
  ·have hkI:(k:Int) < (n:Int):=by omega
   have C:=hide (fun w' h=>uH HS w' k h hlt)
   obtain ⟨o,eo⟩:∃ o,f (k+1) = o:=⟨_,rfl⟩
   rw [eo] at C
   have eV:=hide eo
   clear eo
   go_wp2_with fail
   refine (uH C _ hB.out).mono ?_
   rintro e w2 ⟨rfl,hb2⟩
   have B2:Hid (Below w.heap.size w w2):=hB.out.trans (hb2.mono hB.out.size)
   clear hb2 C
   go_wp2_with fail
   go_round
   case rel=>exact ⟨k+1,by omega,by go_num,by rw [uH eV],B2⟩
   case measure=>simp [intOf];omega
  ·have hkk:k = n:=by omega
   subst hkk
   go_wp2_with fail
   exact bodyPost_ret (v:=.bool (f k)) (by simp [results,Tryz.results176,go_sem]) rfl ⟨rfl,hB.out⟩
def bitV (x:Nat):Value:=.int .u64 (x:Int)
def RowB (w:World) (g:Nat) (S:List Nat):Prop:=w.heap[g]? = some (.cells (S.map bitV).toArray 69 (0,0))
theorem RowB.cell {w:World} {g:Nat} {S:List Nat} (h:RowB w g S) (j:Nat) (hj:j < S.length):w.cell? ⟨g,j,none⟩ = some (.int .u64 ((S[j]?.getD 0:Nat):Int)):=by
 rw [cell_of_row w g j _ _ _ h]
 simp [bitV,hj]
theorem RowB.free {w:World} {g:Nat} {S:List Nat} (h:RowB w g S) (j:Nat):w.frozen? ⟨g,j,none⟩ = false:=frozen_of_row w g j _ _ h
theorem RowB.set {w:World} {g:Nat} {S:List Nat} (h:RowB w g S) (j x:Nat):RowB (w.setCell ⟨g,j,none⟩ (.int .u64 (x:Int))) g (S.set j x):=by
 unfold RowB
 rw [heap_setCell_same w g j _ _ _ h]
 simp [bitV,List.map_set]
theorem RowB.lt {w:World} {g:Nat} {S:List Nat} (h:RowB w g S):g < w.heap.size:=(Array.getElem?_eq_some_iff.1 h).1
theorem RowB.below {w w':World} {g:Nat} {S:List Nat} (h:RowB w g S) {B:Nat} (hb:Below B w w') (hg:g < B):RowB w' g S:=by
 unfold RowB;rw [hb.block g hg];exact h
theorem RowB.made (w:World) (n:Nat):RowB (w.alloc (.cells (madeCells #[.int .u64 0] n) 69)) w.heap.size (List.replicate n 0):=by
 unfold RowB
 rw [heap_alloc_new w _]
 have:madeCells #[Value.int .u64 0] n = ((List.replicate n 0).map bitV).toArray:=by
  apply Array.toList_inj.1
  refine List.ext_getElem (by simp [madeCells]) fun i h1 h2=>?_
  simp [madeCells,bitV,Nat.mod_one]
 rw [this]
def eaL (f:Nat→Nat) (n k:Nat):List Nat:=(List.range n).map (fun j=>if j < k then f j else 0)
theorem eaL_0 (f:Nat→Nat) (n:Nat):eaL f n 0 = List.replicate n 0:=by
 unfold eaL
 refine List.ext_getElem (by simp) fun i h1 h2=>?_
 simp
theorem eaL_len (f:Nat→Nat) (n k:Nat):(eaL f n k).length = n:=by simp [eaL]
theorem eaL_set (f:Nat→Nat) (n k:Nat):(eaL f n k).set k (f k) = eaL f n (k+1):=by
 unfold eaL
 refine List.ext_getElem (by simp) fun i h1 h2=>?_
 rw [List.getElem_set]
 simp only [List.getElem_map,List.getElem_range]
 by_cases h:k = i
 ·subst h;simp
 ·rw [if_neg h]
  by_cases h3:i < k
  ·rw [if_pos h3,if_pos (by omega)]
  ·rw [if_neg h3,if_neg (by omega)]
theorem eaL_full (f:Nat→Nat) (n:Nat):eaL f n n = (List.range n).map f:=by
 unfold eaL
 refine List.ext_getElem (by simp) fun i h1 h2=>?_
 simp only [List.getElem_map,List.getElem_range]
 rw [if_pos (by simpa using h2)]
theorem each_any (fn:Nat) (caps:Array Value) (n:Nat) (f:Nat→Nat) (w:World)
  (hcf:∀ args w,(callFunc fn args).run Tryz.prog w = .ok (.enter fn args) w) (hn:n≤35184372088830)
  (hstep:∀ w' k,Below w.heap.size w w'→k < n→Calls Tryz.prog fn (#[.int .i64 (k:Nat)] ++ caps) w' fun e w''=>e = .returned (.int .u64 (f k:Nat))∧Below w'.heap.size w' w'') :
  Calls Tryz.prog 269 #[.int .i64 n,.func (.func fn) #[] caps] w fun e w'=>∃ g,e = .returned (.slice (some ⟨g,0,none⟩) n n)∧w.heap.size≤g∧RowB w' g ((List.range n).map f)∧Below w.heap.size w w':=by
 have HS:=hide hstep
 have hmk:=run_make_row' (P:=Tryz.prog) 22 69 (.int .u64 0) 8 Tryz.underlying22 (by kernel_rfl) rfl .i64 .i64 n (by omega) (by omega)
 have HM:=hide (RowB.made w n)
 have HB:=hide ((Below.refl w.heap.size w).alloc (Nat.le_refl _) (.cells (madeCells #[.int .u64 0] n) 69))
 clear hstep
 go_enter Tryz.func269,Tryz.ntmps269
 go_wp2_with fail
 clear hmk
 go_loopw [10] (fun i wr=>∃ k:Nat,k≤n∧i = .int .i64 k∧Hid (RowB wr w.heap.size (eaL f n k))∧Hid (Below w.heap.size w wr)) (fun i _=>n - (intOf i).toNat)
 case atStart=>exact ⟨0,Nat.zero_le _,rfl,by rw [eaL_0];exact HM,HB⟩
 case round =>
  clear HM HB
  obtain ⟨k,hk,rfl,hR,hB⟩:=hrel
  by_cases hlt:k < n
  ·have hkI:(k:Int) < (n:Int):=by omega
   have C:=hide (fun w' h=>uH HS w' k h hlt)
   obtain ⟨o,eo⟩:∃ o,f k = o:=⟨_,rfl⟩
   rw [eo] at C
   have eV:=hide eo
   clear eo
   go_wp2_with fail
   refine (uH C _ hB.out).mono ?_
   rintro e w2 ⟨rfl,hb2⟩
   have hR2:=(uH hR).below hb2 (uH hR).lt
   have c0:=hR2.cell k (by rw [eaL_len];exact hlt)
   have f0:=hR2.free k
   have R3:=hide (hR2.set k o)
   have B2:Below w.heap.size w w2:=hB.out.trans (hb2.mono hB.out.size)
   have B3:=hide (B2.setCell (p:=⟨w.heap.size,k,none⟩) (Nat.le_refl _) (.int .u64 (o:Int)))
   clear hb2 C hR hB B2 hR2
   go_wp2_with fail
   go_round
   case rel=>exact ⟨k+1,by omega,by go_num,by rw [← eaL_set,uH eV];exact R3,B3⟩
   case measure=>simp [intOf];omega
  ·have hkk:k = n:=by omega
   subst hkk
   go_wp2_with fail
   exact bodyPost_ret (v:=.slice (some ⟨w.heap.size,0,none⟩) k k) (by simp [results,Tryz.results269,go_sem]) rfl ⟨_,rfl,Nat.le_refl _,by rw [← eaL_full];exact uH hR,hB.out⟩
end Go.Proofs.YtcbcmlaogehimaaGreatDoor
namespace Go.Proofs.YtcbcmlaogehimaaGreatDoor
open Go.RowKit
attribute [local go_sem ↓] Go.wp_at_zero Go.wp_at_succ
theorem cell_keep {w w':World} {p:Addr} {v:Value} (h:w.cell? p = some v) (hb:Below w.heap.size w w'):w'.cell? p = some v:=by
 rw [hb.cell (World.block_lt_of_cell? w _ h)];exact h
theorem dot1_of (s x y p o k n m c d bx by':Nat) (b1 o1 b2 o2:Nat) (w:World) (hk:k < n) (hm:k < m)
  (h1:w.cell? ⟨bx,0,none⟩ = some (.slice (some ⟨b1,o1,none⟩) n c)) (h2:w.cell? ⟨by',0,none⟩ = some (.slice (some ⟨b2,o2,none⟩) m d))
  (h3:w.cell? ⟨b1,o1+k,none⟩ = some (.int .u64 (x:Nat))) (h4:w.cell? ⟨b2,o2+k,none⟩ = some (.int .u64 (y:Nat)))
  (C1:∀ w',Below w.heap.size w w'→Calls Tryz.prog 203 #[.int .u64 x,.int .u64 y] w' fun r w''=>r = .returned (.int .u64 (p:Nat))∧Below w'.heap.size w' w'')
  (C2:∀ w',Below w.heap.size w w'→Calls Tryz.prog 217 #[.int .u64 s,.int .u64 p] w' fun r w''=>r = .returned (.int .u64 (o:Nat))∧Below w'.heap.size w' w'') :
  Calls Tryz.prog 216 #[.int .u64 s,.int .i64 k,.pointer (some ⟨bx,0,none⟩),.pointer (some ⟨by',0,none⟩)] w fun e w'=>e = .returned (.int .u64 (o:Nat))∧Below w.heap.size w w':=by
 have K1:=hide C1;have K2:=hide C2
 have hkI:(k:Int) < (n:Int):=by omega
 have hkJ:(k:Int) < (m:Int):=by omega
 have HK:=hide (fun w' (h:Below w.heap.size w w')=>(show Below w.heap.size w w'∧w'.cell? ⟨bx,0,none⟩ = some (.slice (some ⟨b1,o1,none⟩) n c)∧w'.cell? ⟨by',0,none⟩ = some (.slice (some ⟨b2,o2,none⟩) m d)∧w'.cell? ⟨b1,o1+k,none⟩ = some (.int .u64 (x:Nat))∧w'.cell? ⟨b2,o2+k,none⟩ = some (.int .u64 (y:Nat)) from
  ⟨h,cell_keep h1 h,cell_keep h2 h,cell_keep h3 h,cell_keep h4 h⟩))
 clear C1 C2 h1 h2 h3 h4
 go_enter Tryz.func216,Tryz.ntmps216
 go_wp2_with fail
 go_region_held3 (fun w'=>Below w.heap.size w w'∧w'.cell? ⟨bx,0,none⟩ = some (.slice (some ⟨b1,o1,none⟩) n c)∧w'.cell? ⟨by',0,none⟩ = some (.slice (some ⟨b2,o2,none⟩) m d)∧w'.cell? ⟨b1,o1+k,none⟩ = some (.int .u64 (x:Nat))∧w'.cell? ⟨b2,o2+k,none⟩ = some (.int .u64 (y:Nat)))
  (first | exact uH HK _ (Below.refl _ _).drew | exact uH HK _ (by assumption) | fail "KK")
  (first | (go_at_call 203;refine (uH K1 _ (And.left (by assumption))).mono ?_;rintro e w1 ⟨rfl,hb1⟩;have hB1:Below w.heap.size w w1:=Below.trans (And.left (by assumption)) (hb1.mono (Below.size (And.left (by assumption))));clear hb1) | (go_at_call 217;refine (uH K2 _ (And.left (by assumption))).mono ?_;rintro e w2 ⟨rfl,hb2⟩;have hB2:Below w.heap.size w w2:=Below.trans (And.left (by assumption)) (hb2.mono (Below.size (And.left (by assumption))));clear hb2) | fail "NO ARM")
 go_wp2
 go_ret
 exact ⟨rfl,And.left (by assumption)⟩
theorem norm1_of (x o k n c bx bk:Nat) (j:Int) (b1 o1:Nat) (w:World) (hk:k < n) (hj:-5000≤j∧j≤5000)
  (h1:w.cell? ⟨bx,0,none⟩ = some (.slice (some ⟨b1,o1,none⟩) n c)) (h5:w.cell? ⟨bk,0,none⟩ = some (.int .i64 j))
  (h3:w.cell? ⟨b1,o1+k,none⟩ = some (.int .u64 (x:Nat)))
  (C1:∀ w',Below w.heap.size w w'→Calls Tryz.prog 97 #[.int .u64 x,.int .i64 (-j)] w' fun r w''=>r = .returned (.int .u64 (o:Nat))∧Below w'.heap.size w' w'') :
  Calls Tryz.prog 270 #[.int .i64 k,.pointer (some ⟨bx,0,none⟩),.pointer (some ⟨bk,0,none⟩)] w fun e w'=>e = .returned (.int .u64 (o:Nat))∧Below w.heap.size w w':=by
 have K1:=hide C1
 have hkI:(k:Int) < (n:Int):=by omega
 have hw:IntKind.i64.wrap (-j) = -j:=by simp only [IntKind.wrap_i64];omega
 have HK:=hide (fun w' (h:Below w.heap.size w w')=>(show Below w.heap.size w w'∧w'.cell? ⟨bx,0,none⟩ = some (.slice (some ⟨b1,o1,none⟩) n c)∧w'.cell? ⟨b1,o1+k,none⟩ = some (.int .u64 (x:Nat))∧w'.cell? ⟨bk,0,none⟩ = some (.int .i64 j) from
  ⟨h,cell_keep h1 h,cell_keep h3 h,cell_keep h5 h⟩))
 clear C1 h1 h3 h5
 go_enter Tryz.func270,Tryz.ntmps270
 go_wp2_with fail
 go_region_held3 (fun w'=>Below w.heap.size w w'∧w'.cell? ⟨bx,0,none⟩ = some (.slice (some ⟨b1,o1,none⟩) n c)∧w'.cell? ⟨b1,o1+k,none⟩ = some (.int .u64 (x:Nat))∧w'.cell? ⟨bk,0,none⟩ = some (.int .i64 j))
  (first | exact uH HK _ (Below.refl _ _).drew | exact uH HK _ (by assumption) | fail "KK")
  (first | (go_at_call 97;refine (uH K1 _ (And.left (by assumption))).mono ?_;rintro e w1 ⟨rfl,hb1⟩;have hB1:Below w.heap.size w w1:=Below.trans (And.left (by assumption)) (hb1.mono (Below.size (And.left (by assumption))));clear hb1) | fail "NO ARM")
 go_wp2
 go_ret
 exact ⟨rfl,And.left (by assumption)⟩
theorem biggest1_of (m x r o k n c bx:Nat) (b1 o1:Nat) (w:World) (hk:k < n)
  (h1:w.cell? ⟨bx,0,none⟩ = some (.slice (some ⟨b1,o1,none⟩) n c))
  (h3:w.cell? ⟨b1,o1+k,none⟩ = some (.int .u64 (x:Nat)))
  (C1:∀ w',Below w.heap.size w w'→Calls Tryz.prog 102 #[.int .u64 x] w' fun e w''=>e = .returned (.int .u64 (r:Nat))∧Below w'.heap.size w' w'')
  (C2:∀ w',Below w.heap.size w w'→Calls Tryz.prog 158 #[.int .u64 m,.int .u64 r] w' fun e w''=>e = .returned (.int .u64 (o:Nat))∧Below w'.heap.size w' w'') :
  Calls Tryz.prog 157 #[.int .u64 m,.int .i64 k,.pointer (some ⟨bx,0,none⟩)] w fun e w'=>e = .returned (.int .u64 (o:Nat))∧Below w.heap.size w w':=by
 have K1:=hide C1;have K2:=hide C2
 have hkI:(k:Int) < (n:Int):=by omega
 clear C1 C2
 go_enter Tryz.func157,Tryz.ntmps157
 go_wp2_with fail
 refine (uH K1 _ (Below.refl _ _)).mono ?_
 rintro e w1 ⟨rfl,hb1⟩
 have B1:=hide hb1
 clear K1 hb1
 go_wp2_with fail
 refine (uH K2 _ (uH B1)).mono ?_
 rintro e w2 ⟨rfl,hb2⟩
 clear K2
 go_wp2
 go_ret
 exact ⟨rfl,(uH B1).trans (hb2.mono (uH B1).size)⟩
theorem finite1_of (q r:Bool) (x k n c bx:Nat) (b1 o1:Nat) (w:World) (hk:k < n)
  (h1:w.cell? ⟨bx,0,none⟩ = some (.slice (some ⟨b1,o1,none⟩) n c))
  (h3:w.cell? ⟨b1,o1+k,none⟩ = some (.int .u64 (x:Nat)))
  (C1:∀ w',Below w.heap.size w w'→Calls Tryz.prog 118 #[.int .u64 x] w' fun e w''=>e = .returned (.bool r)∧Below w'.heap.size w' w'') :
  Calls Tryz.prog 177 #[.bool q,.int .i64 k,.pointer (some ⟨bx,0,none⟩)] w fun e w'=>e = .returned (.bool (q && r))∧Below w.heap.size w w':=by
 have K1:=hide C1
 have hkI:(k:Int) < (n:Int):=by omega
 clear C1
 cases q
 ·go_enter Tryz.func177,Tryz.ntmps177
  go_wp2
  go_ret
  exact ⟨rfl,Below.refl _ _⟩
 ·go_enter Tryz.func177,Tryz.ntmps177
  go_wp2_with fail
  refine (uH K1 _ (Below.refl _ _)).mono ?_
  rintro e w1 ⟨rfl,hb1⟩
  clear K1
  go_wp2
  go_ret
  exact ⟨rfl,hb1⟩
end Go.Proofs.YtcbcmlaogehimaaGreatDoor
namespace Go.Proofs.YtcbcmlaogehimaaGreatDoor
open Go.RowKit
attribute [local go_sem ↓] Go.wp_at_zero Go.wp_at_succ
theorem new_cell (w:World) (x:Value) (t:TypeId):(w.alloc (.cells #[x] t)).cell? ⟨w.heap.size,0,none⟩ = some x:=by
 rw [cell_of_row _ _ 0 _ _ _ (heap_alloc_new w _)];rfl
theorem size_alloc9 (w:World) (o:Obj):(w.alloc o).heap.size = w.heap.size+1:=by simp
theorem below_alloc9 (w:World) (o:Obj):Below w.heap.size w (w.alloc o):=(Below.refl _ _).alloc (Nat.le_refl _) o
theorem BitsAt.lt {w:World} {ao:Option Addr} {cap:Nat} {I:List Int} (h:BitsAt w ao cap I) (j:Nat):atB I j < 18446744073709551616:=(h.wf j).2
def dtK (I J:List Int):Nat→Nat
 | 0=>0
 | k+1=>aV (dtK I J k) (mV (atB I k) (atB J k))
def bgK (I:List Int):Nat→Nat
 | 0=>0
 | k+1=>mx (bgK I k) (fR (atB I k))
def fnK (I:List Int):Nat→Bool
 | 0=>true
 | k+1=>fnK I k && fFin (atB I k)
theorem dtK_lt (I J:List Int) (k:Nat):dtK I J k < 18446744073709551616:=by
 induction k with
 | zero=>show 0 < 18446744073709551616;omega
 | succ k ih=>exact aV_lt _ _ ih (mV_lt _ _)
theorem mx_lt (a b:Nat) (ha:a < 18446744073709551616) (hb:b < 18446744073709551616):mx a b < 18446744073709551616:=by
 unfold mx
 repeat' split
 all_goals omega
theorem bgK_lt (I:List Int) (k:Nat):bgK I k < 18446744073709551616:=by
 induction k with
 | zero=>show 0 < 18446744073709551616;omega
 | succ k ih=>exact mx_lt _ _ ih (by have:=fR_lt (atB I k);omega)
theorem dot_of (ao bo:Option Addr) (n m c d r:Nat) (w:World)
  (C:Calls Tryz.prog 156 #[.int .i64 n,.int .u64 0,.func (.func 216) #[] #[.pointer (some ⟨w.heap.size,0,none⟩),.pointer (some ⟨w.heap.size+1,0,none⟩)]] ((w.alloc (.cells #[.slice ao n c] 22)).alloc (.cells #[.slice bo m d] 22)) fun e w''=>e = .returned (.int .u64 (r:Nat))∧Below w.heap.size w w'') :
  Calls Tryz.prog 185 #[.slice ao n c,.slice bo m d] w fun e w'=>e = .returned (.int .u64 (r:Nat))∧Below w.heap.size w w':=by
 have K:=hide C
 clear C
 go_enter Tryz.func185,Tryz.ntmps185
 go_wp2_with fail
 refine Calls.mono (uH K) ?_
 rintro e w1 ⟨rfl,hb1⟩
 clear K
 go_wp2
 go_ret
 exact ⟨rfl,hb1⟩
theorem cfDot1 (args:Array Value) (w:World):(callFunc 216 args).run Tryz.prog w = .ok (.enter 216 args) w:=by
 simp only [callFunc,go_sem]
 rfl
theorem dot_any (ao bo:Option Addr) (c d:Nat) (I J:List Int) (w:World) (hI:BitsAt w ao c I) (hJ:BitsAt w bo d J) (hl:I.length = J.length) (hn:I.length≤35184372088830) (hT:Tab w) :
  Calls Tryz.prog 185 #[.slice ao I.length c,.slice bo J.length d] w fun e w'=>e = .returned (.int .u64 (dtK I J I.length:Nat))∧Below w.heap.size w w':=by
 refine dot_of _ _ _ _ _ _ _ w ?_
 have b1:=below_alloc9 w (.cells #[.slice ao I.length c] 22)
 have x1:=new_cell w (.slice ao I.length c) 22
 have s1:=size_alloc9 w (.cells #[.slice ao I.length c] 22)
 generalize w.alloc (.cells #[.slice ao I.length c] 22) = w1 at *
 have b2:=below_alloc9 w1 (.cells #[.slice bo J.length d] 22)
 have x2:=new_cell w1 (.slice bo J.length d) 22
 have y1:=cell_keep x1 b2
 generalize w1.alloc (.cells #[.slice bo J.length d] 22) = w2 at *
 have bb:Below w.heap.size w w2:=b1.trans (b2.mono b1.size)
 rw [s1] at x2
 refine Calls.mono (gatherB_any 216 #[.pointer (some ⟨w.heap.size,0,none⟩),.pointer (some ⟨w.heap.size+1,0,none⟩)] I.length (dtK I J) w2 cfDot1 hn ?_) ?_
 ·intro w' k hb hk
  have hb':Below w.heap.size w w':=bb.trans (hb.mono bb.size)
  obtain ⟨g1,o1,e1,_,z1⟩:=(hI.below hb').ne (by omega)
  obtain ⟨g2,o2,e2,_,z2⟩:=(hJ.below hb').ne (by omega)
  have u1:=cell_keep y1 hb
  have u2:=cell_keep x2 hb
  rw [e1] at u1
  rw [e2] at u2
  have T':=hT.all hb'
  exact dot1_of (dtK I J k) (atB I k) (atB J k) (mV (atB I k) (atB J k)) (dtK I J (k+1)) k I.length J.length c d w.heap.size (w.heap.size+1) g1 o1 g2 o2 w' hk (by omega) u1 u2 (z1 k hk) (z2 k (by omega))
   (fun w'' h=>vmul_any _ _ w'' (hI.lt k) (hJ.lt k) (T'.all h)) (fun w'' h=>vadd_any _ _ w'' (dtK_lt I J k) (mV_lt _ _) (T'.all h))
 ·rintro e w' ⟨rfl,hb⟩
  exact ⟨rfl,bb.trans (hb.mono bb.size)⟩
theorem dotF_ok (ao bo:Option Addr) (n m c d r:Nat) (w:World)
  (F:∀ w',Calls Tryz.prog 184 #[.slice ao n c,.slice bo m d] w' fun e w''=>e = .returned (.bool true)∧w' = w'')
  (C:Calls Tryz.prog 185 #[.slice ao n c,.slice bo m d] w fun e w''=>e = .returned (.int .u64 (r:Nat))∧Below w.heap.size w w'') :
  Calls Tryz.prog 136 #[.slice ao n c,.slice bo m d] w fun e w'=>e = .returned (.tuple #[.int .u64 (r:Nat),.int .i64 0])∧Below w.heap.size w w':=by
 have K:=hide C;have L:=hide F
 clear C F
 go_enter Tryz.func136,Tryz.ntmps136
 go_wp2_with fail
 refine (uH L _).mono ?_
 rintro e w1 ⟨rfl,rfl⟩
 go_wp2_with fail
 refine Calls.mono (uH K) ?_
 rintro e w1 ⟨rfl,hb1⟩
 clear K L
 go_wp2
 exact bodyPost_ret (v:=.tuple #[.int .u64 (r:Nat),.int .i64 0]) (by simp [results,Tryz.results136,go_sem]) rfl ⟨rfl,hb1⟩
theorem dotF_no (ao bo:Option Addr) (n m c d:Nat) (w:World)
  (F:∀ w',Calls Tryz.prog 184 #[.slice ao n c,.slice bo m d] w' fun e w''=>e = .returned (.bool false)∧w' = w'') :
  Calls Tryz.prog 136 #[.slice ao n c,.slice bo m d] w fun e w'=>e = .returned (.tuple #[.int .u64 0,.int .i64 3])∧Below w.heap.size w w':=by
 have L:=hide F
 clear F
 go_enter Tryz.func136,Tryz.ntmps136
 go_wp2_with fail
 refine (uH L _).mono ?_
 rintro e w1 ⟨rfl,rfl⟩
 clear L
 go_wp2
 exact bodyPost_ret (v:=.tuple #[.int .u64 0,.int .i64 3]) (by simp [results,Tryz.results136,go_sem]) rfl ⟨rfl,Below.refl _ _⟩
def goB (I J:List Int):Bool:=decide (I.length≤64∧I.length = J.length)
theorem vDot_any (ao bo:Option Addr) (c d:Nat) (I J:List Int) (w:World) (hI:BitsAt w ao c I) (hJ:BitsAt w bo d J) (hT:Tab w) :
  Calls Tryz.prog 136 #[.slice ao I.length c,.slice bo J.length d] w fun e w'=>e = .returned (.tuple #[.int .u64 (if goB I J = true then dtK I J I.length else 0:Nat),.int .i64 (if goB I J = true then 0 else 3)])∧Below w.heap.size w w':=by
 have F:=fun w'=>vfit_any ao bo I.length J.length c d w'
 cases h:goB I J
 ·unfold goB at h
  rw [h] at F
  exact dotF_no ao bo _ _ c d w F
 ·unfold goB at h
  rw [h] at F
  have h':=of_decide_eq_true h
  exact dotF_ok ao bo _ _ c d _ w F (dot_any ao bo c d I J w hI hJ h'.2 (by omega) hT)
theorem RowB.bits {w:World} {g:Nat} {S:List Nat} (h:RowB w g S) (hf:∀ x ∈ S,x < 18446744073709551616):BitsAt w (some ⟨g,0,none⟩) S.length (S.map (fun x:Nat=>(x:Int))):=by
 refine ⟨by simp,?_,.inr ⟨g,0,rfl,h.lt,fun i hi=>?_⟩⟩
 ·intro x hx
  obtain ⟨y,hy,rfl⟩:=List.mem_map.1 hx
  have:=hf y hy
  omega
 ·have hi':i < S.length:=by simpa using hi
  rw [Nat.zero_add,h.cell i hi']
  simp [hi']
def mkL (n:Nat) (f:Nat→Nat):List Int:=((List.range n).map f).map (fun x:Nat=>(x:Int))
theorem mkL_len (n:Nat) (f:Nat→Nat):(mkL n f).length = n:=by simp [mkL]
theorem mkL_at (n:Nat) (f:Nat→Nat) (j:Nat) (hj:j < n):atB (mkL n f) j = f j:=by simp [mkL,atB,hj]
theorem cfBiggest1 (args:Array Value) (w:World):(callFunc 157 args).run Tryz.prog w = .ok (.enter 157 args) w:=by
 simp only [callFunc,go_sem]
 rfl
theorem cfFinite1 (args:Array Value) (w:World):(callFunc 177 args).run Tryz.prog w = .ok (.enter 177 args) w:=by
 simp only [callFunc,go_sem]
 rfl
theorem cfNorm1 (args:Array Value) (w:World):(callFunc 270 args).run Tryz.prog w = .ok (.enter 270 args) w:=by
 simp only [callFunc,go_sem]
 rfl
end Go.Proofs.YtcbcmlaogehimaaGreatDoor
namespace Go.Proofs.YtcbcmlaogehimaaGreatDoor
open Go.RowKit
attribute [local go_sem ↓] Go.wp_at_zero Go.wp_at_succ
theorem order_ways9 (a b:Nat) :
  ∃ l q,((cO a b = 0∧cB a b = false∧l = false∧q = false) ∨ (cO a b = -1∧cB a b = true∧l = true∧q = false) ∨ (cO a b = 0∧cB a b = true∧l = false∧q = true) ∨ (cO a b = 1∧cB a b = true∧l = false∧q = false))∧cM a b l (cB a b) = mx a b:=by
 by_cases h:fK a = 4 ∨ fK b = 4
 ·have e1:cO a b = 0:=by unfold cO;rw [if_pos h]
  have e2:cB a b = false:=by unfold cB;rw [if_pos h]
  refine ⟨false,false,.inl ⟨e1,e2,rfl,rfl⟩,?_⟩
  unfold mx cM
  rw [if_pos h,if_pos e2]
 ·have e1:cO a b = cmpI (fZ a) (fZ b):=by unfold cO;rw [if_neg h]
  have e2:cB a b = true:=by unfold cB;rw [if_neg h]
  have em:mx a b = if fZ a < fZ b then b else a:=by unfold mx;rw [if_neg h]
  have ec:∀ l,cM a b l true = if l = true then b else a:=fun l=>by unfold cM;rw [if_neg (by decide)]
  rw [e1,e2,em]
  rcases (show fZ a < fZ b ∨ fZ a = fZ b ∨ fZ b < fZ a by omega) with g | g | g
  ·exact ⟨true,false,.inr (.inl ⟨cmpI8_lt g,rfl,rfl,rfl⟩),by rw [ec,if_pos rfl,if_pos g]⟩
  ·have g':¬ fZ a < fZ b:=by omega
   exact ⟨false,true,.inr (.inr (.inl ⟨cmpI8_eq g,rfl,rfl,rfl⟩)),by rw [ec,if_neg (by decide),if_neg g']⟩
  ·have g':¬ fZ a < fZ b:=by omega
   exact ⟨false,false,.inr (.inr (.inr ⟨cmpI8_gt g,rfl,rfl,rfl⟩)),by rw [ec,if_neg (by decide),if_neg g']⟩
theorem cmax_any (a b:Nat) (w:World) (ha:a < 18446744073709551616) (hb:b < 18446744073709551616) :
  Calls Tryz.prog 158 #[.int .u64 a,.int .u64 b] w fun r w'=>r = .returned (.int .u64 (mx a b:Nat))∧Below w.heap.size w w':=by
 obtain ⟨l,q,h,e⟩:=order_ways9 a b
 rw [← e]
 exact max_of a b _ _ l q w h (fun w'=>corder_any a b w' ha hb)
theorem r8max_any (a b:Nat) (w:World) (ha:a < 18446744073709551616) (hb:b < 18446744073709551616) :
  Calls Tryz.prog 141 #[.int .u64 a,.int .u64 b] w fun r w'=>r = .returned (.int .u64 (mx a b:Nat))∧Below w.heap.size w w':=by
 obtain ⟨l,q,h,e⟩:=order_ways9 a b
 rw [← e]
 exact rmax_of a b _ _ l q w h (fun w'=>rorder_any a b w' ha hb)
theorem biggest_of (ao:Option Addr) (n c r:Nat) (w:World)
  (C:Calls Tryz.prog 156 #[.int .i64 n,.int .u64 0,.func (.func 157) #[] #[.pointer (some ⟨w.heap.size,0,none⟩)]] (w.alloc (.cells #[.slice ao n c] 22)) fun e w''=>e = .returned (.int .u64 (r:Nat))∧Below w.heap.size w w'') :
  Calls Tryz.prog 98 #[.slice ao n c] w fun e w'=>e = .returned (.int .u64 (r:Nat))∧Below w.heap.size w w':=by
 have K:=hide C
 clear C
 go_enter Tryz.func98,Tryz.ntmps98
 go_wp2_with fail
 refine Calls.mono (uH K) ?_
 rintro e w1 ⟨rfl,hb1⟩
 clear K
 go_wp2
 go_ret
 exact ⟨rfl,hb1⟩
theorem vBiggest_any (ao:Option Addr) (c:Nat) (I:List Int) (w:World) (hI:BitsAt w ao c I) (hn:I.length≤35184372088830) :
  Calls Tryz.prog 98 #[.slice ao I.length c] w fun e w'=>e = .returned (.int .u64 (bgK I I.length:Nat))∧Below w.heap.size w w':=by
 refine biggest_of ao _ c _ w ?_
 have b1:=below_alloc9 w (.cells #[.slice ao I.length c] 22)
 have x1:=new_cell w (.slice ao I.length c) 22
 generalize w.alloc (.cells #[.slice ao I.length c] 22) = w1 at *
 refine Calls.mono (gatherB_any 157 #[.pointer (some ⟨w.heap.size,0,none⟩)] I.length (bgK I) w1 cfBiggest1 hn ?_) ?_
 ·intro w' k hb hk
  have hb':Below w.heap.size w w':=b1.trans (hb.mono b1.size)
  obtain ⟨g1,o1,e1,_,z1⟩:=(hI.below hb').ne (by omega)
  have u1:=cell_keep x1 hb
  rw [e1] at u1
  exact biggest1_of (bgK I k) (atB I k) (fR (atB I k)) (bgK I (k+1)) k I.length c w.heap.size g1 o1 w' hk u1 (z1 k hk)
   (fun w'' h=>cabs_any _ w'' (hI.lt k)) (fun w'' h=>cmax_any _ _ w'' (bgK_lt I k) (by have:=fR_lt (atB I k);omega))
 ·rintro e w' ⟨rfl,hb⟩
  exact ⟨rfl,b1.trans (hb.mono b1.size)⟩
theorem finite_of (ao:Option Addr) (n c:Nat) (r:Bool) (w:World)
  (C:Calls Tryz.prog 176 #[.int .i64 n,.bool true,.func (.func 177) #[] #[.pointer (some ⟨w.heap.size,0,none⟩)]] (w.alloc (.cells #[.slice ao n c] 22)) fun e w''=>e = .returned (.bool r)∧Below w.heap.size w w'') :
  Calls Tryz.prog 125 #[.slice ao n c] w fun e w'=>e = .returned (.bool r)∧Below w.heap.size w w':=by
 have K:=hide C
 clear C
 go_enter Tryz.func125,Tryz.ntmps125
 go_wp2_with fail
 refine Calls.mono (uH K) ?_
 rintro e w1 ⟨rfl,hb1⟩
 clear K
 go_wp2
 go_ret
 exact ⟨rfl,hb1⟩
theorem vFinite_any (ao:Option Addr) (c:Nat) (I:List Int) (w:World) (hI:BitsAt w ao c I) (hn:I.length≤35184372088830) :
  Calls Tryz.prog 125 #[.slice ao I.length c] w fun e w'=>e = .returned (.bool (fnK I I.length))∧Below w.heap.size w w':=by
 refine finite_of ao _ c _ w ?_
 have b1:=below_alloc9 w (.cells #[.slice ao I.length c] 22)
 have x1:=new_cell w (.slice ao I.length c) 22
 generalize w.alloc (.cells #[.slice ao I.length c] 22) = w1 at *
 refine Calls.mono (gatherb_any 177 #[.pointer (some ⟨w.heap.size,0,none⟩)] I.length (fnK I) w1 cfFinite1 hn ?_) ?_
 ·intro w' k hb hk
  have hb':Below w.heap.size w w':=b1.trans (hb.mono b1.size)
  obtain ⟨g1,o1,e1,_,z1⟩:=(hI.below hb').ne (by omega)
  have u1:=cell_keep x1 hb
  rw [e1] at u1
  exact finite1_of (fnK I k) (fFin (atB I k)) (atB I k) k I.length c w.heap.size g1 o1 w' hk u1 (z1 k hk) (fun w'' h=>sfinite_any _ w'' (hI.lt k))
 ·rintro e w' ⟨rfl,hb⟩
  exact ⟨rfl,b1.trans (hb.mono b1.size)⟩
theorem psqrt_of (s r:Nat) (f:Int) (w:World) (C:∀ w',Below w.heap.size w w'→Calls Tryz.prog 271 #[.int .u64 s] w' fun e w''=>e = .returned (.tuple #[.int .u64 (r:Nat),.int .u8 f])∧Below w'.heap.size w' w'') :
  Calls Tryz.prog 242 #[.int .u64 s] w fun e w'=>e = .returned (.int .u64 (r:Nat))∧Below w.heap.size w w':=by
 have K:=hide C
 clear C
 go_enter Tryz.func242,Tryz.ntmps242
 go_wp2_with fail
 refine (uH K _ (Below.refl _ _)).mono ?_
 rintro e w1 ⟨rfl,hb1⟩
 clear K
 go_wp2
 go_ret
 exact ⟨rfl,hb1⟩
theorem normBy_of (ao:Option Addr) (n c s r o:Nat) (k f:Int) (w:World) (Z:World→Nat→Prop) (_ZS:∀ w' w'' g,Z w' g→Below w'.heap.size w' w''→Z w'' g)
  (C1:Calls Tryz.prog 269 #[.int .i64 n,.func (.func 270) #[] #[.pointer (some ⟨w.heap.size,0,none⟩),.pointer (some ⟨w.heap.size+1,0,none⟩)]] ((w.alloc (.cells #[.slice ao n c] 22)).alloc (.cells #[.int .i64 k] 3)) fun e w''=>∃ g,e = .returned (.slice (some ⟨g,0,none⟩) n n)∧Z w'' g∧Below w.heap.size w w''∧w''.cell? ⟨w.heap.size+1,0,none⟩ = some (.int .i64 k))
  (C2:∀ w' g,Z w' g→Below w.heap.size w w'→Calls Tryz.prog 185 #[.slice (some ⟨g,0,none⟩) n n,.slice (some ⟨g,0,none⟩) n n] w' fun e w''=>e = .returned (.int .u64 (s:Nat))∧Below w'.heap.size w' w'')
  (C3:∀ w',Below w.heap.size w w'→Calls Tryz.prog 271 #[.int .u64 s] w' fun e w''=>e = .returned (.tuple #[.int .u64 (r:Nat),.int .u8 f])∧Below w'.heap.size w' w'')
  (C4:∀ w',Below w.heap.size w w'→Calls Tryz.prog 97 #[.int .u64 r,.int .i64 k] w' fun e w''=>e = .returned (.int .u64 (o:Nat))∧Below w'.heap.size w' w'') :
  Calls Tryz.prog 241 #[.slice ao n c,.int .i64 k] w fun e w'=>e = .returned (.int .u64 (o:Nat))∧Below w.heap.size w w':=by
 have K1:=hide C1;have K2:=hide C2;have K3:=hide (fun w' (hb:Below w.heap.size w w')=>psqrt_of s r f w' (fun w'' hb2=>C3 w'' (hb.trans (hb2.mono hb.size))));have K4:=hide C4
 clear C1 C2 C3 C4
 go_enter Tryz.func241,Tryz.ntmps241
 go_wp2_with fail
 refine Calls.mono (uH K1) ?_
 rintro e w1 ⟨g,rfl,hz,hb1,hc⟩
 have B:=hide hb1;have HZ:=hide hz;have HC:=hide hc
 clear K1 hb1 hz hc
 go_wp2_with fail
 have ZS:=hide _ZS
 clear _ZS
 refine at_world (fun W=>Below w.heap.size w W∧Z W g∧W.cell? ⟨w.heap.size+1,0,none⟩ = some (.int .i64 k)) ⟨uH B,uH HZ,uH HC⟩ ?_
 clear B HZ HC
 rintro W0 ⟨bb,zz,cc⟩
 have HK:=hide (fun w' (h:Below W0.heap.size W0 w')=>(show Below W0.heap.size W0 w'∧w'.cell? ⟨w.heap.size+1,0,none⟩ = some (.int .i64 k) from ⟨h,cell_keep cc h⟩))
 have HW:=hide (fun w' (h:Below W0.heap.size W0 w')=>bb.trans (h.mono bb.size))
 have HZ:=hide (fun w' (h:Below W0.heap.size W0 w')=>uH ZS _ _ _ zz h)
 clear bb zz cc ZS
 go_region_held3 (fun w'=>Below W0.heap.size W0 w'∧w'.cell? ⟨w.heap.size+1,0,none⟩ = some (.int .i64 k))
  (first | exact uH HK _ (Below.refl _ _).drew | exact uH HK _ (by assumption) | fail "KK")
  (first
   | (go_at_call 185;refine (uH K2 _ _ (uH HZ _ (And.left (by assumption))) (uH HW _ (And.left (by assumption)))).mono ?_;rintro e wa ⟨rfl,hb1⟩;have hBa:Below W0.heap.size W0 wa:=Below.trans (And.left (by assumption)) (hb1.mono (Below.size (And.left (by assumption))));clear hb1)
   | (go_at_call 242;refine (uH K3 _ (uH HW _ (And.left (by assumption)))).mono ?_;rintro e wb ⟨rfl,hb1⟩;have hBb:Below W0.heap.size W0 wb:=Below.trans (And.left (by assumption)) (hb1.mono (Below.size (And.left (by assumption))));clear hb1)
   | (go_at_call 97;refine (uH K4 _ (uH HW _ (And.left (by assumption)))).mono ?_;rintro e wc ⟨rfl,hb1⟩;have hBc:Below W0.heap.size W0 wc:=Below.trans (And.left (by assumption)) (hb1.mono (Below.size (And.left (by assumption))));clear hb1)
   | fail "NO ARM")
 all_goals
  have hn:Below W0.heap.size W0 wc:=And.left (by assumption)
  go_wp2
  go_ret
  exact ⟨rfl,uH HW _ hn⟩
def tL (k:Int) (I:List Int):List Int:=mkL I.length (fun i=>xV (atB I i) (-k))
theorem tL_len (k:Int) (I:List Int):(tL k I).length = I.length:=mkL_len _ _
theorem normBy_any (ao:Option Addr) (c:Nat) (I:List Int) (k:Int) (w:World) (hI:BitsAt w ao c I) (hn:I.length≤64) (hk:-5000≤k∧k≤5000) (hT:Tab w) :
  Calls Tryz.prog 241 #[.slice ao I.length c,.int .i64 k] w fun e w'=>e = .returned (.int .u64 (xV (sV (dtK (tL k I) (tL k I) I.length)) k:Nat))∧Below w.heap.size w w':=by
 refine normBy_of ao _ c (dtK (tL k I) (tL k I) I.length) (sV (dtK (tL k I) (tL k I) I.length)) _ k (sF (dtK (tL k I) (tL k I) I.length)) w (fun w' g=>BitsAt w' (some ⟨g,0,none⟩) I.length (tL k I)) (fun _ _ _ h hb=>h.below hb) ?_ ?_ ?_ ?_
 ·have b0:=below_alloc9 w (.cells #[.slice ao I.length c] 22)
  have x0:=new_cell w (.slice ao I.length c) 22
  have s0:=size_alloc9 w (.cells #[.slice ao I.length c] 22)
  generalize w.alloc (.cells #[.slice ao I.length c] 22) = w0 at *
  have b1:=below_alloc9 w0 (.cells #[.int .i64 k] 3)
  have x1:=new_cell w0 (.int .i64 k) 3
  have y0:=cell_keep x0 b1
  generalize w0.alloc (.cells #[.int .i64 k] 3) = w1 at *
  have bb:Below w.heap.size w w1:=b0.trans (b1.mono b0.size)
  rw [s0] at x1
  refine Calls.mono (each_any 270 #[.pointer (some ⟨w.heap.size,0,none⟩),.pointer (some ⟨w.heap.size+1,0,none⟩)] I.length (fun i=>xV (atB I i) (-k)) w1 cfNorm1 (by omega) ?_) ?_
  ·intro w' j hb hj
   have hb':Below w.heap.size w w':=bb.trans (hb.mono bb.size)
   obtain ⟨g1,o1,e1,_,z1⟩:=(hI.below hb').ne (by omega)
   have u0:=cell_keep y0 hb
   have u1:=cell_keep x1 hb
   rw [e1] at u0
   have T':=hT.all hb'
   exact norm1_of (atB I j) (xV (atB I j) (-k)) j I.length c w.heap.size (w.heap.size+1) k g1 o1 w' hj hk u0 u1 (z1 j hj)
    (fun w'' h=>vscale_any _ _ w'' (hI.lt j) (T'.all h))
  ·rintro e w' ⟨g,rfl,hg,hR,hb⟩
   refine ⟨g,rfl,?_,bb.trans (hb.mono bb.size),cell_keep x1 hb⟩
   have:=hR.bits (fun x hx=>by
    obtain ⟨j,_,rfl⟩:=List.mem_map.1 hx
    exact xV_lt _ _ (hI.lt j))
   simpa [tL,mkL] using this
 ·intro w' g hz hb
  have:=dot_any _ _ _ _ (tL k I) (tL k I) w' hz hz rfl (by rw [tL_len];omega) (hT.all hb)
  rw [tL_len] at this
  exact this
 ·intro w' hb
  exact rsqrt_any _ w' (dtK_lt _ _ _) (hT.all hb)
 ·intro w' hb
  exact vscale_any _ _ w' (sV_lt _ (dtK_lt _ _ _)) (hT.all hb)
end Go.Proofs.YtcbcmlaogehimaaGreatDoor
namespace Go.Proofs.YtcbcmlaogehimaaGreatDoor
open Go.RowKit
attribute [local go_sem ↓] Go.wp_at_zero Go.wp_at_succ
theorem eX_range (a:Nat) (ha:a < 18446744073709551616):-1074≤eX a∧eX a≤1024:=by
 unfold eX
 split
 ·omega
 ·rename_i h
  have fa:=fin_of a (fun e=>h (by omega)) (fun e=>h (by omega))
  obtain ⟨z1,z2,z3,z4,z5,z6,z7,z8,z9⟩:=sc_facts a ha fa (fun e=>h (by omega))
  omega
theorem bgK_form (I:List Int) (k:Nat):bgK I k≤9218868437227405312 ∨ bgK I k = 9221120237041090560:=by
 induction k with
 | zero=>exact .inl (by show 0≤9218868437227405312;omega)
 | succ k ih =>
  show mx (bgK I k) (fR (atB I k))≤9218868437227405312 ∨ mx (bgK I k) (fR (atB I k)) = 9221120237041090560
  have hr:=fR_lt (atB I k)
  generalize atB I k = x at *
  generalize bgK I k = m at *
  by_cases h:fK m = 4 ∨ fK (fR x) = 4
  ·right;unfold mx;rw [if_pos h]
  ·have e:mx m (fR x) = m ∨ mx m (fR x) = fR x:=by
    unfold mx
    rw [if_neg h]
    split
    ·exact .inr rfl
    ·exact .inl rfl
   rcases e with e | e
   ·rw [e];exact ih
   ·rw [e]
    left
    have h1:fR (fR x) = fR x:=(mag_fZ (fR x) hr).2.1
    have h2:=(fK_rungs (fR x)).1
    rw [h1] at h2
    rcases Nat.lt_or_ge 9218868437227405312 (fR x) with g | g
    ·exact absurd (.inr (h2.2 g)) h
    ·exact g
theorem bg_inf:fFin 9218868437227405312 = false∧fFin 9221120237041090560 = false:=by decide
theorem bg_small {m:Nat} (h:m < 9218868437227405312):fFin m = true:=(fK_rungs m).2.2.2 (by rw [(mag_fZ m (by omega)).2.1];exact h)
def nmV (I:List Int):Nat:=if bgK I I.length = 0 ∨ fFin (bgK I I.length) = false then bgK I I.length else xV (sV (dtK (tL (eX (bgK I I.length)) I) (tL (eX (bgK I I.length)) I) I.length)) (eX (bgK I I.length))
theorem nmV_lt (I:List Int):nmV I < 18446744073709551616:=by
 unfold nmV
 split
 ·exact bgK_lt _ _
 ·exact xV_lt _ _ (sV_lt _ (dtK_lt _ _ _))
theorem norm_odd (ao:Option Addr) (n c m:Nat) (w:World) (hn:n≤64) (hm:m = 0 ∨ m = 9218868437227405312 ∨ m = 9221120237041090560)
  (C1:Calls Tryz.prog 98 #[.slice ao n c] w fun e w''=>e = .returned (.int .u64 (m:Nat))∧Below w.heap.size w w'') :
  Calls Tryz.prog 210 #[.slice ao n c] w fun e w'=>e = .returned (.tuple #[.int .u64 (m:Nat),.int .i64 0])∧Below w.heap.size w w':=by
 have h1I:(n:Int)≤64:=by omega
 have K1:=hide C1
 clear C1
 rcases hm with rfl | rfl | rfl
 all_goals
  go_enter Tryz.func210,Tryz.ntmps210
  go_wp2_with fail
  refine Calls.mono (uH K1) ?_
  rintro e w1 ⟨rfl,hb1⟩
  clear K1
  go_wp2
  refine bodyPost_ret (v:=.tuple #[.int .u64 _,.int .i64 0]) (by simp [results,Tryz.results210,go_sem]) rfl ⟨rfl,hb1⟩
theorem norm_even (ao:Option Addr) (n c m o:Nat) (k:Int) (w:World) (hn:n≤64) (h0:m ≠ 0) (h1:m < 9218868437227405312)
  (C1:Calls Tryz.prog 98 #[.slice ao n c] w fun e w''=>e = .returned (.int .u64 (m:Nat))∧Below w.heap.size w w'')
  (C2:∀ w',Below w.heap.size w w'→Calls Tryz.prog 119 #[.int .u64 m] w' fun e w''=>e = .returned (.int .i64 k)∧Below w'.heap.size w' w'')
  (C3:∀ w',Below w.heap.size w w'→Calls Tryz.prog 241 #[.slice ao n c,.int .i64 k] w' fun e w''=>e = .returned (.int .u64 (o:Nat))∧Below w'.heap.size w' w'') :
  Calls Tryz.prog 210 #[.slice ao n c] w fun e w'=>e = .returned (.tuple #[.int .u64 (o:Nat),.int .i64 0])∧Below w.heap.size w w':=by
 have h1I:(n:Int)≤64:=by omega
 have K1:=hide C1;have K2:=hide C2;have K3:=hide C3
 have g0:¬ ((m:Int) = 0):=by omega
 have g1:¬ ((m:Int) = 9218868437227405312):=by omega
 have g2:¬ ((m:Int) = 9221120237041090560):=by omega
 clear C1 C2 C3 h1 h0
 go_enter Tryz.func210,Tryz.ntmps210
 go_wp2_with fail
 refine Calls.mono (uH K1) ?_
 rintro e w1 ⟨rfl,hb1⟩
 have B:=hide hb1
 clear K1 hb1
 go_wp2_with fail
 refine (uH K2 _ (uH B)).mono ?_
 rintro e w2 ⟨rfl,hb2⟩
 have B2:=hide ((uH B).trans (hb2.mono (uH B).size))
 clear K2 hb2 B
 go_wp2_with fail
 refine (uH K3 _ (uH B2)).mono ?_
 rintro e w3 ⟨rfl,hb3⟩
 have B3:=hide ((uH B2).trans (hb3.mono (uH B2).size))
 clear K3 hb3 B2
 go_wp2
 exact bodyPost_ret (v:=.tuple #[.int .u64 (o:Nat),.int .i64 0]) (by simp [results,Tryz.results210,go_sem]) rfl ⟨rfl,uH B3⟩
theorem vNorm_ok (ao:Option Addr) (c:Nat) (I:List Int) (w:World) (hI:BitsAt w ao c I) (hn:I.length≤64) (hT:Tab w) :
  Calls Tryz.prog 210 #[.slice ao I.length c] w fun e w'=>e = .returned (.tuple #[.int .u64 (nmV I:Nat),.int .i64 0])∧Below w.heap.size w w':=by
 have C1:=vBiggest_any ao c I w hI (by omega)
 have hm:=bgK_lt I I.length
 unfold nmV
 by_cases h0:bgK I I.length = 0
 ·rw [if_pos (.inl h0)]
  exact norm_odd ao _ c _ w hn (.inl h0) C1
 rcases bgK_form I I.length with h | h
 ·rcases Nat.lt_or_ge (bgK I I.length) 9218868437227405312 with g | g
  ·rw [if_neg (fun e=>e.elim h0 (fun e=>by rw [bg_small g] at e;cases e))]
   have hr:=eX_range _ hm
   exact norm_even ao _ c _ _ (eX (bgK I I.length)) w hn h0 g C1 (fun w' hb=>cexp_any _ w' hm (hT.all hb)) (fun w' hb=>normBy_any ao c I _ w' (hI.below hb) hn (by omega) (hT.all hb))
  ·have e:bgK I I.length = 9218868437227405312:=by omega
   rw [if_pos (.inr (by rw [e];exact bg_inf.1))]
   exact norm_odd ao _ c _ w hn (.inr (.inl e)) C1
 ·rw [if_pos (.inr (by rw [h];exact bg_inf.2))]
  exact norm_odd ao _ c _ w hn (.inr (.inr h)) C1
end Go.Proofs.YtcbcmlaogehimaaGreatDoor
