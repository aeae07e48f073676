/- Part 28 of the texts. -/
import Derived.Test.YtlnphkioddknfaaGreatDoorPartq27
import Derived.Deep.RegionHeld3
import Derived.Test.YtlnphkioddknfaaGreatDoorPartq26
import Derived.Test.YtlnphkioddknfaaGreatDoorPartq19
import Derived.Test.YtlnphkioddknfaaGreatDoorPartq22
import Derived.Test.YtlnphkioddknfaaGreatDoorPartq17
import Derived.Test.YtlnphkioddknfaaGreatDoorPartq18
import Derived.Deep.Cut
import Derived.BigQuiet
import Derived.Test.YtlnphkioddknfaaGreatDoorPartq16
import Derived.Test.YtlnphkioddknfaaGreatDoorPartq23
import Derived.Test.YtlnphkioddknfaaGreatDoorPartq13
set_option maxHeartbeats 4000000
set_option maxRecDepth 20000
namespace Go.Proofs.YtlnphkioddknfaaGreatDoor
open Go.RowKit
attribute [local go_sem ↓] Go.wp_at_zero Go.wp_at_succ
theorem order_ways9 (a b:Nat) :
  ∃ l q,((cO a b = 0∧cB a b = false∧l = false∧q = false) ∨ (cO a b = -1∧cB a b = true∧l = true∧q = false) ∨ (cO a b = 0∧cB a b = true∧l = false∧q = true) ∨ (cO a b = 1∧cB a b = true∧l = false∧q = false))∧cM a b l (cB a b) = mx a b:=by
 by_cases h:fK a = 4 ∨ fK b = 4
 ·have e1:cO a b = 0:=by unfold cO;rw [if_pos h]
  have e2:cB a b = false:=by unfold cB;rw [if_pos h]
  refine ⟨false,false,.inl ⟨e1,e2,rfl,rfl⟩,?_⟩
  unfold mx cM
  rw [if_pos h,if_pos e2]
 ·have e1:cO a b = cmpI (fZ a) (fZ b):=by unfold cO;rw [if_neg h]
  have e2:cB a b = true:=by unfold cB;rw [if_neg h]
  have em:mx a b = if fZ a < fZ b then b else a:=by unfold mx;rw [if_neg h]
  have ec:∀ l,cM a b l true = if l = true then b else a:=fun l=>by unfold cM;rw [if_neg (by decide)]
  rw [e1,e2,em]
  rcases (show fZ a < fZ b ∨ fZ a = fZ b ∨ fZ b < fZ a by omega) with g | g | g
  ·exact ⟨true,false,.inr (.inl ⟨cmpI8_lt g,rfl,rfl,rfl⟩),by rw [ec,if_pos rfl,if_pos g]⟩
  ·have g':¬ fZ a < fZ b:=by omega
   exact ⟨false,true,.inr (.inr (.inl ⟨cmpI8_eq g,rfl,rfl,rfl⟩)),by rw [ec,if_neg (by decide),if_neg g']⟩
  ·have g':¬ fZ a < fZ b:=by omega
   exact ⟨false,false,.inr (.inr (.inr ⟨cmpI8_gt g,rfl,rfl,rfl⟩)),by rw [ec,if_neg (by decide),if_neg g']⟩
theorem cmax_any (a b:Nat) (w:World) (ha:a < 18446744073709551616) (hb:b < 18446744073709551616) :
  Calls Tryz.prog 115 #[.int .u64 a,.int .u64 b] w fun r w'=>r = .returned (.int .u64 (mx a b:Nat))∧Below w.heap.size w w':=by
 obtain ⟨l,q,h,e⟩:=order_ways9 a b
 rw [← e]
 exact max_of a b _ _ l q w h (fun w'=>corder_any a b w' ha hb)
theorem r8max_any (a b:Nat) (w:World) (ha:a < 18446744073709551616) (hb:b < 18446744073709551616) :
  Calls Tryz.prog 66 #[.int .u64 a,.int .u64 b] w fun r w'=>r = .returned (.int .u64 (mx a b:Nat))∧Below w.heap.size w w':=by
 obtain ⟨l,q,h,e⟩:=order_ways9 a b
 rw [← e]
 exact rmax_of a b _ _ l q w h (fun w'=>rorder_any a b w' ha hb)
theorem biggest_of (ao:Option Addr) (n c r:Nat) (w:World)
  (C:Calls Tryz.prog 113 #[.int .i64 n,.int .u64 0,.func (.func 114) #[] #[.pointer (some ⟨w.heap.size,0,none⟩)]] (w.alloc (.cells #[.slice ao n c] 22)) fun e w''=>e = .returned (.int .u64 (r:Nat))∧Below w.heap.size w w'') :
  Calls Tryz.prog 59 #[.slice ao n c] w fun e w'=>e = .returned (.int .u64 (r:Nat))∧Below w.heap.size w w':=by
 have K:=hide C
 clear C
 go_enter Tryz.func59,Tryz.ntmps59
 go_wp2_with fail
 refine Calls.mono (uH K) ?_
 rintro e w1 ⟨rfl,hb1⟩
 clear K
 go_wp2
 go_ret
 exact ⟨rfl,hb1⟩
theorem vBiggest_any (ao:Option Addr) (c:Nat) (I:List Int) (w:World) (hI:BitsAt w ao c I) (hn:I.length≤35184372088830) :
  Calls Tryz.prog 59 #[.slice ao I.length c] w fun e w'=>e = .returned (.int .u64 (bgK I I.length:Nat))∧Below w.heap.size w w':=by
 refine biggest_of ao _ c _ w ?_
 have b1:=below_alloc9 w (.cells #[.slice ao I.length c] 22)
 have x1:=new_cell w (.slice ao I.length c) 22
 generalize w.alloc (.cells #[.slice ao I.length c] 22) = w1 at *
 refine Calls.mono (gatherB_any 114 #[.pointer (some ⟨w.heap.size,0,none⟩)] I.length (bgK I) w1 cfBiggest1 hn ?_) ?_
 ·intro w' k hb hk
  have hb':Below w.heap.size w w':=b1.trans (hb.mono b1.size)
  obtain ⟨g1,o1,e1,_,z1⟩:=(hI.below hb').ne (by omega)
  have u1:=cell_keep x1 hb
  rw [e1] at u1
  exact biggest1_of (bgK I k) (atB I k) (fR (atB I k)) (bgK I (k+1)) k I.length c w.heap.size g1 o1 w' hk u1 (z1 k hk)
   (fun w'' h=>cabs_any _ w'' (hI.lt k)) (fun w'' h=>cmax_any _ _ w'' (bgK_lt I k) (by have:=fR_lt (atB I k);omega))
 ·rintro e w' ⟨rfl,hb⟩
  exact ⟨rfl,b1.trans (hb.mono b1.size)⟩
theorem finite_of (ao:Option Addr) (n c:Nat) (r:Bool) (w:World)
  (C:Calls Tryz.prog 193 #[.int .i64 n,.bool true,.func (.func 194) #[] #[.pointer (some ⟨w.heap.size,0,none⟩)]] (w.alloc (.cells #[.slice ao n c] 22)) fun e w''=>e = .returned (.bool r)∧Below w.heap.size w w'') :
  Calls Tryz.prog 153 #[.slice ao n c] w fun e w'=>e = .returned (.bool r)∧Below w.heap.size w w':=by
 have K:=hide C
 clear C
 go_enter Tryz.func153,Tryz.ntmps153
 go_wp2_with fail
 refine Calls.mono (uH K) ?_
 rintro e w1 ⟨rfl,hb1⟩
 clear K
 go_wp2
 go_ret
 exact ⟨rfl,hb1⟩
theorem vFinite_any (ao:Option Addr) (c:Nat) (I:List Int) (w:World) (hI:BitsAt w ao c I) (hn:I.length≤35184372088830) :
  Calls Tryz.prog 153 #[.slice ao I.length c] w fun e w'=>e = .returned (.bool (fnK I I.length))∧Below w.heap.size w w':=by
 refine finite_of ao _ c _ w ?_
 have b1:=below_alloc9 w (.cells #[.slice ao I.length c] 22)
 have x1:=new_cell w (.slice ao I.length c) 22
 generalize w.alloc (.cells #[.slice ao I.length c] 22) = w1 at *
 refine Calls.mono (gatherb_any 194 #[.pointer (some ⟨w.heap.size,0,none⟩)] I.length (fnK I) w1 cfFinite1 hn ?_) ?_
 ·intro w' k hb hk
  have hb':Below w.heap.size w w':=b1.trans (hb.mono b1.size)
  obtain ⟨g1,o1,e1,_,z1⟩:=(hI.below hb').ne (by omega)
  have u1:=cell_keep x1 hb
  rw [e1] at u1
  exact finite1_of (fnK I k) (fFin (atB I k)) (atB I k) k I.length c w.heap.size g1 o1 w' hk u1 (z1 k hk) (fun w'' h=>sfinite_any _ w'' (hI.lt k))
 ·rintro e w' ⟨rfl,hb⟩
  exact ⟨rfl,b1.trans (hb.mono b1.size)⟩
theorem psqrt_of (s r:Nat) (f:Int) (w:World) (C:∀ w',Below w.heap.size w w'→Calls Tryz.prog 261 #[.int .u64 s] w' fun e w''=>e = .returned (.tuple #[.int .u64 (r:Nat),.int .u8 f])∧Below w'.heap.size w' w'') :
  Calls Tryz.prog 241 #[.int .u64 s] w fun e w'=>e = .returned (.int .u64 (r:Nat))∧Below w.heap.size w w':=by
 have K:=hide C
 clear C
 go_enter Tryz.func241,Tryz.ntmps241
 go_wp2_with fail
 refine (uH K _ (Below.refl _ _)).mono ?_
 rintro e w1 ⟨rfl,hb1⟩
 clear K
 go_wp2
 go_ret
 exact ⟨rfl,hb1⟩
theorem normBy_of (ao:Option Addr) (n c s r o:Nat) (k f:Int) (w:World) (Z:World→Nat→Prop) (_ZS:∀ w' w'' g,Z w' g→Below w'.heap.size w' w''→Z w'' g)
  (C1:Calls Tryz.prog 286 #[.int .i64 n,.func (.func 287) #[] #[.pointer (some ⟨w.heap.size,0,none⟩),.pointer (some ⟨w.heap.size+1,0,none⟩)]] ((w.alloc (.cells #[.slice ao n c] 22)).alloc (.cells #[.int .i64 k] 3)) fun e w''=>∃ g,e = .returned (.slice (some ⟨g,0,none⟩) n n)∧Z w'' g∧Below w.heap.size w w''∧w''.cell? ⟨w.heap.size+1,0,none⟩ = some (.int .i64 k))
  (C2:∀ w' g,Z w' g→Below w.heap.size w w'→Calls Tryz.prog 216 #[.slice (some ⟨g,0,none⟩) n n,.slice (some ⟨g,0,none⟩) n n] w' fun e w''=>e = .returned (.int .u64 (s:Nat))∧Below w'.heap.size w' w'')
  (C3:∀ w',Below w.heap.size w w'→Calls Tryz.prog 261 #[.int .u64 s] w' fun e w''=>e = .returned (.tuple #[.int .u64 (r:Nat),.int .u8 f])∧Below w'.heap.size w' w'')
  (C4:∀ w',Below w.heap.size w w'→Calls Tryz.prog 58 #[.int .u64 r,.int .i64 k] w' fun e w''=>e = .returned (.int .u64 (o:Nat))∧Below w'.heap.size w' w'') :
  Calls Tryz.prog 281 #[.slice ao n c,.int .i64 k] w fun e w'=>e = .returned (.int .u64 (o:Nat))∧Below w.heap.size w w':=by
 have K1:=hide C1;have K2:=hide C2;have K3:=hide (fun w' (hb:Below w.heap.size w w')=>psqrt_of s r f w' (fun w'' hb2=>C3 w'' (hb.trans (hb2.mono hb.size))));have K4:=hide C4
 clear C1 C2 C3 C4
 go_enter Tryz.func281,Tryz.ntmps281
 go_wp2_with fail
 refine Calls.mono (uH K1) ?_
 rintro e w1 ⟨g,rfl,hz,hb1,hc⟩
 have B:=hide hb1;have HZ:=hide hz;have HC:=hide hc
 clear K1 hb1 hz hc
 go_wp2_with fail
 have ZS:=hide _ZS
 clear _ZS
 refine at_world (fun W=>Below w.heap.size w W∧Z W g∧W.cell? ⟨w.heap.size+1,0,none⟩ = some (.int .i64 k)) ⟨uH B,uH HZ,uH HC⟩ ?_
 clear B HZ HC
 rintro W0 ⟨bb,zz,cc⟩
 have HK:=hide (fun w' (h:Below W0.heap.size W0 w')=>(show Below W0.heap.size W0 w'∧w'.cell? ⟨w.heap.size+1,0,none⟩ = some (.int .i64 k) from ⟨h,cell_keep cc h⟩))
 have HW:=hide (fun w' (h:Below W0.heap.size W0 w')=>bb.trans (h.mono bb.size))
 have HZ:=hide (fun w' (h:Below W0.heap.size W0 w')=>uH ZS _ _ _ zz h)
 clear bb zz cc ZS
 go_region_held3 (fun w'=>Below W0.heap.size W0 w'∧w'.cell? ⟨w.heap.size+1,0,none⟩ = some (.int .i64 k))
  (first | exact uH HK _ (Below.refl _ _).drew | exact uH HK _ (by assumption) | fail "KK")
  (first
   | (go_at_call 216;refine (uH K2 _ _ (uH HZ _ (And.left (by assumption))) (uH HW _ (And.left (by assumption)))).mono ?_;rintro e wa ⟨rfl,hb1⟩;have hBa:Below W0.heap.size W0 wa:=Below.trans (And.left (by assumption)) (hb1.mono (Below.size (And.left (by assumption))));clear hb1)
   | (go_at_call 241;refine (uH K3 _ (uH HW _ (And.left (by assumption)))).mono ?_;rintro e wb ⟨rfl,hb1⟩;have hBb:Below W0.heap.size W0 wb:=Below.trans (And.left (by assumption)) (hb1.mono (Below.size (And.left (by assumption))));clear hb1)
   | (go_at_call 58;refine (uH K4 _ (uH HW _ (And.left (by assumption)))).mono ?_;rintro e wc ⟨rfl,hb1⟩;have hBc:Below W0.heap.size W0 wc:=Below.trans (And.left (by assumption)) (hb1.mono (Below.size (And.left (by assumption))));clear hb1)
   | fail "NO ARM")
 all_goals
  have hn:Below W0.heap.size W0 wc:=And.left (by assumption)
  go_wp2
  go_ret
  exact ⟨rfl,uH HW _ hn⟩
def tL (k:Int) (I:List Int):List Int:=mkL I.length (fun i=>xV (atB I i) (-k))
theorem tL_len (k:Int) (I:List Int):(tL k I).length = I.length:=mkL_len _ _
theorem normBy_any (ao:Option Addr) (c:Nat) (I:List Int) (k:Int) (w:World) (hI:BitsAt w ao c I) (hn:I.length≤64) (hk:-5000≤k∧k≤5000) (hT:Tab w) :
  Calls Tryz.prog 281 #[.slice ao I.length c,.int .i64 k] w fun e w'=>e = .returned (.int .u64 (xV (sV (dtK (tL k I) (tL k I) I.length)) k:Nat))∧Below w.heap.size w w':=by
 refine normBy_of ao _ c (dtK (tL k I) (tL k I) I.length) (sV (dtK (tL k I) (tL k I) I.length)) _ k (sF (dtK (tL k I) (tL k I) I.length)) w (fun w' g=>BitsAt w' (some ⟨g,0,none⟩) I.length (tL k I)) (fun _ _ _ h hb=>h.below hb) ?_ ?_ ?_ ?_
 ·have b0:=below_alloc9 w (.cells #[.slice ao I.length c] 22)
  have x0:=new_cell w (.slice ao I.length c) 22
  have s0:=size_alloc9 w (.cells #[.slice ao I.length c] 22)
  generalize w.alloc (.cells #[.slice ao I.length c] 22) = w0 at *
  have b1:=below_alloc9 w0 (.cells #[.int .i64 k] 3)
  have x1:=new_cell w0 (.int .i64 k) 3
  have y0:=cell_keep x0 b1
  generalize w0.alloc (.cells #[.int .i64 k] 3) = w1 at *
  have bb:Below w.heap.size w w1:=b0.trans (b1.mono b0.size)
  rw [s0] at x1
  refine Calls.mono (each_any 287 #[.pointer (some ⟨w.heap.size,0,none⟩),.pointer (some ⟨w.heap.size+1,0,none⟩)] I.length (fun i=>xV (atB I i) (-k)) w1 cfNorm1 (by omega) ?_) ?_
  ·intro w' j hb hj
   have hb':Below w.heap.size w w':=bb.trans (hb.mono bb.size)
   obtain ⟨g1,o1,e1,_,z1⟩:=(hI.below hb').ne (by omega)
   have u0:=cell_keep y0 hb
   have u1:=cell_keep x1 hb
   rw [e1] at u0
   have T':=hT.all hb'
   exact norm1_of (atB I j) (xV (atB I j) (-k)) j I.length c w.heap.size (w.heap.size+1) k g1 o1 w' hj hk u0 u1 (z1 j hj)
    (fun w'' h=>vscale_any _ _ w'' (hI.lt j) (T'.all h))
  ·rintro e w' ⟨g,rfl,hg,hR,hb⟩
   refine ⟨g,rfl,?_,bb.trans (hb.mono bb.size),cell_keep x1 hb⟩
   have:=hR.bits (fun x hx=>by
    obtain ⟨j,_,rfl⟩:=List.mem_map.1 hx
    exact xV_lt _ _ (hI.lt j))
   simpa [tL,mkL] using this
 ·intro w' g hz hb
  have:=dot_any _ _ _ _ (tL k I) (tL k I) w' hz hz rfl (by rw [tL_len];omega) (hT.all hb)
  rw [tL_len] at this
  exact this
 ·intro w' hb
  exact rsqrt_any _ w' (dtK_lt _ _ _) (hT.all hb)
 ·intro w' hb
  exact vscale_any _ _ w' (sV_lt _ (dtK_lt _ _ _)) (hT.all hb)
end Go.Proofs.YtlnphkioddknfaaGreatDoor
namespace Go.Proofs.YtlnphkioddknfaaGreatDoor
open Go.RowKit
attribute [local go_sem ↓] Go.wp_at_zero Go.wp_at_succ
theorem eX_range (a:Nat) (ha:a < 18446744073709551616):-1074≤eX a∧eX a≤1024:=by
 unfold eX
 split
 ·omega
 ·rename_i h
  have fa:=fin_of a (fun e=>h (by omega)) (fun e=>h (by omega))
  obtain ⟨z1,z2,z3,z4,z5,z6,z7,z8,z9⟩:=sc_facts a ha fa (fun e=>h (by omega))
  omega
theorem bgK_form (I:List Int) (k:Nat):bgK I k≤9218868437227405312 ∨ bgK I k = 9221120237041090560:=by
 induction k with
 | zero=>exact .inl (by show 0≤9218868437227405312;omega)
 | succ k ih =>
  show mx (bgK I k) (fR (atB I k))≤9218868437227405312 ∨ mx (bgK I k) (fR (atB I k)) = 9221120237041090560
  have hr:=fR_lt (atB I k)
  generalize atB I k = x at *
  generalize bgK I k = m at *
  by_cases h:fK m = 4 ∨ fK (fR x) = 4
  ·right;unfold mx;rw [if_pos h]
  ·have e:mx m (fR x) = m ∨ mx m (fR x) = fR x:=by
    unfold mx
    rw [if_neg h]
    split
    ·exact .inr rfl
    ·exact .inl rfl
   rcases e with e | e
   ·rw [e];exact ih
   ·rw [e]
    left
    have h1:fR (fR x) = fR x:=(mag_fZ (fR x) hr).2.1
    have h2:=(fK_rungs (fR x)).1
    rw [h1] at h2
    rcases Nat.lt_or_ge 9218868437227405312 (fR x) with g | g
    ·exact absurd (.inr (h2.2 g)) h
    ·exact g
theorem bg_inf:fFin 9218868437227405312 = false∧fFin 9221120237041090560 = false:=by decide
theorem bg_small {m:Nat} (h:m < 9218868437227405312):fFin m = true:=(fK_rungs m).2.2.2 (by rw [(mag_fZ m (by omega)).2.1];exact h)
def nmV (I:List Int):Nat:=if bgK I I.length = 0 ∨ fFin (bgK I I.length) = false then bgK I I.length else xV (sV (dtK (tL (eX (bgK I I.length)) I) (tL (eX (bgK I I.length)) I) I.length)) (eX (bgK I I.length))
theorem nmV_lt (I:List Int):nmV I < 18446744073709551616:=by
 unfold nmV
 split
 ·exact bgK_lt _ _
 ·exact xV_lt _ _ (sV_lt _ (dtK_lt _ _ _))
theorem norm_odd (ao:Option Addr) (n c m:Nat) (w:World) (hn:n≤64) (hm:m = 0 ∨ m = 9218868437227405312 ∨ m = 9221120237041090560)
  (C1:Calls Tryz.prog 59 #[.slice ao n c] w fun e w''=>e = .returned (.int .u64 (m:Nat))∧Below w.heap.size w w'') :
  Calls Tryz.prog 272 #[.slice ao n c] w fun e w'=>e = .returned (.tuple #[.int .u64 (m:Nat),.int .i64 0])∧Below w.heap.size w w':=by
 have h1I:(n:Int)≤64:=by omega
 have K1:=hide C1
 clear C1
 rcases hm with rfl | rfl | rfl
 all_goals
  go_enter Tryz.func272,Tryz.ntmps272
  go_wp2_with fail
  refine Calls.mono (uH K1) ?_
  rintro e w1 ⟨rfl,hb1⟩
  clear K1
  go_wp2
  refine bodyPost_ret (v:=.tuple #[.int .u64 _,.int .i64 0]) (by simp [results,Tryz.results272,go_sem]) rfl ⟨rfl,hb1⟩
theorem norm_even (ao:Option Addr) (n c m o:Nat) (k:Int) (w:World) (hn:n≤64) (h0:m ≠ 0) (h1:m < 9218868437227405312)
  (C1:Calls Tryz.prog 59 #[.slice ao n c] w fun e w''=>e = .returned (.int .u64 (m:Nat))∧Below w.heap.size w w'')
  (C2:∀ w',Below w.heap.size w w'→Calls Tryz.prog 240 #[.int .u64 m] w' fun e w''=>e = .returned (.int .i64 k)∧Below w'.heap.size w' w'')
  (C3:∀ w',Below w.heap.size w w'→Calls Tryz.prog 281 #[.slice ao n c,.int .i64 k] w' fun e w''=>e = .returned (.int .u64 (o:Nat))∧Below w'.heap.size w' w'') :
  Calls Tryz.prog 272 #[.slice ao n c] w fun e w'=>e = .returned (.tuple #[.int .u64 (o:Nat),.int .i64 0])∧Below w.heap.size w w':=by
 have h1I:(n:Int)≤64:=by omega
 have K1:=hide C1;have K2:=hide C2;have K3:=hide C3
 have g0:¬ ((m:Int) = 0):=by omega
 have g1:¬ ((m:Int) = 9218868437227405312):=by omega
 have g2:¬ ((m:Int) = 9221120237041090560):=by omega
 clear C1 C2 C3 h1 h0
 go_enter Tryz.func272,Tryz.ntmps272
 go_wp2_with fail
 refine Calls.mono (uH K1) ?_
 rintro e w1 ⟨rfl,hb1⟩
 have B:=hide hb1
 clear K1 hb1
 go_wp2_with fail
 refine (uH K2 _ (uH B)).mono ?_
 rintro e w2 ⟨rfl,hb2⟩
 have B2:=hide ((uH B).trans (hb2.mono (uH B).size))
 clear K2 hb2 B
 go_wp2_with fail
 refine (uH K3 _ (uH B2)).mono ?_
 rintro e w3 ⟨rfl,hb3⟩
 have B3:=hide ((uH B2).trans (hb3.mono (uH B2).size))
 clear K3 hb3 B2
 go_wp2
 exact bodyPost_ret (v:=.tuple #[.int .u64 (o:Nat),.int .i64 0]) (by simp [results,Tryz.results272,go_sem]) rfl ⟨rfl,uH B3⟩
theorem vNorm_ok (ao:Option Addr) (c:Nat) (I:List Int) (w:World) (hI:BitsAt w ao c I) (hn:I.length≤64) (hT:Tab w) :
  Calls Tryz.prog 272 #[.slice ao I.length c] w fun e w'=>e = .returned (.tuple #[.int .u64 (nmV I:Nat),.int .i64 0])∧Below w.heap.size w w':=by
 have C1:=vBiggest_any ao c I w hI (by omega)
 have hm:=bgK_lt I I.length
 unfold nmV
 by_cases h0:bgK I I.length = 0
 ·rw [if_pos (.inl h0)]
  exact norm_odd ao _ c _ w hn (.inl h0) C1
 rcases bgK_form I I.length with h | h
 ·rcases Nat.lt_or_ge (bgK I I.length) 9218868437227405312 with g | g
  ·rw [if_neg (fun e=>e.elim h0 (fun e=>by rw [bg_small g] at e;cases e))]
   have hr:=eX_range _ hm
   exact norm_even ao _ c _ _ (eX (bgK I I.length)) w hn h0 g C1 (fun w' hb=>cexp_any _ w' hm (hT.all hb)) (fun w' hb=>normBy_any ao c I _ w' (hI.below hb) hn (by omega) (hT.all hb))
  ·have e:bgK I I.length = 9218868437227405312:=by omega
   rw [if_pos (.inr (by rw [e];exact bg_inf.1))]
   exact norm_odd ao _ c _ w hn (.inr (.inl e)) C1
 ·rw [if_pos (.inr (by rw [h];exact bg_inf.2))]
  exact norm_odd ao _ c _ w hn (.inr (.inr h)) C1
end Go.Proofs.YtlnphkioddknfaaGreatDoor
namespace Go.Proofs.YtlnphkioddknfaaGreatDoor
open Go.RowKit
attribute [local go_sem ↓] Go.wp_at_zero Go.wp_at_succ
theorem r9biggest_any (ao:Option Addr) (c:Nat) (I:List Int) (w:World) (hI:BitsAt w ao c I) (hn:I.length≤35184372088830) :
  Calls Tryz.prog 222 #[.slice ao I.length c] w fun e w'=>e = .returned (.int .u64 (bgK I I.length:Nat))∧Below w.heap.size w w':=by
 have HI:=hide hI
 obtain ⟨n,hnn⟩:∃ n,I.length = n:=⟨_,rfl⟩
 rw [hnn] at hn ⊢
 have HN:=hide hnn
 clear hI hnn
 go_enter Tryz.func222,Tryz.ntmps222
 go_wp2_with fail
 go_loopw [3,4] (fun t i wr=>∃ k:Nat,k≤n∧i = .int .i64 k∧t = .int .u64 (bgK I k:Nat)∧Hid (Below w.heap.size w wr)) (fun _ i _=>n - (intOf i).toNat)
 case atStart=>exact ⟨0,Nat.zero_le _,rfl,rfl,Below.refl _ _⟩
 case round =>
  obtain ⟨k,hk,rfl,rfl,hB⟩:=hrel
  by_cases hlt:k < n
  ·have hkI:(k:Int) < (n:Int):=by omega
   obtain ⟨b,off,hao,hb,hc⟩:=((uH HI).below hB.out).ne (by rw [uH HN];omega)
   have hck:=hc k (by rw [uH HN];exact hlt)
   have C1:=hide (fun w'=>r8abs_any (atB I k) w' ((uH HI).lt k))
   have C2:=hide (fun w'=>r8max_any (bgK I k) (fR (atB I k)) w' (bgK_lt I k) (by have:=fR_lt (atB I k);omega))
   have eV:Hid (bgK I (k+1) = mx (bgK I k) (fR (atB I k))):=rfl
   subst hao
   clear hc
   generalize mx (bgK I k) (fR (atB I k)) = o at *
   generalize fR (atB I k) = r at *
   generalize atB I k = x at *
   generalize bgK I k = tv at *
   go_wp2_with fail
   refine (uH C1 _).mono ?_
   rintro e w2 ⟨rfl,rfl⟩
   go_wp2_with fail
   refine (uH C2 _).mono ?_
   rintro e w2 ⟨rfl,hb2⟩
   have B2:Hid (Below w.heap.size w w2):=hB.out.trans (hb2.mono hB.out.size)
   clear hb2 C1 C2
   go_wp2_with fail
   go_round
   case rel=>exact ⟨k+1,by omega,by go_num,by rw [eV.out],B2⟩
   case measure=>simp [intOf];omega
  ·have hkk:k = n:=by omega
   subst hkk
   go_wp2_with fail
   exact bodyPost_ret (v:=.int .u64 (bgK I k:Nat)) (by simp [results,Tryz.results222,go_sem]) rfl ⟨rfl,hB.out⟩
theorem fnK_down (I:List Int):∀ (m k:Nat),k≤m→fnK I m = true→fnK I k = true:=by
 intro m
 induction m with
 | zero=>intro k hk _;rw [show k = 0 by omega];rfl
 | succ m ih =>
  intro k hk h
  have h':(fnK I m && fFin (atB I m)) = true:=h
  rw [Bool.and_eq_true] at h'
  by_cases e:k = m+1
  ·subst e;exact h
  ·exact ih k (by omega) h'.1
theorem fnK_no (I:List Int) (n k:Nat) (hk:k < n) (h:fFin (atB I k) = false):fnK I n = false:=by
 cases e:fnK I n
 ·rfl
 ·have h2:(fnK I k && fFin (atB I k)) = true:=fnK_down I n (k+1) (by omega) e
  rw [h,Bool.and_false] at h2
  cases h2
theorem r9finite_any (ao:Option Addr) (c:Nat) (I:List Int) (w:World) (hI:BitsAt w ao c I) (hn:I.length≤35184372088830) :
  Calls Tryz.prog 65 #[.slice ao I.length c] w fun e w'=>e = .returned (.bool (fnK I I.length))∧Below w.heap.size w w':=by
 have HI:=hide hI
 obtain ⟨n,hnn⟩:∃ n,I.length = n:=⟨_,rfl⟩
 rw [hnn] at hn ⊢
 have HN:=hide hnn
 clear hI hnn
 obtain ⟨v,hv⟩:∃ v,fnK I n = v:=⟨_,rfl⟩
 rw [hv]
 have HV:=hide hv
 clear hv
 go_enter Tryz.func65,Tryz.ntmps65
 go_wp2_with fail
 go_loopw [3] (fun i wr=>∃ k:Nat,k≤n∧i = .int .i64 k∧Hid (fnK I k = true)∧Hid (Below w.heap.size w wr)) (fun i _=>n - (intOf i).toNat)
 case atStart=>exact ⟨0,Nat.zero_le _,rfl,rfl,Below.refl _ _⟩
 case round =>
  obtain ⟨k,hk,rfl,hq,hB⟩:=hrel
  by_cases hlt:k < n
  ·have hkI:(k:Int) < (n:Int):=by omega
   obtain ⟨b,off,hao,hb,hc⟩:=((uH HI).below hB.out).ne (by rw [uH HN];omega)
   have hck:=hc k (by rw [uH HN];exact hlt)
   have C1:=hide (fun w'=>rfinite_any (atB I k) w' ((uH HI).lt k))
   have eV:Hid (fnK I (k+1) = (fnK I k && fFin (atB I k))):=rfl
   have eF:=hide (fun h=>fnK_no I n k hlt h)
   subst hao
   clear hc
   generalize atB I k = x at *
   cases hf:fFin x
   ·have e2:=hide ((uH HV).symm.trans (uH eF hf))
    rw [hf] at C1
    have hv2:=uH e2
    subst hv2
    go_wp2_with fail
    refine (uH C1 _).mono ?_
    rintro e w2 ⟨rfl,rfl⟩
    clear C1
    go_wp2_with fail
    exact bodyPost_ret (v:=.bool false) (by simp [results,Tryz.results65,go_sem]) rfl ⟨rfl,hB.out⟩
   ·rw [hf] at C1 eV
    go_wp2_with fail
    refine (uH C1 _).mono ?_
    rintro e w2 ⟨rfl,rfl⟩
    clear C1
    go_wp2_with fail
    go_round
    case rel=>exact ⟨k+1,by omega,by go_num,by unfold Hid;rw [eV.out,hq.out];rfl,hB⟩
    case measure=>simp [intOf];omega
  ·have hkk:k = n:=by omega
   subst hkk
   have e2:=(uH HV).symm.trans hq.out
   subst e2
   go_wp2_with fail
   exact bodyPost_ret (v:=.bool true) (by simp [results,Tryz.results65,go_sem]) rfl ⟨rfl,hB.out⟩
end Go.Proofs.YtlnphkioddknfaaGreatDoor
namespace Go.Proofs.YtlnphkioddknfaaGreatDoor
open Go.RowKit
attribute [local go_sem ↓] Go.wp_at_zero Go.wp_at_succ
theorem r9norm_odd (ao:Option Addr) (n c m:Nat) (f:Bool) (w:World) (hm:m = 0 ∨ (m ≠ 0∧f = false))
  (C1:Calls Tryz.prog 222 #[.slice ao n c] w fun e w''=>e = .returned (.int .u64 (m:Nat))∧Below w.heap.size w w'')
  (C2:∀ w',Calls Tryz.prog 100 #[.int .u64 m] w' fun e w''=>e = .returned (.bool f)∧w' = w'') :
  Calls Tryz.prog 196 #[.slice ao n c] w fun e w'=>e = .returned (.int .u64 (m:Nat))∧Below w.heap.size w w':=by
 have K1:=hide C1;have K2:=hide C2
 clear C1 C2
 rcases hm with rfl | ⟨h0,rfl⟩
 ·go_enter Tryz.func196,Tryz.ntmps196
  go_wp2_with fail
  refine Calls.mono (uH K1) ?_
  rintro e w1 ⟨rfl,hb1⟩
  clear K1 K2
  go_wp2
  go_ret
  exact ⟨rfl,hb1⟩
 ·have g0:((m:Int) == 0) = false:=by rw [beq_eq_false_iff_ne];omega
  clear h0
  go_enter Tryz.func196,Tryz.ntmps196
  go_wp2_with fail
  refine Calls.mono (uH K1) ?_
  rintro e w1 ⟨rfl,hb1⟩
  clear K1
  go_wp2_with fail
  refine (uH K2 _).mono ?_
  rintro e w2 ⟨rfl,rfl⟩
  clear K2
  go_wp2
  go_ret
  exact ⟨rfl,hb1⟩
theorem r9norm_even (ao:Option Addr) (c m:Nat) (k:Int) (I:List Int) (w:World) (hI:BitsAt w ao c I) (hn:I.length≤35184372088830) (h0:m ≠ 0) (hk:-5000≤k∧k≤5000)
  (C1:Calls Tryz.prog 222 #[.slice ao I.length c] w fun e w''=>e = .returned (.int .u64 (m:Nat))∧Below w.heap.size w w'')
  (C2:∀ w',Calls Tryz.prog 100 #[.int .u64 m] w' fun e w''=>e = .returned (.bool true)∧w' = w'')
  (C3:∀ w',Calls Tryz.prog 133 #[.int .u64 m] w' fun e w''=>e = .returned (.int .i64 k)∧Below w'.heap.size w' w'') :
  Calls Tryz.prog 196 #[.slice ao I.length c] w fun e w'=>e = .returned (.int .u64 (xV (sV (dtK (tL k I) (tL k I) I.length)) k:Nat))∧Below w.heap.size w w':=by
 have HI:=hide hI
 have K1:=hide C1;have K2:=hide C2;have K3:=hide C3
 have g0:((m:Int) == 0) = false:=by rw [beq_eq_false_iff_ne];omega
 have hw:IntKind.i64.wrap (-k) = -k:=by simp only [IntKind.wrap_i64];omega
 have hw2:(0:Int) - k = -k:=by omega
 have HK:=hide hk
 have CF:=hide (fun w'=>r9sqrt_any (dtK (tL k I) (tL k I) I.length) w' (dtK_lt _ _ _))
 have CG:=hide (fun w'=>r9shift_any (sV (dtK (tL k I) (tL k I) I.length)) k w' (sV_lt _ (dtK_lt _ _ _)) hk)
 have HD:Hid (dtK (tL k I) (tL k I) 0 = 0):=rfl
 have HS:=hide (fun j (hj:j < I.length)=>show dtK (tL k I) (tL k I) (j+1) = aV (dtK (tL k I) (tL k I) j) (mV (xV (atB I j) (-k)) (xV (atB I j) (-k))) by
  show aV (dtK (tL k I) (tL k I) j) (mV (atB (tL k I) j) (atB (tL k I) j)) = _
  rw [show atB (tL k I) j = xV (atB I j) (-k) from mkL_at _ _ j hj])
 have HL:=hide (fun j=>dtK_lt (tL k I) (tL k I) j)
 generalize dtK (tL k I) (tL k I) = F at *
 obtain ⟨n,hnn⟩:∃ n,I.length = n:=⟨_,rfl⟩
 rw [hnn] at hn K1 HS CF CG ⊢
 have HN:=hide hnn
 clear hI hnn C1 C2 C3 h0 hk
 generalize xV (sV (F n)) k = rr at *
 generalize sV (F n) = ss at *
 go_enter Tryz.func196,Tryz.ntmps196
 go_wp2_with fail
 refine Calls.mono (uH K1) ?_
 rintro e w1 ⟨rfl,hb1⟩
 have B:=hide hb1
 clear K1 hb1
 go_wp2_with fail
 refine (uH K2 _).mono ?_
 rintro e w2 ⟨rfl,rfl⟩
 clear K2
 go_wp2_with fail
 refine (uH K3 _).mono ?_
 rintro e w2 ⟨rfl,hb2⟩
 have B2:=hide ((uH B).trans (hb2.mono (uH B).size))
 clear K3 hb2 B
 go_wp2_with fail
 go_loopw [5,6] (fun t i wr=>∃ j:Nat,j≤n∧i = .int .i64 j∧t = .int .u64 (F j:Nat)∧Hid (Below w.heap.size w wr)) (fun _ i _=>n - (intOf i).toNat)
 case atStart=>exact ⟨0,Nat.zero_le _,rfl,by rw [uH HD];rfl,B2⟩
 case round =>
  clear B2
  obtain ⟨j,hj,rfl,rfl,hB⟩:=hrel
  by_cases hlt:j < n
  ·have hjI:(j:Int) < (n:Int):=by omega
   obtain ⟨b,off,hao,hb,hc⟩:=((uH HI).below hB.out).ne (by rw [uH HN];omega)
   have hck:=hc j (by rw [uH HN];exact hlt)
   have x64:=(uH HI).lt j
   have D1:=hide (fun w'=>r9shift_any (atB I j) (-k) w' x64 (by have:=uH HK;omega))
   have D2:=hide (fun w'=>r9mul_any (xV (atB I j) (-k)) (xV (atB I j) (-k)) w' (xV_lt _ _ x64) (xV_lt _ _ x64))
   have D3:=hide (fun w'=>r9add_any (F j) (mV (xV (atB I j) (-k)) (xV (atB I j) (-k))) w' (uH HL j) (mV_lt _ _))
   have eV:=hide (uH HS j hlt)
   subst hao
   clear hc x64
   generalize aV (F j) (mV (xV (atB I j) (-k)) (xV (atB I j) (-k))) = o at *
   generalize mV (xV (atB I j) (-k)) (xV (atB I j) (-k)) = p at *
   generalize xV (atB I j) (-k) = t at *
   generalize atB I j = x at *
   go_wp2_with fail
   refine (uH D1 _).mono ?_
   rintro e w3 ⟨rfl,hb3⟩
   have B3:=hide (hB.out.trans (hb3.mono hB.out.size))
   clear hb3 D1 hB
   go_wp2_with fail
   refine (uH D2 _).mono ?_
   rintro e w4 ⟨rfl,hb4⟩
   have B4:=hide ((uH B3).trans (hb4.mono (uH B3).size))
   clear hb4 D2 B3
   go_wp2_with fail
   refine (uH D3 _).mono ?_
   rintro e w5 ⟨rfl,hb5⟩
   have B5:=hide ((uH B4).trans (hb5.mono (uH B4).size))
   clear hb5 D3 B4
   go_wp2_with fail
   go_round
   case rel=>exact ⟨j+1,by omega,by go_num,by rw [uH eV],B5⟩
   case measure=>simp [intOf];omega
  ·have hkk:j = n:=by omega
   subst hkk
   go_wp2_with fail
   refine (uH CF _).mono ?_
   rintro e w3 ⟨rfl,hb3⟩
   have B3:=hide (hB.out.trans (hb3.mono hB.out.size))
   clear hb3 CF hB
   go_wp2_with fail
   refine (uH CG _).mono ?_
   rintro e w4 ⟨rfl,hb4⟩
   have B4:=hide ((uH B3).trans (hb4.mono (uH B3).size))
   clear hb4 CG B3
   go_wp2
   exact bodyPost_ret (v:=.int .u64 (rr:Nat)) (by simp [results,Tryz.results196,go_sem]) rfl ⟨rfl,uH B4⟩
theorem r9norm_any (ao:Option Addr) (c:Nat) (I:List Int) (w:World) (hI:BitsAt w ao c I) (hn:I.length≤35184372088830) :
  Calls Tryz.prog 196 #[.slice ao I.length c] w fun e w'=>e = .returned (.int .u64 (nmV I:Nat))∧Below w.heap.size w w':=by
 have C1:=r9biggest_any ao c I w hI hn
 have hm:=bgK_lt I I.length
 have C2:=fun w'=>rfinite_any (bgK I I.length) w' hm
 unfold nmV
 by_cases h0:bgK I I.length = 0
 ·rw [if_pos (.inl h0)]
  exact r9norm_odd ao _ c _ _ w (.inl h0) C1 C2
 cases hf:fFin (bgK I I.length)
 ·rw [hf] at C2
  rw [if_pos (.inr rfl)]
  exact r9norm_odd ao _ c _ _ w (.inr ⟨h0,rfl⟩) C1 C2
 ·rw [hf] at C2
  rw [if_neg (fun e=>e.elim h0 (fun e=>by cases e))]
  have hr:=eX_range _ hm
  exact r9norm_even ao c _ _ I w hI hn h0 (by omega) C1 C2 (fun w'=>r8exp_any _ w' hm)
end Go.Proofs.YtlnphkioddknfaaGreatDoor
namespace Go.Proofs.YtlnphkioddknfaaGreatDoor
open Go.RowKit
attribute [local go_sem ↓] Go.wp_at_zero Go.wp_at_succ
def sqK (I:List Int):Nat→Int
 | 0=>0
 | k+1=>sqK I k+fZ (atB I k) * fZ (atB I k)
end Go.Proofs.YtlnphkioddknfaaGreatDoor
