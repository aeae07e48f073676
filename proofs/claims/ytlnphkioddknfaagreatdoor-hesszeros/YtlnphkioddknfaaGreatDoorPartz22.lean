/- Part 22 of the texts. -/
import Derived.Test.YtlnphkioddknfaaGreatDoorPartz21
import Derived.Deep.RegionHeld3
import Derived.Test.YtlnphkioddknfaaGreatDoorPartz15
import Derived.Test.YtlnphkioddknfaaGreatDoorPartz12
import Derived.Test.YtlnphkioddknfaaGreatDoorPartz13
import Derived.Test.YtlnphkioddknfaaGreatDoorPartz11
import Derived.Test.YtlnphkioddknfaaGreatDoorPartz03
import Derived.OwnWalk
import Derived.Deep.AppendLies
set_option maxHeartbeats 4000000
set_option maxRecDepth 20000
namespace Go.Proofs.YtlnphkioddknfaaGreatDoor
open Go.RowKit
attribute [local go_sem ↓] Go.wp_at_zero Go.wp_at_succ
theorem cell_keep {w w':World} {p:Addr} {v:Value} (h:w.cell? p = some v) (hb:Below w.heap.size w w'):w'.cell? p = some v:=by
 rw [hb.cell (World.block_lt_of_cell? w _ h)];exact h
theorem dot1_of (s x y p o k n m c d bx by':Nat) (b1 o1 b2 o2:Nat) (w:World) (hk:k < n) (hm:k < m)
  (h1:w.cell? ⟨bx,0,none⟩ = some (.slice (some ⟨b1,o1,none⟩) n c)) (h2:w.cell? ⟨by',0,none⟩ = some (.slice (some ⟨b2,o2,none⟩) m d))
  (h3:w.cell? ⟨b1,o1+k,none⟩ = some (.int .u64 (x:Nat))) (h4:w.cell? ⟨b2,o2+k,none⟩ = some (.int .u64 (y:Nat)))
  (C1:∀ w',Below w.heap.size w w'→Calls Tryz.prog 165 #[.int .u64 x,.int .u64 y] w' fun r w''=>r = .returned (.int .u64 (p:Nat))∧Below w'.heap.size w' w'')
  (C2:∀ w',Below w.heap.size w w'→Calls Tryz.prog 239 #[.int .u64 s,.int .u64 p] w' fun r w''=>r = .returned (.int .u64 (o:Nat))∧Below w'.heap.size w' w'') :
  Calls Tryz.prog 238 #[.int .u64 s,.int .i64 k,.pointer (some ⟨bx,0,none⟩),.pointer (some ⟨by',0,none⟩)] w fun e w'=>e = .returned (.int .u64 (o:Nat))∧Below w.heap.size w w':=by
 have K1:=hide C1;have K2:=hide C2
 have hkI:(k:Int) < (n:Int):=by omega
 have hkJ:(k:Int) < (m:Int):=by omega
 have HK:=hide (fun w' (h:Below w.heap.size w w')=>(show Below w.heap.size w w'∧w'.cell? ⟨bx,0,none⟩ = some (.slice (some ⟨b1,o1,none⟩) n c)∧w'.cell? ⟨by',0,none⟩ = some (.slice (some ⟨b2,o2,none⟩) m d)∧w'.cell? ⟨b1,o1+k,none⟩ = some (.int .u64 (x:Nat))∧w'.cell? ⟨b2,o2+k,none⟩ = some (.int .u64 (y:Nat)) from
  ⟨h,cell_keep h1 h,cell_keep h2 h,cell_keep h3 h,cell_keep h4 h⟩))
 clear C1 C2 h1 h2 h3 h4
 go_enter Tryz.func238,Tryz.ntmps238
 go_wp2_with fail
 go_region_held3 (fun w'=>Below w.heap.size w w'∧w'.cell? ⟨bx,0,none⟩ = some (.slice (some ⟨b1,o1,none⟩) n c)∧w'.cell? ⟨by',0,none⟩ = some (.slice (some ⟨b2,o2,none⟩) m d)∧w'.cell? ⟨b1,o1+k,none⟩ = some (.int .u64 (x:Nat))∧w'.cell? ⟨b2,o2+k,none⟩ = some (.int .u64 (y:Nat)))
  (first | exact uH HK _ (Below.refl _ _).drew | exact uH HK _ (by assumption) | fail "KK")
  (first | (go_at_call 165;refine (uH K1 _ (And.left (by assumption))).mono ?_;rintro e w1 ⟨rfl,hb1⟩;have hB1:Below w.heap.size w w1:=Below.trans (And.left (by assumption)) (hb1.mono (Below.size (And.left (by assumption))));clear hb1) | (go_at_call 239;refine (uH K2 _ (And.left (by assumption))).mono ?_;rintro e w2 ⟨rfl,hb2⟩;have hB2:Below w.heap.size w w2:=Below.trans (And.left (by assumption)) (hb2.mono (Below.size (And.left (by assumption))));clear hb2) | fail "NO ARM")
 go_wp2
 go_ret
 exact ⟨rfl,And.left (by assumption)⟩
theorem norm1_of (x o k n c bx bk:Nat) (j:Int) (b1 o1:Nat) (w:World) (hk:k < n) (hj:-5000≤j∧j≤5000)
  (h1:w.cell? ⟨bx,0,none⟩ = some (.slice (some ⟨b1,o1,none⟩) n c)) (h5:w.cell? ⟨bk,0,none⟩ = some (.int .i64 j))
  (h3:w.cell? ⟨b1,o1+k,none⟩ = some (.int .u64 (x:Nat)))
  (C1:∀ w',Below w.heap.size w w'→Calls Tryz.prog 58 #[.int .u64 x,.int .i64 (-j)] w' fun r w''=>r = .returned (.int .u64 (o:Nat))∧Below w'.heap.size w' w'') :
  Calls Tryz.prog 287 #[.int .i64 k,.pointer (some ⟨bx,0,none⟩),.pointer (some ⟨bk,0,none⟩)] w fun e w'=>e = .returned (.int .u64 (o:Nat))∧Below w.heap.size w w':=by
 have K1:=hide C1
 have hkI:(k:Int) < (n:Int):=by omega
 have hw:IntKind.i64.wrap (-j) = -j:=by simp only [IntKind.wrap_i64];omega
 have HK:=hide (fun w' (h:Below w.heap.size w w')=>(show Below w.heap.size w w'∧w'.cell? ⟨bx,0,none⟩ = some (.slice (some ⟨b1,o1,none⟩) n c)∧w'.cell? ⟨b1,o1+k,none⟩ = some (.int .u64 (x:Nat))∧w'.cell? ⟨bk,0,none⟩ = some (.int .i64 j) from
  ⟨h,cell_keep h1 h,cell_keep h3 h,cell_keep h5 h⟩))
 clear C1 h1 h3 h5
 go_enter Tryz.func287,Tryz.ntmps287
 go_wp2_with fail
 go_region_held3 (fun w'=>Below w.heap.size w w'∧w'.cell? ⟨bx,0,none⟩ = some (.slice (some ⟨b1,o1,none⟩) n c)∧w'.cell? ⟨b1,o1+k,none⟩ = some (.int .u64 (x:Nat))∧w'.cell? ⟨bk,0,none⟩ = some (.int .i64 j))
  (first | exact uH HK _ (Below.refl _ _).drew | exact uH HK _ (by assumption) | fail "KK")
  (first | (go_at_call 58;refine (uH K1 _ (And.left (by assumption))).mono ?_;rintro e w1 ⟨rfl,hb1⟩;have hB1:Below w.heap.size w w1:=Below.trans (And.left (by assumption)) (hb1.mono (Below.size (And.left (by assumption))));clear hb1) | fail "NO ARM")
 go_wp2
 go_ret
 exact ⟨rfl,And.left (by assumption)⟩
theorem biggest1_of (m x r o k n c bx:Nat) (b1 o1:Nat) (w:World) (hk:k < n)
  (h1:w.cell? ⟨bx,0,none⟩ = some (.slice (some ⟨b1,o1,none⟩) n c))
  (h3:w.cell? ⟨b1,o1+k,none⟩ = some (.int .u64 (x:Nat)))
  (C1:∀ w',Below w.heap.size w w'→Calls Tryz.prog 63 #[.int .u64 x] w' fun e w''=>e = .returned (.int .u64 (r:Nat))∧Below w'.heap.size w' w'')
  (C2:∀ w',Below w.heap.size w w'→Calls Tryz.prog 115 #[.int .u64 m,.int .u64 r] w' fun e w''=>e = .returned (.int .u64 (o:Nat))∧Below w'.heap.size w' w'') :
  Calls Tryz.prog 114 #[.int .u64 m,.int .i64 k,.pointer (some ⟨bx,0,none⟩)] w fun e w'=>e = .returned (.int .u64 (o:Nat))∧Below w.heap.size w w':=by
 have K1:=hide C1;have K2:=hide C2
 have hkI:(k:Int) < (n:Int):=by omega
 clear C1 C2
 go_enter Tryz.func114,Tryz.ntmps114
 go_wp2_with fail
 refine (uH K1 _ (Below.refl _ _)).mono ?_
 rintro e w1 ⟨rfl,hb1⟩
 have B1:=hide hb1
 clear K1 hb1
 go_wp2_with fail
 refine (uH K2 _ (uH B1)).mono ?_
 rintro e w2 ⟨rfl,hb2⟩
 clear K2
 go_wp2
 go_ret
 exact ⟨rfl,(uH B1).trans (hb2.mono (uH B1).size)⟩
theorem finite1_of (q r:Bool) (x k n c bx:Nat) (b1 o1:Nat) (w:World) (hk:k < n)
  (h1:w.cell? ⟨bx,0,none⟩ = some (.slice (some ⟨b1,o1,none⟩) n c))
  (h3:w.cell? ⟨b1,o1+k,none⟩ = some (.int .u64 (x:Nat)))
  (C1:∀ w',Below w.heap.size w w'→Calls Tryz.prog 111 #[.int .u64 x] w' fun e w''=>e = .returned (.bool r)∧Below w'.heap.size w' w'') :
  Calls Tryz.prog 194 #[.bool q,.int .i64 k,.pointer (some ⟨bx,0,none⟩)] w fun e w'=>e = .returned (.bool (q && r))∧Below w.heap.size w w':=by
 have K1:=hide C1
 have hkI:(k:Int) < (n:Int):=by omega
 clear C1
 cases q
 ·go_enter Tryz.func194,Tryz.ntmps194
  go_wp2
  go_ret
  exact ⟨rfl,Below.refl _ _⟩
 ·go_enter Tryz.func194,Tryz.ntmps194
  go_wp2_with fail
  refine (uH K1 _ (Below.refl _ _)).mono ?_
  rintro e w1 ⟨rfl,hb1⟩
  clear K1
  go_wp2
  go_ret
  exact ⟨rfl,hb1⟩
end Go.Proofs.YtlnphkioddknfaaGreatDoor
namespace Go.Proofs.YtlnphkioddknfaaGreatDoor
open Go.RowKit
attribute [local go_sem ↓] Go.wp_at_zero Go.wp_at_succ
theorem new_cell (w:World) (x:Value) (t:TypeId):(w.alloc (.cells #[x] t)).cell? ⟨w.heap.size,0,none⟩ = some x:=by
 rw [cell_of_row _ _ 0 _ _ _ (heap_alloc_new w _)];rfl
theorem size_alloc9 (w:World) (o:Obj):(w.alloc o).heap.size = w.heap.size+1:=by simp
theorem below_alloc9 (w:World) (o:Obj):Below w.heap.size w (w.alloc o):=(Below.refl _ _).alloc (Nat.le_refl _) o
theorem BitsAt.lt {w:World} {ao:Option Addr} {cap:Nat} {I:List Int} (h:BitsAt w ao cap I) (j:Nat):atB I j < 18446744073709551616:=(h.wf j).2
def dtK (I J:List Int):Nat→Nat
 | 0=>0
 | k+1=>aV (dtK I J k) (mV (atB I k) (atB J k))
def bgK (I:List Int):Nat→Nat
 | 0=>0
 | k+1=>mx (bgK I k) (fR (atB I k))
def fnK (I:List Int):Nat→Bool
 | 0=>true
 | k+1=>fnK I k && fFin (atB I k)
theorem dtK_lt (I J:List Int) (k:Nat):dtK I J k < 18446744073709551616:=by
 induction k with
 | zero=>show 0 < 18446744073709551616;omega
 | succ k ih=>exact aV_lt _ _ ih (mV_lt _ _)
theorem mx_lt (a b:Nat) (ha:a < 18446744073709551616) (hb:b < 18446744073709551616):mx a b < 18446744073709551616:=by
 unfold mx
 repeat' split
 all_goals omega
theorem bgK_lt (I:List Int) (k:Nat):bgK I k < 18446744073709551616:=by
 induction k with
 | zero=>show 0 < 18446744073709551616;omega
 | succ k ih=>exact mx_lt _ _ ih (by have:=fR_lt (atB I k);omega)
theorem dot_of (ao bo:Option Addr) (n m c d r:Nat) (w:World)
  (C:Calls Tryz.prog 113 #[.int .i64 n,.int .u64 0,.func (.func 238) #[] #[.pointer (some ⟨w.heap.size,0,none⟩),.pointer (some ⟨w.heap.size+1,0,none⟩)]] ((w.alloc (.cells #[.slice ao n c] 22)).alloc (.cells #[.slice bo m d] 22)) fun e w''=>e = .returned (.int .u64 (r:Nat))∧Below w.heap.size w w'') :
  Calls Tryz.prog 216 #[.slice ao n c,.slice bo m d] w fun e w'=>e = .returned (.int .u64 (r:Nat))∧Below w.heap.size w w':=by
 have K:=hide C
 clear C
 go_enter Tryz.func216,Tryz.ntmps216
 go_wp2_with fail
 refine Calls.mono (uH K) ?_
 rintro e w1 ⟨rfl,hb1⟩
 clear K
 go_wp2
 go_ret
 exact ⟨rfl,hb1⟩
theorem cfDot1 (args:Array Value) (w:World):(callFunc 238 args).run Tryz.prog w = .ok (.enter 238 args) w:=by
 simp only [callFunc,go_sem]
 rfl
theorem dot_any (ao bo:Option Addr) (c d:Nat) (I J:List Int) (w:World) (hI:BitsAt w ao c I) (hJ:BitsAt w bo d J) (hl:I.length = J.length) (hn:I.length≤35184372088830) (hT:Tab w) :
  Calls Tryz.prog 216 #[.slice ao I.length c,.slice bo J.length d] w fun e w'=>e = .returned (.int .u64 (dtK I J I.length:Nat))∧Below w.heap.size w w':=by
 refine dot_of _ _ _ _ _ _ _ w ?_
 have b1:=below_alloc9 w (.cells #[.slice ao I.length c] 22)
 have x1:=new_cell w (.slice ao I.length c) 22
 have s1:=size_alloc9 w (.cells #[.slice ao I.length c] 22)
 generalize w.alloc (.cells #[.slice ao I.length c] 22) = w1 at *
 have b2:=below_alloc9 w1 (.cells #[.slice bo J.length d] 22)
 have x2:=new_cell w1 (.slice bo J.length d) 22
 have y1:=cell_keep x1 b2
 generalize w1.alloc (.cells #[.slice bo J.length d] 22) = w2 at *
 have bb:Below w.heap.size w w2:=b1.trans (b2.mono b1.size)
 rw [s1] at x2
 refine Calls.mono (gatherB_any 238 #[.pointer (some ⟨w.heap.size,0,none⟩),.pointer (some ⟨w.heap.size+1,0,none⟩)] I.length (dtK I J) w2 cfDot1 hn ?_) ?_
 ·intro w' k hb hk
  have hb':Below w.heap.size w w':=bb.trans (hb.mono bb.size)
  obtain ⟨g1,o1,e1,_,z1⟩:=(hI.below hb').ne (by omega)
  obtain ⟨g2,o2,e2,_,z2⟩:=(hJ.below hb').ne (by omega)
  have u1:=cell_keep y1 hb
  have u2:=cell_keep x2 hb
  rw [e1] at u1
  rw [e2] at u2
  have T':=hT.all hb'
  exact dot1_of (dtK I J k) (atB I k) (atB J k) (mV (atB I k) (atB J k)) (dtK I J (k+1)) k I.length J.length c d w.heap.size (w.heap.size+1) g1 o1 g2 o2 w' hk (by omega) u1 u2 (z1 k hk) (z2 k (by omega))
   (fun w'' h=>vmul_any _ _ w'' (hI.lt k) (hJ.lt k) (T'.all h)) (fun w'' h=>vadd_any _ _ w'' (dtK_lt I J k) (mV_lt _ _) (T'.all h))
 ·rintro e w' ⟨rfl,hb⟩
  exact ⟨rfl,bb.trans (hb.mono bb.size)⟩
theorem dotF_ok (ao bo:Option Addr) (n m c d r:Nat) (w:World)
  (F:∀ w',Calls Tryz.prog 215 #[.slice ao n c,.slice bo m d] w' fun e w''=>e = .returned (.bool true)∧w' = w'')
  (C:Calls Tryz.prog 216 #[.slice ao n c,.slice bo m d] w fun e w''=>e = .returned (.int .u64 (r:Nat))∧Below w.heap.size w w'') :
  Calls Tryz.prog 183 #[.slice ao n c,.slice bo m d] w fun e w'=>e = .returned (.tuple #[.int .u64 (r:Nat),.int .i64 0])∧Below w.heap.size w w':=by
 have K:=hide C;have L:=hide F
 clear C F
 go_enter Tryz.func183,Tryz.ntmps183
 go_wp2_with fail
 refine (uH L _).mono ?_
 rintro e w1 ⟨rfl,rfl⟩
 go_wp2_with fail
 refine Calls.mono (uH K) ?_
 rintro e w1 ⟨rfl,hb1⟩
 clear K L
 go_wp2
 exact bodyPost_ret (v:=.tuple #[.int .u64 (r:Nat),.int .i64 0]) (by simp [results,Tryz.results183,go_sem]) rfl ⟨rfl,hb1⟩
theorem dotF_no (ao bo:Option Addr) (n m c d:Nat) (w:World)
  (F:∀ w',Calls Tryz.prog 215 #[.slice ao n c,.slice bo m d] w' fun e w''=>e = .returned (.bool false)∧w' = w'') :
  Calls Tryz.prog 183 #[.slice ao n c,.slice bo m d] w fun e w'=>e = .returned (.tuple #[.int .u64 0,.int .i64 3])∧Below w.heap.size w w':=by
 have L:=hide F
 clear F
 go_enter Tryz.func183,Tryz.ntmps183
 go_wp2_with fail
 refine (uH L _).mono ?_
 rintro e w1 ⟨rfl,rfl⟩
 clear L
 go_wp2
 exact bodyPost_ret (v:=.tuple #[.int .u64 0,.int .i64 3]) (by simp [results,Tryz.results183,go_sem]) rfl ⟨rfl,Below.refl _ _⟩
def goB (I J:List Int):Bool:=decide (I.length≤64∧I.length = J.length)
theorem vDot_any (ao bo:Option Addr) (c d:Nat) (I J:List Int) (w:World) (hI:BitsAt w ao c I) (hJ:BitsAt w bo d J) (hT:Tab w) :
  Calls Tryz.prog 183 #[.slice ao I.length c,.slice bo J.length d] w fun e w'=>e = .returned (.tuple #[.int .u64 (if goB I J = true then dtK I J I.length else 0:Nat),.int .i64 (if goB I J = true then 0 else 3)])∧Below w.heap.size w w':=by
 have F:=fun w'=>vfit_any ao bo I.length J.length c d w'
 cases h:goB I J
 ·unfold goB at h
  rw [h] at F
  exact dotF_no ao bo _ _ c d w F
 ·unfold goB at h
  rw [h] at F
  have h':=of_decide_eq_true h
  exact dotF_ok ao bo _ _ c d _ w F (dot_any ao bo c d I J w hI hJ h'.2 (by omega) hT)
theorem RowB.bits {w:World} {g:Nat} {S:List Nat} (h:RowB w g S) (hf:∀ x ∈ S,x < 18446744073709551616):BitsAt w (some ⟨g,0,none⟩) S.length (S.map (fun x:Nat=>(x:Int))):=by
 refine ⟨by simp,?_,.inr ⟨g,0,rfl,h.lt,fun i hi=>?_⟩⟩
 ·intro x hx
  obtain ⟨y,hy,rfl⟩:=List.mem_map.1 hx
  have:=hf y hy
  omega
 ·have hi':i < S.length:=by simpa using hi
  rw [Nat.zero_add,h.cell i hi']
  simp [hi']
def mkL (n:Nat) (f:Nat→Nat):List Int:=((List.range n).map f).map (fun x:Nat=>(x:Int))
theorem mkL_len (n:Nat) (f:Nat→Nat):(mkL n f).length = n:=by simp [mkL]
theorem mkL_at (n:Nat) (f:Nat→Nat) (j:Nat) (hj:j < n):atB (mkL n f) j = f j:=by simp [mkL,atB,hj]
theorem cfBiggest1 (args:Array Value) (w:World):(callFunc 114 args).run Tryz.prog w = .ok (.enter 114 args) w:=by
 simp only [callFunc,go_sem]
 rfl
theorem cfFinite1 (args:Array Value) (w:World):(callFunc 194 args).run Tryz.prog w = .ok (.enter 194 args) w:=by
 simp only [callFunc,go_sem]
 rfl
theorem cfNorm1 (args:Array Value) (w:World):(callFunc 287 args).run Tryz.prog w = .ok (.enter 287 args) w:=by
 simp only [callFunc,go_sem]
 rfl
end Go.Proofs.YtlnphkioddknfaaGreatDoor
namespace Go.Proofs.YtlnphkioddknfaaGreatDoor
open Go.RowKit
attribute [local go_sem ↓] Go.wp_at_zero Go.wp_at_succ
theorem order_ways9 (a b:Nat) :
  ∃ l q,((cO a b = 0∧cB a b = false∧l = false∧q = false) ∨ (cO a b = -1∧cB a b = true∧l = true∧q = false) ∨ (cO a b = 0∧cB a b = true∧l = false∧q = true) ∨ (cO a b = 1∧cB a b = true∧l = false∧q = false))∧cM a b l (cB a b) = mx a b:=by
 by_cases h:fK a = 4 ∨ fK b = 4
 ·have e1:cO a b = 0:=by unfold cO;rw [if_pos h]
  have e2:cB a b = false:=by unfold cB;rw [if_pos h]
  refine ⟨false,false,.inl ⟨e1,e2,rfl,rfl⟩,?_⟩
  unfold mx cM
  rw [if_pos h,if_pos e2]
 ·have e1:cO a b = cmpI (fZ a) (fZ b):=by unfold cO;rw [if_neg h]
  have e2:cB a b = true:=by unfold cB;rw [if_neg h]
  have em:mx a b = if fZ a < fZ b then b else a:=by unfold mx;rw [if_neg h]
  have ec:∀ l,cM a b l true = if l = true then b else a:=fun l=>by unfold cM;rw [if_neg (by decide)]
  rw [e1,e2,em]
  rcases (show fZ a < fZ b ∨ fZ a = fZ b ∨ fZ b < fZ a by omega) with g | g | g
  ·exact ⟨true,false,.inr (.inl ⟨cmpI8_lt g,rfl,rfl,rfl⟩),by rw [ec,if_pos rfl,if_pos g]⟩
  ·have g':¬ fZ a < fZ b:=by omega
   exact ⟨false,true,.inr (.inr (.inl ⟨cmpI8_eq g,rfl,rfl,rfl⟩)),by rw [ec,if_neg (by decide),if_neg g']⟩
  ·have g':¬ fZ a < fZ b:=by omega
   exact ⟨false,false,.inr (.inr (.inr ⟨cmpI8_gt g,rfl,rfl,rfl⟩)),by rw [ec,if_neg (by decide),if_neg g']⟩
theorem cmax_any (a b:Nat) (w:World) (ha:a < 18446744073709551616) (hb:b < 18446744073709551616) :
  Calls Tryz.prog 115 #[.int .u64 a,.int .u64 b] w fun r w'=>r = .returned (.int .u64 (mx a b:Nat))∧Below w.heap.size w w':=by
 obtain ⟨l,q,h,e⟩:=order_ways9 a b
 rw [← e]
 exact max_of a b _ _ l q w h (fun w'=>corder_any a b w' ha hb)
theorem biggest_of (ao:Option Addr) (n c r:Nat) (w:World)
  (C:Calls Tryz.prog 113 #[.int .i64 n,.int .u64 0,.func (.func 114) #[] #[.pointer (some ⟨w.heap.size,0,none⟩)]] (w.alloc (.cells #[.slice ao n c] 22)) fun e w''=>e = .returned (.int .u64 (r:Nat))∧Below w.heap.size w w'') :
  Calls Tryz.prog 59 #[.slice ao n c] w fun e w'=>e = .returned (.int .u64 (r:Nat))∧Below w.heap.size w w':=by
 have K:=hide C
 clear C
 go_enter Tryz.func59,Tryz.ntmps59
 go_wp2_with fail
 refine Calls.mono (uH K) ?_
 rintro e w1 ⟨rfl,hb1⟩
 clear K
 go_wp2
 go_ret
 exact ⟨rfl,hb1⟩
theorem vBiggest_any (ao:Option Addr) (c:Nat) (I:List Int) (w:World) (hI:BitsAt w ao c I) (hn:I.length≤35184372088830) :
  Calls Tryz.prog 59 #[.slice ao I.length c] w fun e w'=>e = .returned (.int .u64 (bgK I I.length:Nat))∧Below w.heap.size w w':=by
 refine biggest_of ao _ c _ w ?_
 have b1:=below_alloc9 w (.cells #[.slice ao I.length c] 22)
 have x1:=new_cell w (.slice ao I.length c) 22
 generalize w.alloc (.cells #[.slice ao I.length c] 22) = w1 at *
 refine Calls.mono (gatherB_any 114 #[.pointer (some ⟨w.heap.size,0,none⟩)] I.length (bgK I) w1 cfBiggest1 hn ?_) ?_
 ·intro w' k hb hk
  have hb':Below w.heap.size w w':=b1.trans (hb.mono b1.size)
  obtain ⟨g1,o1,e1,_,z1⟩:=(hI.below hb').ne (by omega)
  have u1:=cell_keep x1 hb
  rw [e1] at u1
  exact biggest1_of (bgK I k) (atB I k) (fR (atB I k)) (bgK I (k+1)) k I.length c w.heap.size g1 o1 w' hk u1 (z1 k hk)
   (fun w'' h=>cabs_any _ w'' (hI.lt k)) (fun w'' h=>cmax_any _ _ w'' (bgK_lt I k) (by have:=fR_lt (atB I k);omega))
 ·rintro e w' ⟨rfl,hb⟩
  exact ⟨rfl,b1.trans (hb.mono b1.size)⟩
theorem finite_of (ao:Option Addr) (n c:Nat) (r:Bool) (w:World)
  (C:Calls Tryz.prog 193 #[.int .i64 n,.bool true,.func (.func 194) #[] #[.pointer (some ⟨w.heap.size,0,none⟩)]] (w.alloc (.cells #[.slice ao n c] 22)) fun e w''=>e = .returned (.bool r)∧Below w.heap.size w w'') :
  Calls Tryz.prog 153 #[.slice ao n c] w fun e w'=>e = .returned (.bool r)∧Below w.heap.size w w':=by
 have K:=hide C
 clear C
 go_enter Tryz.func153,Tryz.ntmps153
 go_wp2_with fail
 refine Calls.mono (uH K) ?_
 rintro e w1 ⟨rfl,hb1⟩
 clear K
 go_wp2
 go_ret
 exact ⟨rfl,hb1⟩
theorem vFinite_any (ao:Option Addr) (c:Nat) (I:List Int) (w:World) (hI:BitsAt w ao c I) (hn:I.length≤35184372088830) :
  Calls Tryz.prog 153 #[.slice ao I.length c] w fun e w'=>e = .returned (.bool (fnK I I.length))∧Below w.heap.size w w':=by
 refine finite_of ao _ c _ w ?_
 have b1:=below_alloc9 w (.cells #[.slice ao I.length c] 22)
 have x1:=new_cell w (.slice ao I.length c) 22
 generalize w.alloc (.cells #[.slice ao I.length c] 22) = w1 at *
 refine Calls.mono (gatherb_any 194 #[.pointer (some ⟨w.heap.size,0,none⟩)] I.length (fnK I) w1 cfFinite1 hn ?_) ?_
 ·intro w' k hb hk
  have hb':Below w.heap.size w w':=b1.trans (hb.mono b1.size)
  obtain ⟨g1,o1,e1,_,z1⟩:=(hI.below hb').ne (by omega)
  have u1:=cell_keep x1 hb
  rw [e1] at u1
  exact finite1_of (fnK I k) (fFin (atB I k)) (atB I k) k I.length c w.heap.size g1 o1 w' hk u1 (z1 k hk) (fun w'' h=>sfinite_any _ w'' (hI.lt k))
 ·rintro e w' ⟨rfl,hb⟩
  exact ⟨rfl,b1.trans (hb.mono b1.size)⟩
theorem psqrt_of (s r:Nat) (f:Int) (w:World) (C:∀ w',Below w.heap.size w w'→Calls Tryz.prog 261 #[.int .u64 s] w' fun e w''=>e = .returned (.tuple #[.int .u64 (r:Nat),.int .u8 f])∧Below w'.heap.size w' w'') :
  Calls Tryz.prog 241 #[.int .u64 s] w fun e w'=>e = .returned (.int .u64 (r:Nat))∧Below w.heap.size w w':=by
 have K:=hide C
 clear C
 go_enter Tryz.func241,Tryz.ntmps241
 go_wp2_with fail
 refine (uH K _ (Below.refl _ _)).mono ?_
 rintro e w1 ⟨rfl,hb1⟩
 clear K
 go_wp2
 go_ret
 exact ⟨rfl,hb1⟩
theorem normBy_of (ao:Option Addr) (n c s r o:Nat) (k f:Int) (w:World) (Z:World→Nat→Prop) (_ZS:∀ w' w'' g,Z w' g→Below w'.heap.size w' w''→Z w'' g)
  (C1:Calls Tryz.prog 286 #[.int .i64 n,.func (.func 287) #[] #[.pointer (some ⟨w.heap.size,0,none⟩),.pointer (some ⟨w.heap.size+1,0,none⟩)]] ((w.alloc (.cells #[.slice ao n c] 22)).alloc (.cells #[.int .i64 k] 3)) fun e w''=>∃ g,e = .returned (.slice (some ⟨g,0,none⟩) n n)∧Z w'' g∧Below w.heap.size w w''∧w''.cell? ⟨w.heap.size+1,0,none⟩ = some (.int .i64 k))
  (C2:∀ w' g,Z w' g→Below w.heap.size w w'→Calls Tryz.prog 216 #[.slice (some ⟨g,0,none⟩) n n,.slice (some ⟨g,0,none⟩) n n] w' fun e w''=>e = .returned (.int .u64 (s:Nat))∧Below w'.heap.size w' w'')
  (C3:∀ w',Below w.heap.size w w'→Calls Tryz.prog 261 #[.int .u64 s] w' fun e w''=>e = .returned (.tuple #[.int .u64 (r:Nat),.int .u8 f])∧Below w'.heap.size w' w'')
  (C4:∀ w',Below w.heap.size w w'→Calls Tryz.prog 58 #[.int .u64 r,.int .i64 k] w' fun e w''=>e = .returned (.int .u64 (o:Nat))∧Below w'.heap.size w' w'') :
  Calls Tryz.prog 281 #[.slice ao n c,.int .i64 k] w fun e w'=>e = .returned (.int .u64 (o:Nat))∧Below w.heap.size w w':=by
 have K1:=hide C1;have K2:=hide C2;have K3:=hide (fun w' (hb:Below w.heap.size w w')=>psqrt_of s r f w' (fun w'' hb2=>C3 w'' (hb.trans (hb2.mono hb.size))));have K4:=hide C4
 clear C1 C2 C3 C4
 go_enter Tryz.func281,Tryz.ntmps281
 go_wp2_with fail
 refine Calls.mono (uH K1) ?_
 rintro e w1 ⟨g,rfl,hz,hb1,hc⟩
 have B:=hide hb1;have HZ:=hide hz;have HC:=hide hc
 clear K1 hb1 hz hc
 go_wp2_with fail
 have ZS:=hide _ZS
 clear _ZS
 refine at_world (fun W=>Below w.heap.size w W∧Z W g∧W.cell? ⟨w.heap.size+1,0,none⟩ = some (.int .i64 k)) ⟨uH B,uH HZ,uH HC⟩ ?_
 clear B HZ HC
 rintro W0 ⟨bb,zz,cc⟩
 have HK:=hide (fun w' (h:Below W0.heap.size W0 w')=>(show Below W0.heap.size W0 w'∧w'.cell? ⟨w.heap.size+1,0,none⟩ = some (.int .i64 k) from ⟨h,cell_keep cc h⟩))
 have HW:=hide (fun w' (h:Below W0.heap.size W0 w')=>bb.trans (h.mono bb.size))
 have HZ:=hide (fun w' (h:Below W0.heap.size W0 w')=>uH ZS _ _ _ zz h)
 clear bb zz cc ZS
 go_region_held3 (fun w'=>Below W0.heap.size W0 w'∧w'.cell? ⟨w.heap.size+1,0,none⟩ = some (.int .i64 k))
  (first | exact uH HK _ (Below.refl _ _).drew | exact uH HK _ (by assumption) | fail "KK")
  (first
   | (go_at_call 216;refine (uH K2 _ _ (uH HZ _ (And.left (by assumption))) (uH HW _ (And.left (by assumption)))).mono ?_;rintro e wa ⟨rfl,hb1⟩;have hBa:Below W0.heap.size W0 wa:=Below.trans (And.left (by assumption)) (hb1.mono (Below.size (And.left (by assumption))));clear hb1)
   | (go_at_call 241;refine (uH K3 _ (uH HW _ (And.left (by assumption)))).mono ?_;rintro e wb ⟨rfl,hb1⟩;have hBb:Below W0.heap.size W0 wb:=Below.trans (And.left (by assumption)) (hb1.mono (Below.size (And.left (by assumption))));clear hb1)
   | (go_at_call 58;refine (uH K4 _ (uH HW _ (And.left (by assumption)))).mono ?_;rintro e wc ⟨rfl,hb1⟩;have hBc:Below W0.heap.size W0 wc:=Below.trans (And.left (by assumption)) (hb1.mono (Below.size (And.left (by assumption))));clear hb1)
   | fail "NO ARM")
 all_goals
  have hn:Below W0.heap.size W0 wc:=And.left (by assumption)
  go_wp2
  go_ret
  exact ⟨rfl,uH HW _ hn⟩
def tL (k:Int) (I:List Int):List Int:=mkL I.length (fun i=>xV (atB I i) (-k))
theorem tL_len (k:Int) (I:List Int):(tL k I).length = I.length:=mkL_len _ _
theorem normBy_any (ao:Option Addr) (c:Nat) (I:List Int) (k:Int) (w:World) (hI:BitsAt w ao c I) (hn:I.length≤64) (hk:-5000≤k∧k≤5000) (hT:Tab w) :
  Calls Tryz.prog 281 #[.slice ao I.length c,.int .i64 k] w fun e w'=>e = .returned (.int .u64 (xV (sV (dtK (tL k I) (tL k I) I.length)) k:Nat))∧Below w.heap.size w w':=by
 refine normBy_of ao _ c (dtK (tL k I) (tL k I) I.length) (sV (dtK (tL k I) (tL k I) I.length)) _ k (sF (dtK (tL k I) (tL k I) I.length)) w (fun w' g=>BitsAt w' (some ⟨g,0,none⟩) I.length (tL k I)) (fun _ _ _ h hb=>h.below hb) ?_ ?_ ?_ ?_
 ·have b0:=below_alloc9 w (.cells #[.slice ao I.length c] 22)
  have x0:=new_cell w (.slice ao I.length c) 22
  have s0:=size_alloc9 w (.cells #[.slice ao I.length c] 22)
  generalize w.alloc (.cells #[.slice ao I.length c] 22) = w0 at *
  have b1:=below_alloc9 w0 (.cells #[.int .i64 k] 3)
  have x1:=new_cell w0 (.int .i64 k) 3
  have y0:=cell_keep x0 b1
  generalize w0.alloc (.cells #[.int .i64 k] 3) = w1 at *
  have bb:Below w.heap.size w w1:=b0.trans (b1.mono b0.size)
  rw [s0] at x1
  refine Calls.mono (each_any 287 #[.pointer (some ⟨w.heap.size,0,none⟩),.pointer (some ⟨w.heap.size+1,0,none⟩)] I.length (fun i=>xV (atB I i) (-k)) w1 cfNorm1 (by omega) ?_) ?_
  ·intro w' j hb hj
   have hb':Below w.heap.size w w':=bb.trans (hb.mono bb.size)
   obtain ⟨g1,o1,e1,_,z1⟩:=(hI.below hb').ne (by omega)
   have u0:=cell_keep y0 hb
   have u1:=cell_keep x1 hb
   rw [e1] at u0
   have T':=hT.all hb'
   exact norm1_of (atB I j) (xV (atB I j) (-k)) j I.length c w.heap.size (w.heap.size+1) k g1 o1 w' hj hk u0 u1 (z1 j hj)
    (fun w'' h=>vscale_any _ _ w'' (hI.lt j) (T'.all h))
  ·rintro e w' ⟨g,rfl,hg,hR,hb⟩
   refine ⟨g,rfl,?_,bb.trans (hb.mono bb.size),cell_keep x1 hb⟩
   have:=hR.bits (fun x hx=>by
    obtain ⟨j,_,rfl⟩:=List.mem_map.1 hx
    exact xV_lt _ _ (hI.lt j))
   simpa [tL,mkL] using this
 ·intro w' g hz hb
  have:=dot_any _ _ _ _ (tL k I) (tL k I) w' hz hz rfl (by rw [tL_len];omega) (hT.all hb)
  rw [tL_len] at this
  exact this
 ·intro w' hb
  exact rsqrt_any _ w' (dtK_lt _ _ _) (hT.all hb)
 ·intro w' hb
  exact vscale_any _ _ w' (sV_lt _ (dtK_lt _ _ _)) (hT.all hb)
end Go.Proofs.YtlnphkioddknfaaGreatDoor
namespace Go.Proofs.YtlnphkioddknfaaGreatDoor
open Go.RowKit
attribute [local go_sem ↓] Go.wp_at_zero Go.wp_at_succ
theorem eX_range (a:Nat) (ha:a < 18446744073709551616):-1074≤eX a∧eX a≤1024:=by
 unfold eX
 split
 ·omega
 ·rename_i h
  have fa:=fin_of a (fun e=>h (by omega)) (fun e=>h (by omega))
  obtain ⟨z1,z2,z3,z4,z5,z6,z7,z8,z9⟩:=sc_facts a ha fa (fun e=>h (by omega))
  omega
theorem bgK_form (I:List Int) (k:Nat):bgK I k≤9218868437227405312 ∨ bgK I k = 9221120237041090560:=by
 induction k with
 | zero=>exact .inl (by show 0≤9218868437227405312;omega)
 | succ k ih =>
  show mx (bgK I k) (fR (atB I k))≤9218868437227405312 ∨ mx (bgK I k) (fR (atB I k)) = 9221120237041090560
  have hr:=fR_lt (atB I k)
  generalize atB I k = x at *
  generalize bgK I k = m at *
  by_cases h:fK m = 4 ∨ fK (fR x) = 4
  ·right;unfold mx;rw [if_pos h]
  ·have e:mx m (fR x) = m ∨ mx m (fR x) = fR x:=by
    unfold mx
    rw [if_neg h]
    split
    ·exact .inr rfl
    ·exact .inl rfl
   rcases e with e | e
   ·rw [e];exact ih
   ·rw [e]
    left
    have h1:fR (fR x) = fR x:=(mag_fZ (fR x) hr).2.1
    have h2:=(fK_rungs (fR x)).1
    rw [h1] at h2
    rcases Nat.lt_or_ge 9218868437227405312 (fR x) with g | g
    ·exact absurd (.inr (h2.2 g)) h
    ·exact g
theorem bg_inf:fFin 9218868437227405312 = false∧fFin 9221120237041090560 = false:=by decide
theorem bg_small {m:Nat} (h:m < 9218868437227405312):fFin m = true:=(fK_rungs m).2.2.2 (by rw [(mag_fZ m (by omega)).2.1];exact h)
def nmV (I:List Int):Nat:=if bgK I I.length = 0 ∨ fFin (bgK I I.length) = false then bgK I I.length else xV (sV (dtK (tL (eX (bgK I I.length)) I) (tL (eX (bgK I I.length)) I) I.length)) (eX (bgK I I.length))
theorem nmV_lt (I:List Int):nmV I < 18446744073709551616:=by
 unfold nmV
 split
 ·exact bgK_lt _ _
 ·exact xV_lt _ _ (sV_lt _ (dtK_lt _ _ _))
theorem norm_odd (ao:Option Addr) (n c m:Nat) (w:World) (hn:n≤64) (hm:m = 0 ∨ m = 9218868437227405312 ∨ m = 9221120237041090560)
  (C1:Calls Tryz.prog 59 #[.slice ao n c] w fun e w''=>e = .returned (.int .u64 (m:Nat))∧Below w.heap.size w w'') :
  Calls Tryz.prog 272 #[.slice ao n c] w fun e w'=>e = .returned (.tuple #[.int .u64 (m:Nat),.int .i64 0])∧Below w.heap.size w w':=by
 have h1I:(n:Int)≤64:=by omega
 have K1:=hide C1
 clear C1
 rcases hm with rfl | rfl | rfl
 all_goals
  go_enter Tryz.func272,Tryz.ntmps272
  go_wp2_with fail
  refine Calls.mono (uH K1) ?_
  rintro e w1 ⟨rfl,hb1⟩
  clear K1
  go_wp2
  refine bodyPost_ret (v:=.tuple #[.int .u64 _,.int .i64 0]) (by simp [results,Tryz.results272,go_sem]) rfl ⟨rfl,hb1⟩
theorem norm_even (ao:Option Addr) (n c m o:Nat) (k:Int) (w:World) (hn:n≤64) (h0:m ≠ 0) (h1:m < 9218868437227405312)
  (C1:Calls Tryz.prog 59 #[.slice ao n c] w fun e w''=>e = .returned (.int .u64 (m:Nat))∧Below w.heap.size w w'')
  (C2:∀ w',Below w.heap.size w w'→Calls Tryz.prog 240 #[.int .u64 m] w' fun e w''=>e = .returned (.int .i64 k)∧Below w'.heap.size w' w'')
  (C3:∀ w',Below w.heap.size w w'→Calls Tryz.prog 281 #[.slice ao n c,.int .i64 k] w' fun e w''=>e = .returned (.int .u64 (o:Nat))∧Below w'.heap.size w' w'') :
  Calls Tryz.prog 272 #[.slice ao n c] w fun e w'=>e = .returned (.tuple #[.int .u64 (o:Nat),.int .i64 0])∧Below w.heap.size w w':=by
 have h1I:(n:Int)≤64:=by omega
 have K1:=hide C1;have K2:=hide C2;have K3:=hide C3
 have g0:¬ ((m:Int) = 0):=by omega
 have g1:¬ ((m:Int) = 9218868437227405312):=by omega
 have g2:¬ ((m:Int) = 9221120237041090560):=by omega
 clear C1 C2 C3 h1 h0
 go_enter Tryz.func272,Tryz.ntmps272
 go_wp2_with fail
 refine Calls.mono (uH K1) ?_
 rintro e w1 ⟨rfl,hb1⟩
 have B:=hide hb1
 clear K1 hb1
 go_wp2_with fail
 refine (uH K2 _ (uH B)).mono ?_
 rintro e w2 ⟨rfl,hb2⟩
 have B2:=hide ((uH B).trans (hb2.mono (uH B).size))
 clear K2 hb2 B
 go_wp2_with fail
 refine (uH K3 _ (uH B2)).mono ?_
 rintro e w3 ⟨rfl,hb3⟩
 have B3:=hide ((uH B2).trans (hb3.mono (uH B2).size))
 clear K3 hb3 B2
 go_wp2
 exact bodyPost_ret (v:=.tuple #[.int .u64 (o:Nat),.int .i64 0]) (by simp [results,Tryz.results272,go_sem]) rfl ⟨rfl,uH B3⟩
theorem vNorm_ok (ao:Option Addr) (c:Nat) (I:List Int) (w:World) (hI:BitsAt w ao c I) (hn:I.length≤64) (hT:Tab w) :
  Calls Tryz.prog 272 #[.slice ao I.length c] w fun e w'=>e = .returned (.tuple #[.int .u64 (nmV I:Nat),.int .i64 0])∧Below w.heap.size w w':=by
 have C1:=vBiggest_any ao c I w hI (by omega)
 have hm:=bgK_lt I I.length
 unfold nmV
 by_cases h0:bgK I I.length = 0
 ·rw [if_pos (.inl h0)]
  exact norm_odd ao _ c _ w hn (.inl h0) C1
 rcases bgK_form I I.length with h | h
 ·rcases Nat.lt_or_ge (bgK I I.length) 9218868437227405312 with g | g
  ·rw [if_neg (fun e=>e.elim h0 (fun e=>by rw [bg_small g] at e;cases e))]
   have hr:=eX_range _ hm
   exact norm_even ao _ c _ _ (eX (bgK I I.length)) w hn h0 g C1 (fun w' hb=>cexp_any _ w' hm (hT.all hb)) (fun w' hb=>normBy_any ao c I _ w' (hI.below hb) hn (by omega) (hT.all hb))
  ·have e:bgK I I.length = 9218868437227405312:=by omega
   rw [if_pos (.inr (by rw [e];exact bg_inf.1))]
   exact norm_odd ao _ c _ w hn (.inr (.inl e)) C1
 ·rw [if_pos (.inr (by rw [h];exact bg_inf.2))]
  exact norm_odd ao _ c _ w hn (.inr (.inr h)) C1
end Go.Proofs.YtlnphkioddknfaaGreatDoor
namespace Go.Proofs.YtlnphkioddknfaaGreatDoor
open Go.RowKit
attribute [local go_sem ↓] Go.wp_at_zero Go.wp_at_succ
theorem infoBits:(Tryz.prog.info? 37).map (fun i=>(i.zero,i.size,i.bytes)) = some (some (.int .u64 0),1,8):=by kernel_rfl
def OwnB (base:Nat) (w:World) (v:Value) (S:List Nat):Prop:=w.ownsRow base 37 1 v S.length (S.map bitV)∧∀ x ∈ S,x < 18446744073709551616
theorem OwnB.below {base:Nat} {w w':World} {v:Value} {S:List Nat} (h:OwnB base w v S) (hb:Below w.heap.size w w'):OwnB base w' v S :=
 ⟨h.1.kept (row:=none) ⟨hb.os,hb.tape,hb.output,hb.size,fun k hk _=>hb.block k hk⟩ (by cases hv:v.ownBlock <;> simp),h.2⟩
theorem OwnB.bits {base:Nat} {w:World} {v:Value} {S:List Nat} (h:OwnB base w v S):∃ ao cap,v = .slice ao S.length cap∧BitsAt w ao cap (S.map (fun x:Nat=>(x:Int))):=by
 have hl:(S.map bitV).length = S.length:=by simp
 have hf:∀ x ∈ S.map (fun x:Nat=>(x:Int)),0≤x∧x≤18446744073709551615:=by
  intro x hx
  obtain ⟨y,hy,rfl⟩:=List.mem_map.1 hx
  have:=h.2 y hy
  omega
 rcases h.1.2 with ⟨hv,h0⟩ | ⟨g,cap,cur,hv,hg,hh,hc,hm,hs,ht⟩
 ·have:S = []:=List.length_eq_zero_iff.1 (by omega)
  subst this
  exact ⟨none,0,hv,⟨by simp,by simp,.inl rfl⟩⟩
 ·refine ⟨some ⟨g,0,none⟩,cap,hv,⟨by simp;omega,hf,.inr ⟨g,0,rfl,(Array.getElem?_eq_some_iff.1 hh).1,fun i hi=>?_⟩⟩⟩
  have hi':i < S.length:=by simpa using hi
  have q:(S.map bitV)[i]? = some (.int .u64 ((S[i]:Nat):Int)):=by
   rw [List.getElem?_map,List.getElem?_eq_getElem hi'];rfl
  rw [← ht,List.getElem?_take,if_pos (by omega)] at q
  rw [cell_of_row w g _ _ _ _ hh,Nat.zero_add]
  have e:(S.map (fun x:Nat=>(x:Int)))[i]?.getD 0 = ((S[i]:Nat):Int):=by simp [hi']
  rw [e]
  simpa using q
theorem OwnB.nil (w:World) (base:Nat) (h:base≤w.heap.size):OwnB base (w.alloc (.cells #[] 37)) (.slice (some ⟨w.heap.size,0,none⟩) 0 0) [] :=
 ⟨World.ownsRow_made w #[] 0 h (by simp [maxLen]) (by simp),by simp⟩
theorem OwnB.snoc {base:Nat} {w:World} {v:Value} {S:List Nat} {x n:Nat} (hn:n = S.length) (h:w.ownsRow base 37 1 v (n+1) (S.map bitV ++ [.int .u64 (x:Int)])) (hS:∀ x ∈ S,x < 18446744073709551616) (hx:x < 18446744073709551616):OwnB base w v (S ++ [x]):=by
 subst hn
 refine ⟨by simpa [bitV] using h,fun y hy=>?_⟩
 rcases List.mem_append.1 hy with h1 | h1
 ·exact hS y h1
 ·simp at h1;subst h1;exact hx
def fsL (f:Nat→Nat) (k:Nat):List Nat:=(List.range k).map f
theorem fsL_len (f:Nat→Nat) (k:Nat):(fsL f k).length = k:=by simp [fsL]
theorem fsL_succ (f:Nat→Nat) (k:Nat):fsL f (k+1) = fsL f k ++ [f k]:=by simp [fsL,List.range_succ]
end Go.Proofs.YtlnphkioddknfaaGreatDoor
