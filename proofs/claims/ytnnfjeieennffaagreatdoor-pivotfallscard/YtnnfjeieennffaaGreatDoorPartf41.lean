/- Part 41 of the texts. -/
import Derived.Test.YtnnfjeieennffaaGreatDoorPartf40
import Derived.Test.YtnnfjeieennffaaGreatDoorPartf28
import Derived.Deep.RegionHeld3
import Derived.Test.YtnnfjeieennffaaGreatDoorPartf33
import Derived.Test.YtnnfjeieennffaaGreatDoorPartf37
import Derived.Test.YtnnfjeieennffaaGreatDoorPartf38
import Derived.Test.YtnnfjeieennffaaGreatDoorPartf36
import Derived.Deep.RegionLaw
import Derived.Test.YtnnfjeieennffaaGreatDoorPartf22
import Derived.Deep.RegionWith
import Derived.Test.YtnnfjeieennffaaGreatDoorPartf29
import Derived.Test.YtnnfjeieennffaaGreatDoorPartf39
import Derived.Deep.LoopGhost
import Derived.WalkMore
set_option maxHeartbeats 32000000
set_option maxRecDepth 20000
namespace Go.Proofs.YtnnfjeieennffaaGreatDoor
open Go.RowKit
attribute [local go_sem ↓] Go.wp_at_zero Go.wp_at_succ
theorem mxL_int (L:List Nat) {k:Nat} (hk:k < L.length):(mxL L)[k]?.getD 0 = ((L.getD k 0:Nat):Int):=by
 unfold mxL
 rw [List.getElem?_map,List.getElem?_eq_getElem hk,List.getD_eq_getElem?_getD,List.getElem?_eq_getElem hk]
 rfl
end Go.Proofs.YtnnfjeieennffaaGreatDoor
namespace Go.Proofs.YtnnfjeieennffaaGreatDoor
open Go.RowKit
attribute [local go_sem ↓] Go.wp_at_zero Go.wp_at_succ
def RowI (w:World) (g:Nat) (L:List Nat):Prop:=w.heap[g]? = some (.cells ((mxL L).map intV).toArray 3 (0,0))
theorem RowI.cell {w:World} {g:Nat} {L:List Nat} (h:RowI w g L) (j:Nat) (hj:j < L.length):w.cell? ⟨g,j,none⟩ = some (.int .i64 ((L[j]?.getD 0:Nat):Int)):=by
 rw [cell_of_row w g j _ _ _ h]
 simp [intV,mxL,hj]
theorem RowI.free {w:World} {g:Nat} {L:List Nat} (h:RowI w g L) (j:Nat):w.frozen? ⟨g,j,none⟩ = false:=frozen_of_row w g j _ _ h
theorem RowI.set {w:World} {g:Nat} {L:List Nat} (h:RowI w g L) (j x:Nat):RowI (w.setCell ⟨g,j,none⟩ (.int .i64 (x:Int))) g (L.set j x):=by
 unfold RowI
 rw [heap_setCell_same w g j _ _ _ h]
 simp [intV,mxL,List.map_set]
theorem RowI.lt {w:World} {g:Nat} {L:List Nat} (h:RowI w g L):g < w.heap.size:=(Array.getElem?_eq_some_iff.1 h).1
theorem RowI.below {w w':World} {g:Nat} {L:List Nat} (h:RowI w g L) {B:Nat} (hb:Below B w w') (hg:g < B):RowI w' g L:=by
 unfold RowI;rw [hb.block g hg];exact h
theorem RowI.all {w w':World} {g:Nat} {L:List Nat} (h:RowI w g L) (hb:Below w.heap.size w w'):RowI w' g L:=h.below hb h.lt
theorem RowI.other {w:World} {g:Nat} {L:List Nat} (h:RowI w g L) {p:Addr} (hp:g ≠ p.block) (u:Value):RowI (w.setCell p u) g L:=(Below.heap_setCell w p u g hp).trans h
theorem RowI.three {w:World} {b g:Nat} {L:List Nat} (h:RowI w b L) (hg:b ≠ g) (u u' u'':Value):RowI (((w.setCell ⟨g,0,none⟩ u).setCell ⟨g,1,none⟩ u').setCell ⟨g,2,none⟩ u'') b L :=
 ((h.other (p:=⟨g,0,none⟩) hg _).other (p:=⟨g,1,none⟩) hg _).other (p:=⟨g,2,none⟩) hg _
theorem RowI.grown {w w':World} {g:Nat} {L:List Nat} (h:RowI w g L) {o:Option Nat} (hg:w.grownBy w' o) (ho:o ≠ some g):RowI w' g L:=(hg.block g h.lt ho.symm).trans h
theorem RowB.other16 {w:World} {g:Nat} {L:List Nat} (h:RowB w g L) {p:Addr} (hp:g ≠ p.block) (u:Value):RowB (w.setCell p u) g L:=(Below.heap_setCell w p u g hp).trans h
theorem made_ints16 (n:Nat):madeCells #[Value.int .i64 0] n = ((mxL (List.replicate n 0)).map intV).toArray:=by
 apply Array.ext'
 refine List.ext_getElem (by simp [madeCells,mxL]) fun i h1 h2=>?_
 simp [madeCells,Nat.mod_one,mxL,intV]
theorem RowI.made (w:World) (n:Nat):RowI (w.alloc (.cells (madeCells #[.int .i64 0] n) 3)) w.heap.size (List.replicate n 0):=by
 unfold RowI
 rw [heap_alloc_new w _,made_ints16]
theorem RowI.ints {w:World} {g:Nat} {L:List Nat} (h:RowI w g L) (hL:∀ x ∈ L,x≤1000000):IntsAt w (some ⟨g,0,none⟩) L.length (mxL L):=by
 refine ⟨by rw [mxL_len];exact Nat.le_refl _,fun x hx=>?_,.inr ⟨g,0,rfl,h.lt,fun i hi=>?_⟩⟩
 ·obtain ⟨y,hy,rfl⟩:=List.mem_map.1 hx
  have:=hL y hy
  omega
 ·rw [mxL_len] at hi
  rw [Nat.zero_add,h.cell i hi,mxL_int L hi,List.getD_eq_getElem?_getD]
theorem copy_runI (W:World) (g n cap:Nat) (ao:Option Addr) (S:List Nat) (h:RowI W g (List.replicate n 0)) (hS:IntsAt W ao cap (mxL S)) (hl:S.length = n) :
  ∃ w',(∀ ty,(Builtin.copy_ #[26,26] ty #[.slice (some ⟨g,0,none⟩) n n,.slice ao n cap]).run Tryz.prog W = .ok (.int .i64 (n:Int)) w')∧RowI w' g S∧Below g W w':=by
 rcases Nat.eq_zero_or_pos n with e | e
 ·subst e
  obtain rfl:S = []:=List.eq_nil_of_length_eq_zero hl
  exact ⟨W,fun ty=>run_copy_none W _ _ ty 3 _ _ 0 0 0 cap Tryz.underlying26 (by kernel_rfl) rfl,h,Below.refl _ _⟩
 ·obtain ⟨b,off,rfl,hb,hc⟩:=hS.ne (by rw [mxL_len];omega)
  have hcs:∀ j v,((mxL S).map intV)[j]? = some v→W.cell? ((⟨b,off,none⟩:Addr).add j) = some v:=by
   intro j u hu
   rw [List.getElem?_map] at hu
   have hj:j < S.length:=by
    rcases Nat.lt_or_ge j S.length with e | e
    ·exact e
    ·rw [List.getElem?_eq_none (by rw [mxL_len];exact e)] at hu;cases hu
   rw [show (⟨b,off,none⟩:Addr).add j = ⟨b,off+j,none⟩ by simp [Addr.add],hc j (by rw [mxL_len];exact hj),← hu]
   rw [List.getElem?_eq_getElem (by rw [mxL_len];exact hj)]
   rfl
  have hlen:((mxL S).map intV).length = n:=by rw [List.length_map,mxL_len,hl]
  have run:=fun ty=>run_copy_row Tryz.prog W 26 26 ty 3 g 0 n n ⟨b,off,none⟩ n cap ((mxL (List.replicate n 0)).map intV).toArray 3 ((mxL S).map intV) Tryz.underlying26 (by kernel_rfl) h (by rw [hlen];exact (Nat.min_self n).symm) hcs (by rw [hlen];simp [mxL]) (fun v hv=>by obtain ⟨x,_,rfl⟩:=List.mem_map.1 hv;rfl)
  refine ⟨_,fun ty=>(run ty).trans (by rw [hlen];rfl),?_,below_setRow (Below.refl _ _) (Nat.le_refl _) _⟩
  unfold RowI
  rw [setRow_heap W g _ _ 3 _ h]
  congr 3
  simp [mxL]
theorem inOrder_any (n:Nat) (w:World) (hn:n≤1000) :
  Calls Tryz.prog 70 #[.int .i64 n] w fun e w'=>∃ g,e = .returned (.slice (some ⟨g,0,none⟩) n n)∧w.heap.size≤g∧RowI w' g (List.range n)∧Below w.heap.size w w':=by
 have hmk:=run_make_row' (P:=Tryz.prog) 26 3 (.int .i64 0) 8 Tryz.underlying26 (by kernel_rfl) rfl .i64 .i64 n (by omega) (by omega)
 have S0:=hide (RowI.made w n)
 rw [show List.replicate n 0 = eaL id n 0 from (eaL_0 id n).symm] at S0
 have B0:=hide (below_alloc9 w (.cells (madeCells #[.int .i64 0] n) 3))
 go_enter Tryz.func70,Tryz.ntmps70
 go_wp2_with fail
 clear hmk
 go_loopw [9] (fun a wr=>∃ j:Nat,j≤n∧a = .int .i64 j∧Hid (RowI wr w.heap.size (eaL id n j))∧Hid (Below w.heap.size w wr)) (fun a _=>n - (intOf a).toNat)
 case atStart=>exact ⟨0,Nat.zero_le _,rfl,S0,B0⟩
 case round =>
  clear S0 B0
  obtain ⟨j,hj,rfl,hS,hB⟩:=hrel
  by_cases hlt:j < n
  ·have hjI:(j:Int) < (n:Int):=by omega
   have d1:=(uH hS).cell j (by rw [eaL_len];exact hlt)
   have f1:=(uH hS).free j
   have S1:=hide ((uH hS).set j j)
   rw [show (eaL id n j).set j j = eaL id n (j+1) from eaL_set id n j] at S1
   have B1:=hide ((uH hB).setCell (p:=⟨w.heap.size,j,none⟩) (Nat.le_refl _) (.int .i64 (j:Int)))
   clear hS hB
   go_wp2_with fail
   go_round
   case rel=>exact ⟨j+1,by omega,by go_num,S1,B1⟩
   case measure=>first | (simp [intOf];done) | (simp [intOf];omega)
  ·have hjj:j = n:=by omega
   subst hjj
   rw [show eaL id j j = List.range j from by rw [eaL_full,List.map_id]] at hS
   go_wp2_with fail
   go_ret
   exact ⟨_,rfl,Nat.le_refl _,uH hS,uH hB⟩
theorem chB_of (n c m j k cap:Nat) (ao:Option Addr) (TJ:Nat→List Nat) (P:Nat→Nat) (w:World) (h36:n≤1000) (hc:c≤1000) (hj:j < c) (hk:k < c) (hS:BitsAt w ao cap (mxL (TJ 0))) (lJ:∀ i,(TJ i).length = n)
  (hP:P 0 = 0∧P m = n∧∀ i,i < m→P i+c = P (i+1)∧P (i+1)≤n∧((TJ i).set (P i+j) ((TJ i)[P i+k]?.getD 0)).set (P i+k) ((TJ i)[P i+j]?.getD 0) = TJ (i+1)) :
  Calls Tryz.prog 72 #[.slice ao n cap,.int .i64 c,.int .i64 j,.int .i64 k] w fun e w'=>∃ g,e = .returned (.slice (some ⟨g,0,none⟩) n n)∧w.heap.size≤g∧RowB w' g (TJ m)∧Below w.heap.size w w':=by
 have hmk:=run_make_row' (P:=Tryz.prog) 22 31 (.int .u64 0) 8 Tryz.underlying22 (by kernel_rfl) rfl .i64 .i64 n (by omega) (by omega)
 have b0:=below_alloc9 w (.cells (madeCells #[.int .u64 0] n) 31)
 obtain ⟨w5,hcp,hr5,hb5⟩:=copy_run _ w.heap.size n cap ao (TJ 0) (RowB.made w n) (hS.below b0) (lJ 0)
 have S0:=hide hr5
 have B0:=hide (b0.trans hb5)
 obtain ⟨hP0,hPm,hPs⟩:=hP
 have HP:=hide hPs;have LJ:=hide lJ;have HP0:=hide hP0;have HPM:=hide hPm
 clear hPs lJ hS hr5 hb5 b0 hP0 hPm
 go_enter Tryz.func72,Tryz.ntmps72
 go_wp2_with fail
 clear hmk hcp
 go_loopw [10] (fun a wr=>∃ i:Nat,i≤m∧a = .int .i64 (P i:Nat)∧Hid (RowB wr w.heap.size (TJ i))∧Hid (Below w.heap.size w wr)) (fun a _=>n - (intOf a).toNat)
 case atStart=>exact ⟨0,Nat.zero_le _,by rw [uH HP0];rfl,S0,B0⟩
 case round =>
  clear S0 B0
  obtain ⟨i,hi,rfl,hS,hB⟩:=hrel
  by_cases hlt:i < m
  ·obtain ⟨e1,e2,e3⟩:=uH HP i hlt
   generalize hpi:P i = p at *
   generalize hpn:P (i+1) = p2 at *
   have hpI:(p:Int) < (n:Int):=by omega
   have a1:(p:Int)+(j:Int) < (n:Int):=by omega
   have a2:(p:Int)+(k:Int) < (n:Int):=by omega
   have w1:IntKind.i64.wrap ((p:Int)+(j:Int)) = (p:Int)+(j:Int):=wrap_in _ (by omega)
   have w2:IntKind.i64.wrap ((p:Int)+(k:Int)) = (p:Int)+(k:Int):=wrap_in _ (by omega)
   have w3:IntKind.i64.wrap ((p:Int)+(c:Int)) = (p2:Int):=(wrap_in _ (by omega)).trans (by omega)
   have w4:(p:Int)+(c:Int) = (p2:Int):=by omega
   obtain ⟨x,hx⟩:∃ x,p+j = x:=⟨_,rfl⟩
   obtain ⟨y,hy⟩:∃ y,p+k = y:=⟨_,rfl⟩
   have x1:(p:Int)+(j:Int) = (x:Int):=by omega
   have y1:(p:Int)+(k:Int) = (y:Int):=by omega
   rw [hx,hy] at e3
   rw [x1] at a1 w1
   rw [y1] at a2 w2
   have d1:=(uH hS).cell x (by rw [uH LJ];omega)
   have d2:=(uH hS).cell y (by rw [uH LJ];omega)
   have f1:=(uH hS).free x
   have f2:=(uH hS).free y
   generalize hu:((TJ i)[x]?.getD 0) = u at *
   generalize hv:((TJ i)[y]?.getD 0) = v at *
   have T1:=(uH hS).set x v
   have f3:=T1.free y
   have d3:=T1.cell y (by rw [List.length_set,uH LJ];omega)
   generalize (((TJ i).set x v)[y]?.getD 0) = u3 at d3
   have T2:=hide (T1.set y u)
   rw [e3] at T2
   have B1:=hide (((uH hB).setCell (p:=⟨w.heap.size,x,none⟩) (Nat.le_refl _) (.int .u64 (v:Int))).setCell (p:=⟨w.heap.size,y,none⟩) (Nat.le_refl _) (.int .u64 (u:Int)))
   have HE1:=hide e1;have HE2:=hide e2;have HPN:=hide hpn
   clear hS hB T1 e1 e2 e3 hx hy hpi hpn hu hv
   go_wp2_with fail
   go_region_with (fail "NO ARM")
   all_goals
    go_wp2_with fail
    go_round
    case rel=>exact ⟨i+1,by omega,by rw [uH HPN],T2,hide ((uH B1).drew)⟩
    case measure=>have:=uH HE1;have:=uH HE2;first | (simp [intOf];done) | (simp [intOf];omega)
  ·have hii:i = m:=by omega
   subst hii
   rw [uH HPM]
   go_wp2_with fail
   go_ret
   exact ⟨_,rfl,Nat.le_refl _,uH hS,uH hB⟩
theorem chI_of (n c m j k cap:Nat) (ao:Option Addr) (TJ:Nat→List Nat) (P:Nat→Nat) (w:World) (h36:n≤1000) (hc:c≤1000) (hj:j < c) (hk:k < c) (hS:IntsAt w ao cap (mxL (TJ 0))) (lJ:∀ i,(TJ i).length = n)
  (hP:P 0 = 0∧P m = n∧∀ i,i < m→P i+c = P (i+1)∧P (i+1)≤n∧((TJ i).set (P i+j) ((TJ i)[P i+k]?.getD 0)).set (P i+k) ((TJ i)[P i+j]?.getD 0) = TJ (i+1)) :
  Calls Tryz.prog 73 #[.slice ao n cap,.int .i64 c,.int .i64 j,.int .i64 k] w fun e w'=>∃ g,e = .returned (.slice (some ⟨g,0,none⟩) n n)∧w.heap.size≤g∧RowI w' g (TJ m)∧Below w.heap.size w w':=by
 have hmk:=run_make_row' (P:=Tryz.prog) 26 3 (.int .i64 0) 8 Tryz.underlying26 (by kernel_rfl) rfl .i64 .i64 n (by omega) (by omega)
 have b0:=below_alloc9 w (.cells (madeCells #[.int .i64 0] n) 3)
 obtain ⟨w5,hcp,hr5,hb5⟩:=copy_runI _ w.heap.size n cap ao (TJ 0) (RowI.made w n) (hS.below b0) (lJ 0)
 have S0:=hide hr5
 have B0:=hide (b0.trans hb5)
 obtain ⟨hP0,hPm,hPs⟩:=hP
 have HP:=hide hPs;have LJ:=hide lJ;have HP0:=hide hP0;have HPM:=hide hPm
 clear hPs lJ hS hr5 hb5 b0 hP0 hPm
 go_enter Tryz.func73,Tryz.ntmps73
 go_wp2_with fail
 clear hmk hcp
 go_loopw [10] (fun a wr=>∃ i:Nat,i≤m∧a = .int .i64 (P i:Nat)∧Hid (RowI wr w.heap.size (TJ i))∧Hid (Below w.heap.size w wr)) (fun a _=>n - (intOf a).toNat)
 case atStart=>exact ⟨0,Nat.zero_le _,by rw [uH HP0];rfl,S0,B0⟩
 case round =>
  clear S0 B0
  obtain ⟨i,hi,rfl,hS,hB⟩:=hrel
  by_cases hlt:i < m
  ·obtain ⟨e1,e2,e3⟩:=uH HP i hlt
   generalize hpi:P i = p at *
   generalize hpn:P (i+1) = p2 at *
   have hpI:(p:Int) < (n:Int):=by omega
   have a1:(p:Int)+(j:Int) < (n:Int):=by omega
   have a2:(p:Int)+(k:Int) < (n:Int):=by omega
   have w1:IntKind.i64.wrap ((p:Int)+(j:Int)) = (p:Int)+(j:Int):=wrap_in _ (by omega)
   have w2:IntKind.i64.wrap ((p:Int)+(k:Int)) = (p:Int)+(k:Int):=wrap_in _ (by omega)
   have w3:IntKind.i64.wrap ((p:Int)+(c:Int)) = (p2:Int):=(wrap_in _ (by omega)).trans (by omega)
   have w4:(p:Int)+(c:Int) = (p2:Int):=by omega
   obtain ⟨x,hx⟩:∃ x,p+j = x:=⟨_,rfl⟩
   obtain ⟨y,hy⟩:∃ y,p+k = y:=⟨_,rfl⟩
   have x1:(p:Int)+(j:Int) = (x:Int):=by omega
   have y1:(p:Int)+(k:Int) = (y:Int):=by omega
   rw [hx,hy] at e3
   rw [x1] at a1 w1
   rw [y1] at a2 w2
   have d1:=(uH hS).cell x (by rw [uH LJ];omega)
   have d2:=(uH hS).cell y (by rw [uH LJ];omega)
   have f1:=(uH hS).free x
   have f2:=(uH hS).free y
   generalize hu:((TJ i)[x]?.getD 0) = u at *
   generalize hv:((TJ i)[y]?.getD 0) = v at *
   have T1:=(uH hS).set x v
   have f3:=T1.free y
   have d3:=T1.cell y (by rw [List.length_set,uH LJ];omega)
   generalize (((TJ i).set x v)[y]?.getD 0) = u3 at d3
   have T2:=hide (T1.set y u)
   rw [e3] at T2
   have B1:=hide (((uH hB).setCell (p:=⟨w.heap.size,x,none⟩) (Nat.le_refl _) (.int .i64 (v:Int))).setCell (p:=⟨w.heap.size,y,none⟩) (Nat.le_refl _) (.int .i64 (u:Int)))
   have HE1:=hide e1;have HE2:=hide e2;have HPN:=hide hpn
   clear hS hB T1 e1 e2 e3 hx hy hpi hpn hu hv
   go_wp2_with fail
   go_region_with (fail "NO ARM")
   all_goals
    go_wp2_with fail
    go_round
    case rel=>exact ⟨i+1,by omega,by rw [uH HPN],T2,hide ((uH B1).drew)⟩
    case measure=>have:=uH HE1;have:=uH HE2;first | (simp [intOf];done) | (simp [intOf];omega)
  ·have hii:i = m:=by omega
   subst hii
   rw [uH HPM]
   go_wp2_with fail
   go_ret
   exact ⟨_,rfl,Nat.le_refl _,uH hS,uH hB⟩
end Go.Proofs.YtnnfjeieennffaaGreatDoor
namespace Go.Proofs.YtnnfjeieennffaaGreatDoor
open Go.RowKit
attribute [local go_sem ↓] Go.wp_at_zero Go.wp_at_succ
theorem cO_cases (a b:Nat):cO a b = -1 ∨ cO a b = 0 ∨ cO a b = 1:=by
 unfold cO cmpI
 repeat' split
 all_goals simp
theorem cless_any (a b:Nat) (w:World) (ha:a < 18446744073709551616) (hb:b < 18446744073709551616) :
  Calls Tryz.prog 44 #[.int .u64 a,.int .u64 b] w fun r w'=>r = .returned (.bool (decide (cO a b < 0)))∧Below w.heap.size w w':=by
 have C:=fun w'=>corder_any a b w' ha hb
 have hB:cB a b = false→cO a b = 0:=by
  unfold cB cO
  split
  ·intro _;rfl
  ·intro e;cases e
 cases hc:cB a b
 ·have h0:=hB hc
  rw [h0,hc] at C
  rw [h0]
  exact less_of a b 0 false false false w (.inl ⟨rfl,rfl,rfl,rfl⟩) C
 ·rw [hc] at C
  rcases cO_cases a b with e | e | e
  ·rw [e] at C ⊢
   exact less_of a b (-1) true true false w (.inr (.inl ⟨rfl,rfl,rfl,rfl⟩)) C
  ·rw [e] at C ⊢
   exact less_of a b 0 true false true w (.inr (.inr (.inl ⟨rfl,rfl,rfl,rfl⟩))) C
  ·rw [e] at C ⊢
   exact less_of a b 1 true false false w (.inr (.inr (.inr ⟨rfl,rfl,rfl,rfl⟩))) C
theorem keep1_of (k n b m b' m' gb gm H:Nat) (o:Bool) (w:World) (hgb:H≤gb) (hgm:H≤gm) (hne:gb ≠ gm) (hB:RowI w gb [b]) (hM:RowB w gm [m]) (ho:(o = true∧b' = k∧m' = n) ∨ (o = false∧b' = b∧m' = m))
  (C1:∀ w',Calls Tryz.prog 44 #[.int .u64 m,.int .u64 n] w' fun e w''=>e = .returned (.bool o)∧Below w'.heap.size w' w'') :
  Calls Tryz.prog 142 #[.int .i64 k,.int .u64 n,.pointer (some ⟨gm,0,none⟩),.pointer (some ⟨gb,0,none⟩)] w fun e w'=>e = .returned (.int .i64 b')∧RowI w' gb [b']∧RowB w' gm [m']∧Below H w w':=by
 have K1:=hide C1
 have c1:w.cell? ⟨gm,0,none⟩ = some (.int .u64 (m:Nat)):=by simpa using hM.cell 0 (by simp)
 have hlt:=hB.lt
 have HB:=hide hB;have HM:=hide hM
 clear C1 hB hM
 rcases ho with ⟨rfl,rfl,rfl⟩ | ⟨rfl,rfl,rfl⟩
 ·go_enter Tryz.func142,Tryz.ntmps142
  go_wp2_with fail
  refine (uH K1 _).mono ?_
  rintro e w1 ⟨rfl,hb⟩
  have B1:=(uH HB).below hb (uH HB).lt
  have M1:=(uH HM).below hb (uH HM).lt
  have c2:w1.cell? ⟨gm,0,none⟩ = some (.int .u64 (m:Nat)):=by simpa using M1.cell 0 (by simp)
  have c3:w1.cell? ⟨gb,0,none⟩ = some (.int .i64 (b:Nat)):=by simpa using B1.cell 0 (by simp)
  have f1:=B1.free 0
  have B2:=B1.set 0 b'
  have M2:=M1.other16 (p:=⟨gb,0,none⟩) (by exact fun e=>hne e.symm) (.int .i64 (b':Int))
  have c4:(w1.setCell ⟨gb,0,none⟩ (.int .i64 (b':Int))).cell? ⟨gm,0,none⟩ = some (.int .u64 (m:Nat)):=by simpa using M2.cell 0 (by simp)
  have f2:=M2.free 0
  have M3:=M2.set 0 m'
  have B3:=B2.other (p:=⟨gm,0,none⟩) (by exact hne) (.int .u64 (m':Int))
  have c5:((w1.setCell ⟨gb,0,none⟩ (.int .i64 (b':Int))).setCell ⟨gm,0,none⟩ (.int .u64 (m':Int))).cell? ⟨gb,0,none⟩ = some (.int .i64 (b':Nat)):=by simpa using B3.cell 0 (by simp)
  have BW:Below H w ((w1.setCell ⟨gb,0,none⟩ (.int .i64 (b':Int))).setCell ⟨gm,0,none⟩ (.int .u64 (m':Int))):=((hb.mono (show H≤w.heap.size by omega)).setCell (p:=⟨gb,0,none⟩) hgb _).setCell (p:=⟨gm,0,none⟩) hgm _
  have Q1:=hide B3;have Q2:=hide M3;have Q3:=hide BW
  clear B1 M1 B2 M2 M3 B3 BW hb K1 c1 HB HM
  go_wp2_with fail
  go_ret
  exact ⟨rfl,by simpa using uH Q1,by simpa using uH Q2,uH Q3⟩
 ·go_enter Tryz.func142,Tryz.ntmps142
  go_wp2_with fail
  refine (uH K1 _).mono ?_
  rintro e w1 ⟨rfl,hb⟩
  have B1:=(uH HB).below hb (uH HB).lt
  have M1:=(uH HM).below hb (uH HM).lt
  have c3:w1.cell? ⟨gb,0,none⟩ = some (.int .i64 (b':Nat)):=by simpa using B1.cell 0 (by simp)
  have Q1:=hide B1;have Q2:=hide M1;have Q3:=hide (hb.mono (show H≤w.heap.size by omega))
  clear B1 M1 hb K1 c1 HB HM
  go_wp2_with fail
  go_ret
  exact ⟨rfl,uH Q1,uH Q2,uH Q3⟩
theorem keeper_any (j:Nat) (w:World) :
  Calls Tryz.prog 119 #[.int .i64 j] w fun e w'=>∃ gb gm,e = .returned (.func (.func 142) #[] #[.pointer (some ⟨gm,0,none⟩),.pointer (some ⟨gb,0,none⟩)])∧w.heap.size≤gb∧w.heap.size≤gm∧gb ≠ gm∧RowI w' gb [j]∧RowB w' gm [0]∧Below w.heap.size w w':=by
 have R1:RowI (w.alloc (.cells #[.int .i64 (j:Int)] 3)) w.heap.size [j]:=heap_alloc_new w _
 have b1:=below_alloc9 w (.cells #[.int .i64 (j:Int)] 3)
 have s1:=size_alloc9 w (.cells #[.int .i64 (j:Int)] 3)
 have R2:RowB ((w.alloc (.cells #[.int .i64 (j:Int)] 3)).alloc (.cells #[.int .u64 0] 31)) (w.heap.size+1) [0]:=by
  have:=heap_alloc_new (w.alloc (.cells #[.int .i64 (j:Int)] 3)) (.cells #[.int .u64 0] 31)
  rw [s1] at this
  exact this
 have b2:=below_alloc9 (w.alloc (.cells #[.int .i64 (j:Int)] 3)) (.cells #[.int .u64 0] 31)
 have R3:=hide (R1.below b2 R1.lt)
 have Q2:=hide R2
 have Q3:=hide (b1.trans (b2.mono b1.size))
 clear R1 b1 s1 R2 b2
 go_enter Tryz.func119,Tryz.ntmps119
 go_wp2_with fail
 go_ret
 exact ⟨_,_,rfl,Nat.le_refl _,Nat.le_add_right _ _,by omega,uH R3,uH Q2,uH Q3⟩
structure GtSt (w wr:World) (r c n cap gb gm b m:Nat) (ro:Option Addr):Prop where
 bel:Below w.heap.size w wr
 a:BoxM wr w.heap.size (.int .i64 r) (.int .i64 c) (.slice ro n cap)
 hb:RowI wr gb [b]
 hm:RowB wr gm [m]
 lb:w.heap.size+1≤gb
 lm:w.heap.size+1≤gm
 ne:gb ≠ gm
theorem GtSt.all {w wr w':World} {r c n cap gb gm b m:Nat} {ro:Option Addr} (t:GtSt w wr r c n cap gb gm b m ro) (hb:Below wr.heap.size wr w'):GtSt w w' r c n cap gb gm b m ro :=
 ⟨t.bel.trans (hb.mono t.bel.size),t.a.all hb,t.hb.below hb t.hb.lt,t.hm.below hb t.hm.lt,t.lb,t.lm,t.ne⟩
theorem greatest_of (r c n cap j L z:Nat) (ro:Option Addr) (S:List Nat) (X:Nat→List Nat) (N B M:Nat→Nat) (f F:Nat→Bool) (w:World) (hr:r≤6) (hc:c≤6) (hj:j < r) (hL:r - j = L) (hz:j+z = c) (hS:BitsAt w ro cap (mxL S)) (hB0:B 0 = j∧M 0 = 0) (hF0:F 0 = true)
  (hBt:∀ t,t < z→F (t+1) = (F t && f (j+t))∧M t < 18446744073709551616∧N (j+t) < 18446744073709551616∧((cO (M t) (N (j+t)) < 0∧B (t+1) = j+t∧M (t+1) = N (j+t)) ∨ (¬ cO (M t) (N (j+t)) < 0∧B (t+1) = B t∧M (t+1) = M t))) (hFz:∀ t,t < z→F (t+1) = false→F z = false)
  (C1:∀ w' k,j≤k→k < c→BitsAt w' ro cap (mxL S)→Calls Tryz.prog 69 #[.agg #[.int .i64 r,.int .i64 c,.slice ro n cap],.int .i64 (j:Nat),.int .i64 (k:Nat),.int .i64 (L:Nat),.int .i64 1] w' fun e w''=>∃ bo d,e = .returned (.tuple #[.agg #[.int .i64 (L:Nat),.int .i64 1,.slice bo L d],.int .i64 0])∧BitsAt w'' bo d (mxL (X k))∧Below w'.heap.size w' w'')
  (C2:∀ w' k bo d,j≤k→k < c→Below w.heap.size w w'→BitsAt w' bo d (mxL (X k))→Calls Tryz.prog 120 #[.slice bo L d] w' fun e w''=>e = .returned (.tuple #[.int .u64 (N k:Nat),.int .i64 0])∧Below w'.heap.size w' w'')
  (C3:∀ w' k,j≤k→k < c→Calls Tryz.prog 68 #[.int .u64 (N k:Nat)] w' fun e w''=>e = .returned (.bool (f k))∧Below w'.heap.size w' w'') :
  Calls Tryz.prog 71 #[.agg #[.int .i64 r,.int .i64 c,.slice ro n cap],.int .i64 (j:Nat)] w fun e w'=>((F z = true∧e = .returned (.tuple #[.int .i64 (B z:Nat),.int .i64 0])) ∨ (F z = false∧e = .returned (.tuple #[.int .i64 0,.int .i64 2])))∧Below w.heap.size w w':=by
 have b0:=below_alloc9 w (.cells #[.int .i64 r,.int .i64 c,.slice ro n cap] 24)
 have s0:=size_alloc9 w (.cells #[.int .i64 r,.int .i64 c,.slice ro n cap] 24)
 have HX:=hide (BoxM.new w (.int .i64 r) (.int .i64 c) (.slice ro n cap))
 have HB:=hide b0
 have HS:=hide hS
 have K0:=hide (keeper_any j (w.alloc (.cells #[.int .i64 r,.int .i64 c,.slice ro n cap] 24)))
 rw [s0] at K0
 have K1:=hide C1;have K2:=hide C2;have K3:=hide C3;have HBT:=hide hBt;have HFZ:=hide hFz;have HB0:=hide hB0;have HF0:=hide hF0
 have eL:IntKind.i64.wrap ((r:Int) - (j:Int)) = (L:Int):=(wrap_in _ (by omega)).trans (by omega)
 have eL2:(r:Int) - (j:Int) = (L:Int):=by omega
 clear b0 s0 hS C1 C2 C3 hBt hFz hB0 hF0 hL
 go_enter Tryz.func71,Tryz.ntmps71
 go_wp2_with fail
 refine (uH K0).mono ?_
 rintro e w1 ⟨gb,gm,rfl,lb,lm,hne,h1,h2,hb⟩
 have b1:Below w.heap.size w w1:=(uH HB).trans (hb.mono (Nat.le_succ _))
 have ST:Hid (GtSt w w1 r c n cap gb gm (B 0) (M 0) ro):=hide (by
  have e:=uH HB0
  rw [e.1,e.2]
  have hlt:=(uH HX).lt
  exact ⟨b1,(uH HX).below hb (Nat.lt_succ_self _),h1,h2,lb,lm,hne⟩)
 clear K0 HB HX hb h1 h2 b1
 go_wp2_with fail
 go_loopw [6,8] (fun p a wr=>∃ t:Nat,t≤z∧p = .int .i64 (B t:Nat)∧a = .int .i64 ((j+t:Nat):Int)∧Hid (F t = true)∧Hid (GtSt w wr r c n cap gb gm (B t) (M t) ro)) (fun _ a _=>c - (intOf a).toNat)
 case atStart=>exact ⟨0,Nat.zero_le _,by rw [(uH HB0).1],by first | rfl | simp,HF0,ST⟩
 case round =>
  clear ST HB0 HF0
  obtain ⟨t,htz,rfl,rfl,hF,hS⟩:=hrel
  obtain ⟨k,hk⟩:∃ k,j+t = k:=⟨_,rfl⟩
  have HBt:=hide (fun h=>uH HBT t h)
  have HFt:=hide (fun h=>uH HFZ t h)
  rw [hk] at HBt ⊢
  have y0:=(uH hS).a.c0;have y1:=(uH hS).a.c1;have y2:=(uH hS).a.c2
  by_cases hlt:k < c
  ·have hkI:(k:Int) < (c:Int):=by omega
   obtain ⟨q1,q2,q3,q4⟩:=uH HBt (by omega)
   have G1:=hide (uH K1 wr k (by omega) hlt ((uH HS).below (uH hS).bel))
   have G2:=hide (fun w' bo d=>uH K2 w' k bo d (by omega) hlt)
   have G3:=hide (fun w'=>uH K3 w' k (by omega) hlt)
   have G4:=hide (fun w'=>cless_any (M t) (N k) w' q2 q3)
   have hw1:IntKind.i64.wrap ((k:Int)+1) = (k:Int)+1:=wrap_in _ (by omega)
   have QF:=hide q1;have Q4:=hide q4
   clear q1 q2 q3 q4 HBt
   go_wp2_with fail
   clear y0 y1 y2
   refine (uH G1).mono ?_
   rintro e w2 ⟨bo,d,rfl,hx,hb⟩
   have ba:=below_alloc9 w2 (.cells #[.int .i64 (L:Int),.int .i64 1,.slice bo L d] 24)
   have CB:=BoxM.new w2 (.int .i64 (L:Int)) (.int .i64 1) (.slice bo L d)
   replace hS:=hide (((uH hS).all hb).all ba)
   have HX:=hide (hx.below ba)
   have y2:=CB.c2
   clear hb hx ba G1 CB
   go_wp2_with fail
   clear y2
   refine (uH G2 _ bo d (uH hS).bel (uH HX)).mono ?_
   rintro e w3 ⟨rfl,hb⟩
   replace hS:=hide ((uH hS).all hb)
   clear hb HX G2
   go_wp2_with fail
   refine (uH G3 _).mono ?_
   rintro e w4 ⟨rfl,hb⟩
   replace hS:=hide ((uH hS).all hb)
   clear hb G3
   cases hf:f k with
   | false =>
    have hno:Hid (F z = false):=hide (uH HFt (by omega) (by rw [uH QF,hf,Bool.and_false]))
    have BW:=hide (uH hS).bel
    clear hS Q4 G4 QF HFt
    go_wp2_with fail
    exact bodyPost_ret (v:=.tuple #[.int .i64 0,.int .i64 2]) (by simp [results,Tryz.results71,go_sem]) rfl ⟨.inr ⟨uH hno,rfl⟩,uH BW⟩
   | true =>
    have hyes:Hid (F (t+1) = true):=hide (by rw [uH QF,hf,uH hF];rfl)
    clear QF HFt
    have hs:=uH hS
    have lt1:=Nat.lt_of_lt_of_le (Nat.lt_succ_self w.heap.size) hs.lb
    have G5:Hid (Calls Tryz.prog 142 #[.int .i64 k,.int .u64 (N k:Nat),.pointer (some ⟨gm,0,none⟩),.pointer (some ⟨gb,0,none⟩)] w4 fun e w'=>e = .returned (.int .i64 (B (t+1):Nat))∧RowI w' gb [B (t+1)]∧RowB w' gm [M (t+1)]∧Below (w.heap.size+1) w4 w'):=hide (by
     rcases uH Q4 with ⟨g,e1,e2⟩ | ⟨g,e1,e2⟩
     ·have:=keep1_of k (N k) (B t) (M t) (B (t+1)) (M (t+1)) gb gm (w.heap.size+1) true w4 hs.lb hs.lm hs.ne hs.hb hs.hm (.inl ⟨rfl,by rw [e1],e2⟩) (fun w'=>by have:=uH G4 w';rwa [decide_eq_true (show cO (M t) (N k) < 0 by omega)] at this)
      exact this
     ·have:=keep1_of k (N k) (B t) (M t) (B (t+1)) (M (t+1)) gb gm (w.heap.size+1) false w4 hs.lb hs.lm hs.ne hs.hb hs.hm (.inr ⟨rfl,e1,e2⟩) (fun w'=>by have:=uH G4 w';rwa [decide_eq_false (show ¬ cO (M t) (N k) < 0 by omega)] at this)
      exact this)
    clear hs Q4 G4
    go_wp2_with fail
    refine (uH G5).mono ?_
    rintro e w5 ⟨rfl,h1,h2,hb⟩
    have hs:=uH hS
    have S5:Hid (GtSt w w5 r c n cap gb gm (B (t+1)) (M (t+1)) ro):=hide ⟨hs.bel.trans (hb.mono (Nat.le_succ _)),hs.a.below hb (Nat.lt_succ_self _),h1,h2,hs.lb,hs.lm,hs.ne⟩
    clear hs hS h1 h2 hb G5
    go_wp2_with fail
    go_round
    case rel=>exact ⟨t+1,by omega,rfl,by first | go_num | (simp;omega),hyes,S5⟩
    case measure=>first | (simp [intOf];done) | (simp [intOf];omega)
  ·have htt:t = z:=by omega
   subst htt
   have hkk:¬ (k:Int) < (c:Int):=by omega
   have BW:=hide (uH hS).bel
   clear hS
   go_wp2_with fail
   exact bodyPost_ret (v:=.tuple #[.int .i64 (B t:Nat),.int .i64 0]) (by simp [results,Tryz.results71,go_sem]) rfl ⟨.inl ⟨uH hF,rfl⟩,uH BW⟩
end Go.Proofs.YtnnfjeieennffaaGreatDoor
namespace Go.Proofs.YtnnfjeieennffaaGreatDoor
open Go.RowKit
attribute [local go_sem ↓] Go.wp_at_zero Go.wp_at_succ
theorem step_append16 {P:Program} (w:World) {ops:Array Oper} {o:Oper} {a:Act} {K:Act→World→Prop} {Q:Exit→Act→World→Prop} {E:Prop} (hgd:o.guard = none) (s x:Operand) (t:TypeId)
  (ho:o.op = .call { callee:=.builtin .append,args:=#[s,x],argTypes:=#[t,t] }) (v1 v2:Value) (F:Value→World→Prop) (hs:a.eval s = v1) (hx:a.eval x = v2)
  (hr:∃ v' w',(Builtin.append_ #[t,t] o.type #[v1,v2]).run P w = .ok v' w'∧F v' w') (h:∀ v' w',F v' w'→K (a.put o.dst v') w') :
  if Region.wanted o (yielded ops a.tmps) = true then Oper.wp P o a w K Q else E:=by
 have hw:Region.wanted o (yielded ops a.tmps) = true:=by simp [Region.wanted,hgd]
 rw [if_pos hw]
 obtain ⟨v',w',hrun,hF⟩:=hr
 unfold Oper.wp execOp
 simp only [ho,resolve,invoke,builtin,Sem.run_bind,Sem.run_pure,Result.andThen_ok,List.map_toArray,List.map_cons,List.map_nil,hs,hx,hrun]
 exact h v' w' hF
theorem bits_offM {w:World} {ao:Option Addr} {c:Nat} {I:List Int} (h:BitsAt w ao c I) {g:Nat} {x y:Int} {a:Option Addr} {n d:Nat} (hx:BoxM w g (.int .i64 x) (.int .i64 y) (.slice a n d)):OffB (some g) ao I:=by
 rcases h.2.2 with h0 | ⟨b,off,h1,h2,h3⟩
 ·exact .inl h0
 ·by_cases he:I = []
  ·exact .inl he
  ·have hp:0 < I.length:=List.length_pos_iff.2 he
   refine .inr ⟨b,off,h1,fun e=>?_⟩
   cases e
   have h4:=h3 0 hp
   rw [cell_of_row w g (off+0) _ _ _ hx] at h4
   rcases (show off = 0 ∨ off = 1 ∨ off = 2 ∨ 3≤off by omega) with e | e | e | e
   ·subst e;simp at h4
   ·subst e;simp at h4
   ·subst e;simp at h4
   ·rw [Array.getElem?_eq_none (by simp;omega)] at h4;simp at h4
theorem avM_off {x:Mr} {g:Option Nat} (h:OffB g x.ao (mxL x.V)):AvM g x:=by
 rcases h with e | e
 ·exact .inl (by cases hV:x.V with
   | nil=>rfl
   | cons y ys=>rw [hV] at e;cases e)
 ·exact .inr e
theorem OwnMt.apartM {base:Nat} {w:World} {v:Value} {R:List Mr} (h:OwnMt base w v R) {g:Nat} {x y z:Value} (hx:BoxM w g x y z):v.ownBlock ≠ some g:=by
 intro e
 rcases h.1.2 with ⟨e1,_⟩ | ⟨k,cap,cur,hv,hk,hh,rest⟩
 ·rw [e1] at e;simp [Value.ownBlock] at e
 ·rw [hv] at e
  simp [Value.ownBlock] at e
  subst e
  have e:=hh.symm.trans hx
  simp at e
theorem OwnMt.putOne {base:Nat} {w:World} {v:Value} {R:List Mr} (h:OwnMt base w v R) {g:Nat} {x y:Int} {o:Option Addr} {n d:Nat} (hx:BoxM w g (.int .i64 x) (.int .i64 y) (.slice o n d)) (j:Nat) (u:Value):OwnMt base (w.setCell ⟨g,j,none⟩ u) v R :=
 h.grown (h.apartM hx) (fun z hz=>avM_off (bits_offM (h.2 z hz).1 hx)) (grown_set14 w g j u)
theorem BoxM.putc16 {w:World} {b:Nat} {x y z:Value} (h:BoxM w b x y z) (u:Value):BoxM (w.setCell ⟨b,2,none⟩ u) b x y u:=by
 have h1:=heap_setCell_same w b 2 _ _ u h
 unfold BoxM
 rw [h1]
 simp
theorem cell_three16 {w:World} {b g j:Nat} {u u' u'' v:Value} (hne:b ≠ g) (h:w.cell? ⟨b,j,none⟩ = some v):(((w.setCell ⟨g,0,none⟩ u).setCell ⟨g,1,none⟩ u').setCell ⟨g,2,none⟩ u'').cell? ⟨b,j,none⟩ = some v:=by
 rw [cell_setCell_other _ _ _ _ hne,cell_setCell_other _ _ _ _ hne,cell_setCell_other _ _ _ _ hne]
 exact h
structure PqSt (w wr:World) (h r c n cap:Nat) (ao:Option Addr) (S:List Nat) (ro:Option Addr) (rc:Nat) (v:Value) (R:List Mr) (pg:Nat) (L:List Nat):Prop where
 st:TrSt w wr h r c n cap ao S ro rc v R
 pl:RowI wr pg L
 hp:w.heap.size+1+1≤pg
 ph:pg ≠ h
 pv:v.ownBlock ≠ some pg
theorem PqSt.all {w wr w':World} {h r c n cap:Nat} {ao:Option Addr} {S:List Nat} {ro:Option Addr} {rc:Nat} {v:Value} {R:List Mr} {pg:Nat} {L:List Nat} (t:PqSt w wr h r c n cap ao S ro rc v R pg L) (hb:Below wr.heap.size wr w'):PqSt w w' h r c n cap ao S ro rc v R pg L :=
 ⟨t.st.all hb,t.pl.below hb t.pl.lt,t.hp,t.ph,t.pv⟩
theorem PqSt.changed {w wr w':World} {h r c n cap:Nat} {ao:Option Addr} {S U:List Nat} {ro:Option Addr} {rc:Nat} {v:Value} {R:List Mr} {pg:Nat} {L L':List Nat} (t:PqSt w wr h r c n cap ao S ro rc v R pg L) (hb:Below wr.heap.size wr w') {g p2:Nat} (hg:wr.heap.size≤g) (hU:RowB w' g U) (hf:∀ x ∈ U,x < 18446744073709551616) (hl:U.length = n) (hp2:wr.heap.size≤p2) (hL:RowI w' p2 L') :
  PqSt w (w'.setCell ⟨h,2,none⟩ (.slice (some ⟨g,0,none⟩) n n)) h r c n cap ao U (some ⟨g,0,none⟩) n v R p2 L':=by
 have t2:=t.st.all hb
 have hlt:=t.st.rb.lt
 have hh:=t.st.hh
 have n0:w.heap.size ≠ h:=by omega
 have n1:w.heap.size+1 ≠ h:=by omega
 have ng:g ≠ h:=by omega
 have np:p2 ≠ h:=by omega
 have hbits:=hU.bits hf
 rw [hl] at hbits
 have hv:∀ k,v.ownBlock = some k→k < wr.heap.size:=fun k hk=>(t.st.l.lt k hk).2
 have q:BitsAt w' (some ⟨g,0,none⟩) n (mxL U):=hbits
 refine ⟨⟨t2.bel.setCell (p:=⟨h,2,none⟩) (by show w.heap.size≤h;omega) _,hh,t2.a.other (p:=⟨h,2,none⟩) n0 _,t2.res.other (p:=⟨h,2,none⟩) n1 _,t2.rb.putc16 _,bits_grownOff q (bits_offM q t2.rb) (grown_set14 _ _ _ _),.inr ⟨g,0,rfl,by omega⟩,hl,t2.l.putOne t2.rb _ _,.inr ⟨g,0,rfl,fun e=>?_⟩⟩,hL.other (p:=⟨h,2,none⟩) np _,by omega,np,fun e=>?_⟩
 ·have:=hv g e.symm;omega
 ·have:=hv p2 e;omega
theorem PqSt.push {w wr:World} {h r c n cap:Nat} {ao:Option Addr} {S U:List Nat} {ro:Option Addr} {rc:Nat} {v:Value} {R:List Mr} {pg:Nat} {L:List Nat} (t:PqSt w wr h r c n cap ao S ro rc v R pg L) (x:Mr) (hx:BitsAt wr x.ao x.cap (mxL x.V)) (ha:OffB v.ownBlock x.ao (mxL x.V)) (hl:R.length≤1000000) {g nb mb:Nat} (hg:RowB wr g U) (hgv:v.ownBlock ≠ some g) (hg2:w.heap.size+1+1≤g) (hf:∀ x ∈ U,x < 18446744073709551616) (hlU:U.length = n) {y1 y2 y3 y4 y5:Value} (hN:BoxM wr nb y1 y2 y3) (hM:BoxR wr mb y4 y5) (hMv:v.ownBlock ≠ some mb) (ty:TypeId) :
  ∃ v' w',(Builtin.append_ #[64,64] ty #[v,.slice (some ⟨wr.heap.size,0,none⟩) 1 1]).run Tryz.prog (wr.alloc (.cells #[.slice x.ao x.V.length x.cap,.int .u64 (x.tau:Nat)] 105)) = .ok v' w'∧BoxM w' h (.int .i64 r) (.int .i64 c) (.slice ro n rc)∧PqSt w (((w'.setCell ⟨h,0,none⟩ (.int .i64 r)).setCell ⟨h,1,none⟩ (.int .i64 c)).setCell ⟨h,2,none⟩ (.slice (some ⟨g,0,none⟩) n n)) h r c n cap ao U (some ⟨g,0,none⟩) n v' (R ++ [x]) pg L∧BoxM w' nb y1 y2 y3∧BoxR w' mb y4 y5:=by
 have hlt:=t.st.rb.lt
 have hh:=t.st.hh
 have hv:=t.st.l.apartM t.st.rb
 obtain ⟨v',w',e1,e2,e3,e4,e5⟩:=t.st.l.push x hx (avM_off ha) hl (by omega) ty
 have b1:=below_alloc9 wr (.cells #[.slice x.ao x.V.length x.cap,.int .u64 (x.tau:Nat)] 105)
 have t1:=t.all b1
 have X1:=t1.st.rb.grown e4 hv
 have G1:RowB w' g U:=(e4.block g (hg.below b1 hg.lt).lt (fun e=>hgv e.symm)).trans (hg.below b1 hg.lt)
 have n0:w.heap.size ≠ h:=by omega
 have n1:w.heap.size+1 ≠ h:=by omega
 have hbits:=G1.bits hf
 rw [hlU] at hbits
 have q:BitsAt w' (some ⟨g,0,none⟩) n (mxL U):=hbits
 have hpl:=t.pl.lt
 have hgl:=hg.lt
 refine ⟨v',w',e1,X1,⟨⟨below_putM (t.st.bel.trans (e3.mono (by omega))) (by omega) _ _ _,hh,(t.st.a.below e3 (by omega)).three14 n0 _ _ _,(t.st.res.below e3 (by omega)).three14 n1 _ _ _,X1.put _ _ _,q.putM X1 _ _ _,.inr ⟨g,0,rfl,by omega⟩,hlU,e2.putQ X1 _ _ _,.inr ⟨g,0,rfl,fun e=>?_⟩⟩,(t1.pl.grown e4 t.pv).three t.ph _ _ _,t.hp,t.ph,fun e=>?_⟩,(hN.all b1).grown e4 (t.st.l.apartM hN),(hM.all b1).grown e4 hMv⟩
 ·rcases e5 with z | z
  ·rw [z] at e;exact hgv e.symm
  ·rw [z] at e;cases e;omega
 ·rcases e5 with z | z
  ·rw [z] at e;exact t.pv e
  ·rw [z] at e;cases e;omega
def TpAns (w w':World) (ok:Bool) (r c n K:Nat) (S P:List Nat) (V:Nat→List Nat) (tau:Nat→Nat) (e:Ending):Prop :=
 (ok = true∧∃ ro rc pg v R,e = .returned (.tuple #[.agg #[.int .i64 r,.int .i64 c,.slice ro n rc],.slice (some ⟨pg,0,none⟩) c c,v,.int .i64 0])∧NewB w.heap.size ro (mxL S)∧BitsAt w' ro rc (mxL S)∧w.heap.size≤pg∧RowI w' pg P∧OwnMt (w.heap.size+1+1) w' v R∧R.length = K∧∀ k,k < K→(mrAt R k).V = V k∧(mrAt R k).tau = tau k) ∨
 (ok = false∧e = .returned (.tuple #[.agg #[.int .i64 0,.int .i64 0,.slice none 0 0],.slice none 0 0,.slice none 0 0,.int .i64 2]))
theorem ptri_of (r c n cap m K:Nat) (ao:Option Addr) (RJ W V PL:Nat→List Nat) (A tau:Nat→Nat) (gk o:Nat→Bool) (ok:Bool) (w:World) (hr:r≤6) (hc:c≤6) (hm:(m:Int) = min (c:Int) (r:Int)) (hK:∀ j:Nat,j < K ↔ (j < m∧j+1 < r)) (hKm:K≤m)
  (lR:∀ j,(RJ j).length = n) (lW:∀ j,(W j).length = n) (lV:∀ j,(V j).length = r - j) (hfW:∀ j,j < m→∀ x ∈ W j,x < 18446744073709551616) (hf:∀ j,j < m→∀ x ∈ RJ (j+1),x < 18446744073709551616)
  (hlast:∀ j,j < m→¬ j+1 < r→RJ (j+1) = W j) (hPL:PL 0 = List.range c)
  (hok:ok = true ↔ ∀ j,j < m→gk j = true∧(j+1 < r→o j = true))
  (C1:∀ w',Below w.heap.size w w'→Calls Tryz.prog 69 #[.agg #[.int .i64 r,.int .i64 c,.slice ao n cap],.int .i64 0,.int .i64 0,.int .i64 r,.int .i64 c] w' fun e w''=>∃ po pc,e = .returned (.tuple #[.agg #[.int .i64 r,.int .i64 c,.slice po n pc],.int .i64 0])∧NewB w'.heap.size po (mxL (RJ 0))∧BitsAt w'' po pc (mxL (RJ 0))∧Below w'.heap.size w' w'')
  (C2:∀ w' j po pc,j < m→Below w.heap.size w w'→BitsAt w' po pc (mxL (RJ j))→Calls Tryz.prog 71 #[.agg #[.int .i64 r,.int .i64 c,.slice po n pc],.int .i64 (j:Nat)] w' fun e w''=>((gk j = true∧e = .returned (.tuple #[.int .i64 (A j:Nat),.int .i64 0])) ∨ (gk j = false∧e = .returned (.tuple #[.int .i64 0,.int .i64 2])))∧Below w'.heap.size w' w'')
  (C3:∀ w' j po pc,j < m→BitsAt w' po pc (mxL (RJ j))→Calls Tryz.prog 72 #[.slice po n pc,.int .i64 c,.int .i64 (j:Nat),.int .i64 (A j:Nat)] w' fun e w''=>∃ g,e = .returned (.slice (some ⟨g,0,none⟩) n n)∧w'.heap.size≤g∧RowB w'' g (W j)∧Below w'.heap.size w' w'')
  (C4:∀ w' j pg,j < m→RowI w' pg (PL j)→Calls Tryz.prog 73 #[.slice (some ⟨pg,0,none⟩) c c,.int .i64 c,.int .i64 (j:Nat),.int .i64 (A j:Nat)] w' fun e w''=>∃ g,e = .returned (.slice (some ⟨g,0,none⟩) c c)∧w'.heap.size≤g∧RowI w'' g (PL (j+1))∧Below w'.heap.size w' w'')
  (C5:∀ w' j g,j < m→j+1 < r→Below w.heap.size w w'→BitsAt w' (some ⟨g,0,none⟩) n (mxL (W j))→Calls Tryz.prog 74 #[.agg #[.int .i64 r,.int .i64 c,.slice (some ⟨g,0,none⟩) n n],.int .i64 (j:Nat)] w' fun e w''=>DnAns w' w'' (o j) r c n (r - j) (RJ (j+1)) (V j) (tau j) e∧Below w'.heap.size w' w'') :
  Calls Tryz.prog 31 #[.agg #[.int .i64 r,.int .i64 c,.slice ao n cap]] w fun e w'=>TpAns w w' ok r c n K (RJ m) (PL m) V tau e∧Below w.heap.size w w':=by
 have hmin:∀ (W:World) ts t,(Builtin.min_ ts t #[.int .i64 (c:Int),.int .i64 (r:Int)]).run Tryz.prog W = .ok (.int .i64 (m:Int)) W:=fun W ts t=>by rw [hm];exact min2_run _ W ts t _ _
 have hm6:m≤6:=by omega
 have hmr:m≤r:=by omega
 have HKc:=hide hK;have LR:=hide lR;have LW:=hide lW;have LV:=hide lV;have HF:=hide hf;have HFW:=hide hfW;have HLAST:=hide hlast;have HOK:=hide hok;have HKM:=hide hKm
 have K1:=hide (C1 ((w.alloc (.cells #[.int .i64 r,.int .i64 c,.slice ao n cap] 24)).alloc (.cells #[.int .i64 0,.int .i64 0,.slice none 0 0] 24)) (by
  have b1:=below_alloc9 w (.cells #[.int .i64 r,.int .i64 c,.slice ao n cap] 24)
  have b2:=below_alloc9 (w.alloc (.cells #[.int .i64 r,.int .i64 c,.slice ao n cap] 24)) (.cells #[.int .i64 0,.int .i64 0,.slice none 0 0] 24)
  exact b1.trans (b2.mono b1.size)))
 simp only [size_alloc9] at K1
 have KB:=hide (boxes2 w (.int .i64 r) (.int .i64 c) (.slice ao n cap) (.int .i64 0) (.int .i64 0) (.slice none 0 0))
 have KI:=hide (fun w'=>inOrder_any c w' (by omega))
 rw [← hPL] at KI
 have K2:=hide C2;have K3:=hide C3;have K4:=hide C4;have K5:=hide C5
 clear hm hK lR lW lV hf hfW hlast hok C1 C2 C3 C4 C5 hPL hKm
 go_enter Tryz.func31,Tryz.ntmps31
 go_wp2_with fail
 refine (uH K1).mono ?_
 rintro e w1 ⟨po,pc,rfl,hn,hq,hb1⟩
 obtain ⟨hB,hA,hX⟩:=uH KB w1 hb1
 have ST:=hide (TrSt.start hB hA hX hq (hn.least (by omega)) (uH LR 0))
 have y1:=(uH ST).a.c1
 clear K1 KB hb1 hB hA hX hn hq
 go_wp2_with fail
 clear y1
 refine (uH KI _).mono ?_
 rintro e w2 ⟨pg,rfl,hg,hrow,hb⟩
 have SP:Hid (PqSt w w2 w1.heap.size r c n cap ao (RJ 0) po pc (.slice none 0 0) [] pg (PL 0)):=hide (by
  have x:=(uH ST).rb.lt
  have hh:=(uH ST).hh
  exact ⟨(uH ST).all hb,hrow,by omega,by omega,by simp [Value.ownBlock]⟩)
 have y0:=(uH SP).st.a.c0;have y1:=(uH SP).st.a.c1
 clear KI hg hrow hb ST
 generalize w1.heap.size = h at *
 go_wp2_with fail
 clear y0 y1 hmin
 go_loopw [8,9,32] (fun pv v a wr=>∃ (j:Nat) (ro:Option Addr) (rc:Nat) (R:List Mr) (pg:Nat),j≤K∧pv = .slice (some ⟨pg,0,none⟩) c c∧a = .int .i64 j∧Hid (R.length = j)∧Hid (∀ k,k < j→(mrAt R k).V = V k∧(mrAt R k).tau = tau k)∧Hid (∀ k,k < j→gk k = true∧(k+1 < r→o k = true))∧Hid (PqSt w wr h r c n cap ao (RJ j) ro rc v R pg (PL j))) (fun _ _ a _=>m - (intOf a).toNat)
 case atStart=>exact ⟨0,po,pc,[],pg,Nat.zero_le _,rfl,rfl,rfl,fun k hk=>absurd hk (Nat.not_lt_zero k),fun k hk=>absurd hk (Nat.not_lt_zero k),SP⟩
 case round =>
  clear SP
  obtain ⟨j,ro,rc,R,pg,hjK,rfl,rfl,hRl,hRm,hO,hS⟩:=hrel
  by_cases hlt:j < m
  ·have hjm:(j:Int) < (m:Int):=by omega
   have hjr:j < r:=by omega
   have G2:=hide (fun w' po pc=>uH K2 w' j po pc hlt)
   have G3:=hide (fun w' po pc=>uH K3 w' j po pc hlt)
   have G4:=hide (fun w' pg=>uH K4 w' j pg hlt)
   have G5:=hide (fun w' g=>uH K5 w' j g hlt)
   have LV1:=hide (uH LV j);have LW1:=hide (uH LW j);have LR1:=hide (uH LR (j+1));have HF1:=hide (uH HF j hlt);have HFW1:=hide (uH HFW j hlt);have HL1:=hide (uH HLAST j hlt)
   have hKj:=hide (uH HKc j)
   have q0:=(uH hS).st.rb.c0;have q1:=(uH hS).st.rb.c1;have q2:=(uH hS).st.rb.c2
   go_wp2_with fail
   clear q0 q1 q2
   refine (uH G2 _ ro rc (uH hS).st.bel (uH hS).st.bits).mono ?_
   rintro e w3 ⟨hor,hb⟩
   replace hS:=hide ((uH hS).all hb)
   clear hb G2
   rcases hor with ⟨hgk,rfl⟩ | ⟨hgk,rfl⟩
   ·generalize hAJ:A j = ka at *
    have HGK:=hide hgk
    generalize hTJ:tau j = tj at *
    generalize hVJ:V j = vj at *
    generalize hWJ:W j = wj at *
    generalize hNJ:RJ (j+1) = nj at *
    generalize hRJ:RJ j = rj at *
    generalize hPJ:PL (j+1) = pj at *
    generalize hPO:PL j = pl at *
    have HNJ:=hide hNJ;have HPJ:=hide hPJ
    clear hgk hAJ
    go_wp2_with fail
    replace hS:=hide ((uH hS).all (Below.refl w3.heap.size w3).drew)
    refine wp_region_held_drew (S:=fun w'=>w'.cell? ⟨w.heap.size,1,none⟩ = some (.int .i64 (c:Nat))) (by kernel_rfl) ?_ (fun hHeld=>?_)
    ·exact (uH hS).st.a.c1
    refine wpAnyH_take (i:=0) (oi:={ dst:=some 45,op:=Op.fieldAddr 24 (Operand.tmp 6) 2,type:=0,pos := "greatest.go:22",after:=#[],guard:=none }) (v:=Value.pointer (some ⟨h,2,none⟩)) rfl (by kernel_rfl) (by kernel_rfl) (by kernel_rfl) (fun _ _ _ h=>h) (Or.inl ⟨by rfl,?_⟩) (by assumption) ?_
    ·(intro w hSw;(try dsimp only at hSw);go_simp)
    simp only [Act.put,List.setIfInBounds_toArray,List.set_cons_zero,List.set_cons_succ]
    refine wpAnyH_take (i:=2) (oi:={ dst:=some 47,op:=Op.fieldAddr 24 (Operand.tmp 1) 1,type:=0,pos := "greatest.go:22",after:=#[],guard:=none }) (v:=Value.pointer (some ⟨w.heap.size,1,none⟩)) rfl (by kernel_rfl) (by kernel_rfl) (by kernel_rfl) (fun _ _ _ h=>h) (Or.inl ⟨by rfl,?_⟩) (by assumption) ?_
    ·(intro w hSw;(try dsimp only at hSw);go_simp)
    simp only [Act.put,List.setIfInBounds_toArray,List.set_cons_zero,List.set_cons_succ]
    refine wpAnyH_take (i:=3) (oi:={ dst:=some 48,op:=Op.load 3 (Operand.tmp 47),type:=3,pos := "greatest.go:22",after:=#[{ on:=2,ground:=Ground.data }],guard:=none }) (v:=Value.int .i64 (c:Nat)) rfl (by kernel_rfl) (by kernel_rfl) (by kernel_rfl) (fun _ _ _ h=>h) (Or.inl ⟨by rfl,?_⟩) (by assumption) ?_
    ·(intro w hSw;(try dsimp only at hSw);go_simp)
    simp only [Act.put,List.setIfInBounds_toArray,List.set_cons_zero,List.set_cons_succ]
    refine wpAnyH_take (i:=4) (oi:={ dst:=some 49,op:=Op.move (Operand.tmp 10),type:=3,pos := "greatest.go:22",after:=#[],guard:=none }) (v:=Value.int .i64 (j:Nat)) rfl (by kernel_rfl) (by kernel_rfl) (by kernel_rfl) (fun _ _ _ h=>h) (Or.inl ⟨by rfl,?_⟩) (by assumption) ?_
    ·(intro w hSw;(try dsimp only at hSw);go_simp)
    simp only [Act.put,List.setIfInBounds_toArray,List.set_cons_zero,List.set_cons_succ]
    refine wpAnyH_take (i:=5) (oi:={ dst:=some 50,op:=Op.move (Operand.tmp 11),type:=3,pos := "greatest.go:22",after:=#[],guard:=none }) (v:=Value.int .i64 (ka:Nat)) rfl (by kernel_rfl) (by kernel_rfl) (by kernel_rfl) (fun _ _ _ h=>h) (Or.inl ⟨by rfl,?_⟩) (by assumption) ?_
    ·(intro w hSw;(try dsimp only at hSw);go_simp)
    simp only [Act.put,List.setIfInBounds_toArray,List.set_cons_zero,List.set_cons_succ]
    refine wpAnyH_take (i:=7) (oi:={ dst:=some 52,op:=Op.move (Operand.tmp 8),type:=26,pos := "greatest.go:22",after:=#[],guard:=none }) (v:=Value.slice (some ⟨pg,0,none⟩) c c) rfl (by kernel_rfl) (by kernel_rfl) (by kernel_rfl) (fun _ _ _ h=>h) (Or.inl ⟨by rfl,?_⟩) (by assumption) ?_
    ·(intro w hSw;(try dsimp only at hSw);go_simp)
    simp only [Act.put,List.setIfInBounds_toArray,List.set_cons_zero,List.set_cons_succ]
    refine wpAnyH_take (i:=8) (oi:={ dst:=some 53,op:=Op.fieldAddr 24 (Operand.tmp 1) 1,type:=0,pos := "greatest.go:22",after:=#[],guard:=none }) (v:=Value.pointer (some ⟨w.heap.size,1,none⟩)) rfl (by kernel_rfl) (by kernel_rfl) (by kernel_rfl) (fun _ _ _ h=>h) (Or.inl ⟨by rfl,?_⟩) (by assumption) ?_
    ·(intro w hSw;(try dsimp only at hSw);go_simp)
    simp only [Act.put,List.setIfInBounds_toArray,List.set_cons_zero,List.set_cons_succ]
    refine wpAnyH_take (i:=9) (oi:={ dst:=some 54,op:=Op.load 3 (Operand.tmp 53),type:=3,pos := "greatest.go:22",after:=#[{ on:=8,ground:=Ground.data }],guard:=none }) (v:=Value.int .i64 (c:Nat)) rfl (by kernel_rfl) (by kernel_rfl) (by kernel_rfl) (fun _ _ _ h=>h) (Or.inl ⟨by rfl,?_⟩) (by assumption) ?_
    ·(intro w hSw;(try dsimp only at hSw);go_simp)
    simp only [Act.put,List.setIfInBounds_toArray,List.set_cons_zero,List.set_cons_succ]
    refine wpAnyH_take (i:=10) (oi:={ dst:=some 55,op:=Op.move (Operand.tmp 10),type:=3,pos := "greatest.go:22",after:=#[],guard:=none }) (v:=Value.int .i64 (j:Nat)) rfl (by kernel_rfl) (by kernel_rfl) (by kernel_rfl) (fun _ _ _ h=>h) (Or.inl ⟨by rfl,?_⟩) (by assumption) ?_
    ·(intro w hSw;(try dsimp only at hSw);go_simp)
    simp only [Act.put,List.setIfInBounds_toArray,List.set_cons_zero,List.set_cons_succ]
    refine wpAnyH_take (i:=11) (oi:={ dst:=some 56,op:=Op.move (Operand.tmp 11),type:=3,pos := "greatest.go:22",after:=#[],guard:=none }) (v:=Value.int .i64 (ka:Nat)) rfl (by kernel_rfl) (by kernel_rfl) (by kernel_rfl) (fun _ _ _ h=>h) (Or.inl ⟨by rfl,?_⟩) (by assumption) ?_
    ·(intro w hSw;(try dsimp only at hSw);go_simp)
    simp only [Act.put,List.setIfInBounds_toArray,List.set_cons_zero,List.set_cons_succ]
    refine wpAnyH_ready (rs:=[1]) (by kernel_rfl) (by simp) ?_
    refine AllReadyH.cons (o:={ dst:=some 46,op:=Op.load 22 (Operand.tmp 45),type:=22,pos := "greatest.go:22",after:=#[{ on:=0,ground:=Ground.data }],guard:=none }) rfl (fun K0 hK0=>?_) AllReadyH.nil
    have q2:=(uH hS).st.rb.c2
    go_simp
    clear q2
    refine hK0.out _ _ ?_ (fun hHeld=>?_)
    ·exact (uH hS).st.a.c1
    clear hK0 K0
    refine wpAnyH_ready (rs:=[6]) (by kernel_rfl) (by simp) ?_
    refine AllReadyH.cons (o:={ dst:=some 51,op:=Op.call { callee:=Callee.value (Operand.func 72),args:=#[Operand.tmp 46,Operand.tmp 48,Operand.tmp 49,Operand.tmp 50],argTypes:=#[22,3,3,3] },type:=22,pos := "greatest.go:22",after:=#[{ on:=1,ground:=Ground.data },{ on:=3,ground:=Ground.data },{ on:=4,ground:=Ground.data },{ on:=5,ground:=Ground.data }],guard:=none }) rfl (fun K0 hK0=>?_) AllReadyH.nil
    go_simp
    refine (uH G3 _ ro rc (uH hS).st.bits).mono ?_
    rintro e w3 ⟨g,rfl,hg,hrow,hb⟩
    have S3:=hide ((uH hS).all hb)
    have HW:=hide hb
    have HG:=hide hg;have HROW:=hide hrow
    clear hb hg hrow G3
    go_wp2_with fail
    refine hK0.out _ _ ?_ (fun hHeld=>?_)
    ·exact (uH S3).st.a.c1
    clear hK0 K0
    refine wpAnyH_take (i:=13) (oi:={ dst:=some 58,op:=Op.fieldAddr 24 (Operand.tmp 6) 2,type:=0,pos := "greatest.go:22",after:=#[{ on:=0,ground:=Ground.phase },{ on:=1,ground:=Ground.phase },{ on:=2,ground:=Ground.phase },{ on:=3,ground:=Ground.phase },{ on:=4,ground:=Ground.phase },{ on:=5,ground:=Ground.phase },{ on:=6,ground:=Ground.phase },{ on:=7,ground:=Ground.textOnly Departure.lateStores },{ on:=8,ground:=Ground.textOnly Departure.lateStores },{ on:=9,ground:=Ground.textOnly Departure.lateStores },{ on:=10,ground:=Ground.textOnly Departure.lateStores },{ on:=11,ground:=Ground.textOnly Departure.lateStores },{ on:=12,ground:=Ground.textOnly Departure.lateStoresUnsure }],guard:=none }) (v:=Value.pointer (some ⟨h,2,none⟩)) rfl (by kernel_rfl) (by kernel_rfl) (by kernel_rfl) (fun _ _ _ h=>h) (Or.inl ⟨by rfl,?_⟩) (by assumption) ?_
    ·(intro w hSw;(try dsimp only at hSw);go_simp)
    simp only [Act.put,List.setIfInBounds_toArray,List.set_cons_zero,List.set_cons_succ]
    refine wpAnyH_ready (rs:=[12]) (by kernel_rfl) (by simp) ?_
    refine AllReadyH.cons (o:={ dst:=some 57,op:=Op.call { callee:=Callee.value (Operand.func 73),args:=#[Operand.tmp 52,Operand.tmp 54,Operand.tmp 55,Operand.tmp 56],argTypes:=#[26,3,3,3] },type:=26,pos := "greatest.go:22",after:=#[{ on:=7,ground:=Ground.data },{ on:=9,ground:=Ground.data },{ on:=10,ground:=Ground.data },{ on:=11,ground:=Ground.data },{ on:=6,ground:=Ground.chain }],guard:=none }) rfl (fun K0 hK0=>?_) AllReadyH.nil
    go_simp
    refine (uH G4 _ pg (uH S3).pl).mono ?_
    rintro e w4 ⟨p2,rfl,hp2,hrow2,hb⟩
    have HW2:=hide ((uH HW).trans (hb.mono (uH HW).size))
    have HP2:=hide (show _≤p2 from Nat.le_trans (uH HW).size hp2)
    have HR2:=hide hrow2
    have HROW2:=hide ((uH HROW).below hb (uH HROW).lt)
    have T4:=(uH hS).changed (uH HW2) (uH HG) (uH HROW2) (uH HFW1) (uH LW1) (uH HP2) (uH HR2)
    have X4:=((uH hS).all (uH HW2)).st.rb
    have X5:=((uH hS).all (uH HW2)).st.a
    have P4:=hide T4
    have RB:=hide X4;have AB:=hide X5
    clear T4 X4 X5 hb hp2 hrow2 S3 HW HROW HP2 HR2 HROW2 HW2 HG hS G4
    go_wp2_with fail
    refine hK0.out _ _ ?_ (fun hHeld=>?_)
    ·exact (uH AB).c1
    clear hK0 K0
    refine wpAnyH_ready (rs:=[14]) (by kernel_rfl) (by simp) ?_
    refine AllReadyH.cons (o:={ dst:=none,op:=Op.store 22 (Operand.tmp 58) (Operand.tmp 51),type:=0,pos := "greatest.go:22",after:=#[{ on:=13,ground:=Ground.data },{ on:=6,ground:=Ground.data },{ on:=12,ground:=Ground.chain },{ on:=0,ground:=Ground.phase },{ on:=1,ground:=Ground.phase },{ on:=2,ground:=Ground.phase },{ on:=3,ground:=Ground.phase },{ on:=4,ground:=Ground.phase },{ on:=5,ground:=Ground.phase },{ on:=6,ground:=Ground.phase },{ on:=7,ground:=Ground.textOnly Departure.lateStores },{ on:=8,ground:=Ground.textOnly Departure.lateStores },{ on:=9,ground:=Ground.textOnly Departure.lateStores },{ on:=10,ground:=Ground.textOnly Departure.lateStores },{ on:=11,ground:=Ground.textOnly Departure.lateStores },{ on:=12,ground:=Ground.textOnly Departure.lateStoresUnsure }],guard:=none }) rfl (fun K0 hK0=>?_) AllReadyH.nil
    have q2:=(uH RB).c2;have f2:=(uH RB).free 2
    go_simp
    clear q2 f2 RB AB
    refine hK0.out _ _ ?_ (fun hHeld=>?_)
    ·exact (uH P4).st.a.c1
    clear hK0 K0
    refine wpAnyH_take (i:=15) (oi:={ dst:=some 8,op:=Op.assign (Operand.tmp 57),type:=26,pos := "greatest.go:22",after:=#[{ on:=12,ground:=Ground.data },{ on:=14,ground:=Ground.chain },{ on:=0,ground:=Ground.phase },{ on:=1,ground:=Ground.phase },{ on:=2,ground:=Ground.phase },{ on:=3,ground:=Ground.phase },{ on:=4,ground:=Ground.phase },{ on:=5,ground:=Ground.phase },{ on:=6,ground:=Ground.phase },{ on:=7,ground:=Ground.phase },{ on:=8,ground:=Ground.phase },{ on:=9,ground:=Ground.phase },{ on:=10,ground:=Ground.phase },{ on:=11,ground:=Ground.phase },{ on:=12,ground:=Ground.phase },{ on:=13,ground:=Ground.phase },{ on:=14,ground:=Ground.phase }],guard:=none }) (v:=Value.slice (some ⟨p2,0,none⟩) c c) rfl (by kernel_rfl) (by kernel_rfl) (by kernel_rfl) (fun _ _ _ h=>h) (Or.inl ⟨by rfl,?_⟩) (by assumption) ?_
    ·(intro w hSw;(try dsimp only at hSw);go_simp)
    simp only [Act.put,List.setIfInBounds_toArray,List.set_cons_zero,List.set_cons_succ]
    refine wpAnyH_done (by kernel_rfl) ?_ _
    by_cases hlast:j+1 < r
    ·have e1:((j:Int) == (r:Int) - 1) = false:=by rw [beq_eq_false_iff_ne];omega
     have e2:¬ ((j:Int) = (r:Int) - 1):=by omega
     have e3:IntKind.i64.wrap ((r:Int) - 1) = (r:Int) - 1:=wrap_in _ (by omega)
     obtain ⟨L,hL⟩:∃ L,r - j = L:=⟨_,rfl⟩
     rw [hL] at G5 LV1
     have y0:=(uH P4).st.a.c0
     have q0:=(uH P4).st.rb.c0;have q1:=(uH P4).st.rb.c1;have q2:=(uH P4).st.rb.c2
     clear hL
     go_wp2_with fail
     clear y0 q0 q1 q2 e1 e2 e3
     refine (uH G5 _ g hlast (uH P4).st.bel (uH P4).st.bits).mono ?_
     rintro e w5 ⟨hans,hb⟩
     have HOWN:=hide (fun k hk=>((uH P4).st.l.lt k hk).2)
     have HHS:=hide (show w.heap.size+1+1≤_ from Nat.le_trans (uH P4).st.hh (Nat.le_of_lt (uH P4).st.rb.lt))
     have HSZ:=hide hb.size
     have HHL:=hide (uH P4).st.rb.lt
     replace P4:=hide ((uH P4).all hb)
     clear hb G5
     rcases hans with ⟨ho,g2,vo,vc,rfl,hg2,hrow,hn,hv,hof⟩ | ⟨ho,rfl⟩
     ·have ba1:=below_alloc9 w5 (.cells #[.int .i64 r,.int .i64 c,.slice (some ⟨g2,0,none⟩) n n] 24)
      have sa1:=size_alloc9 w5 (.cells #[.int .i64 r,.int .i64 c,.slice (some ⟨g2,0,none⟩) n n] 24)
      have nb1:=BoxM.new w5 (.int .i64 r) (.int .i64 c) (.slice (some ⟨g2,0,none⟩) n n)
      have ba2:=below_alloc9 (w5.alloc (.cells #[.int .i64 r,.int .i64 c,.slice (some ⟨g2,0,none⟩) n n] 24)) (.cells #[.slice vo L vc,.int .u64 (tj:Nat)] 105)
      have mb1:=BoxR.new (w5.alloc (.cells #[.int .i64 r,.int .i64 c,.slice (some ⟨g2,0,none⟩) n n] 24)) (.slice vo L vc) (.int .u64 (tj:Nat))
      rw [sa1] at mb1
      have ST6:=hide (show PqSt _ _ _ _ _ _ _ _ _ _ _ _ _ _ _∧BoxM _ _ _ _ _∧BoxR _ _ _ _∧RowB _ _ _∧BitsAt _ _ _ _ from ⟨((uH P4).all ba1).all ba2,nb1.all ba2,mb1,(hrow.below ba1 hrow.lt).below ba2 (hrow.below ba1 hrow.lt).lt,(hv.below ba1).below ba2⟩)
      have HO:=hide ho
      have HG2:=hide hg2;have HN:=hide hn
      have HNB:=hide (show _≤w5.heap.size from uH HSZ)
      clear ba1 sa1 nb1 ba2 mb1 hrow hv hg2 hn hof ho P4
      go_wp2_with fail
      refine at_world (fun W=>PqSt w W h r c n cap ao wj (some ⟨g,0,none⟩) n u9 R p2 pj∧BoxM W w5.heap.size (.int .i64 r) (.int .i64 c) (.slice (some ⟨g2,0,none⟩) n n)∧BoxR W (w5.heap.size+1) (.slice vo L vc) (.int .u64 (tj:Nat))∧RowB W g2 nj∧BitsAt W vo vc (mxL vj)) (uH ST6) ?_
      clear ST6
      rintro W6 ⟨p6,n6,m6,row6,v6⟩
      have OWN9:∀ q,(∀ k,u9.ownBlock = some k→k < q)→u9.ownBlock ≠ some q:=fun q hq e=>Nat.lt_irrefl q (hq q e)
      have hd:=(Below.refl W6.heap.size W6).drew
      have APP:=PqSt.push (p6.all hd) ⟨vo,vc,vj,tj,0⟩ (v6.below hd) (OffB.new (uH HN) (fun k hk=>uH HOWN k hk)) (by rw [uH hRl];omega) (row6.below hd row6.lt) (OWN9 _ (fun k hk=>Nat.lt_of_lt_of_le (uH HOWN k hk) (uH HG2))) (Nat.le_trans (uH HHS) (uH HG2)) (uH HF1) (uH LR1) (n6.all hd) (m6.all hd) (OWN9 _ (fun k hk=>Nat.lt_of_lt_of_le (uH HOWN k hk) (Nat.le_trans (uH HNB) (Nat.le_succ _)))) 64
      dsimp only at APP
      rw [uH LV1] at APP
      obtain ⟨v9,w9,a1,a2,a3,a4,a5⟩:=APP
      have APP:=hide (show ∃ v' w',_ = _∧(BoxM w' h (.int .i64 r) (.int .i64 c) (.slice (some ⟨g,0,none⟩) n n)∧PqSt w (((w'.setCell ⟨h,0,none⟩ (.int .i64 r)).setCell ⟨h,1,none⟩ (.int .i64 c)).setCell ⟨h,2,none⟩ (.slice (some ⟨g2,0,none⟩) n n)) h r c n cap ao nj (some ⟨g2,0,none⟩) n v' (R ++ [⟨vo,vc,vj,tj,0⟩]) p2 pj∧(w'.cell? ⟨w5.heap.size,0,none⟩ = some (.int .i64 (r:Nat))∧w'.cell? ⟨w5.heap.size,1,none⟩ = some (.int .i64 (c:Nat))∧w'.cell? ⟨w5.heap.size,2,none⟩ = some (.slice (some ⟨g2,0,none⟩) n n))∧w'.cell? ⟨w5.heap.size+1,0,none⟩ = some (.slice vo L vc)∧w'.cell? ⟨w5.heap.size+1,1,none⟩ = some (.int .u64 (tj:Nat))) from ⟨v9,w9,a1,a2,a3,⟨a4.c0,a4.c1,a4.c2⟩,a5.c0,a5.c1⟩)
      clear a1 a2 a3 a4 a5
      have KEEP:=hide (fun W' (hb:Below W6.drew.heap.size W6.drew W')=>(show (W'.cell? ⟨w5.heap.size,0,none⟩ = some (.int .i64 (r:Nat))∧W'.cell? ⟨w5.heap.size,1,none⟩ = some (.int .i64 (c:Nat))∧W'.cell? ⟨w5.heap.size,2,none⟩ = some (.slice (some ⟨g2,0,none⟩) n n))∧W'.cell? ⟨w5.heap.size+1,0,none⟩ = some (.slice vo L vc)∧W'.cell? ⟨w5.heap.size+1,1,none⟩ = some (.int .u64 (tj:Nat)) from
       have x:=(n6.all hd).all hb;have y:=(m6.all hd).all hb;⟨⟨x.c0,x.c1,x.c2⟩,y.c0,y.c1⟩))
      have hhl:w5.heap.size ≠ h:=fun e=>by have:=uH HHL;have:=uH HNB;omega
      have hhm:w5.heap.size+1 ≠ h:=fun e=>by have:=uH HHL;have:=uH HNB;omega
      have KEEP3:=hide (fun (W':World) (k:(W'.cell? ⟨w5.heap.size,0,none⟩ = some (.int .i64 (r:Nat))∧W'.cell? ⟨w5.heap.size,1,none⟩ = some (.int .i64 (c:Nat))∧W'.cell? ⟨w5.heap.size,2,none⟩ = some (.slice (some ⟨g2,0,none⟩) n n))∧W'.cell? ⟨w5.heap.size+1,0,none⟩ = some (.slice vo L vc)∧W'.cell? ⟨w5.heap.size+1,1,none⟩ = some (.int .u64 (tj:Nat)))=>(show ((((W'.setCell ⟨h,0,none⟩ (.int .i64 r)).setCell ⟨h,1,none⟩ (.int .i64 c)).setCell ⟨h,2,none⟩ (.slice (some ⟨g2,0,none⟩) n n)).cell? ⟨w5.heap.size,0,none⟩ = some (.int .i64 (r:Nat))∧(((W'.setCell ⟨h,0,none⟩ (.int .i64 r)).setCell ⟨h,1,none⟩ (.int .i64 c)).setCell ⟨h,2,none⟩ (.slice (some ⟨g2,0,none⟩) n n)).cell? ⟨w5.heap.size,1,none⟩ = some (.int .i64 (c:Nat))∧(((W'.setCell ⟨h,0,none⟩ (.int .i64 r)).setCell ⟨h,1,none⟩ (.int .i64 c)).setCell ⟨h,2,none⟩ (.slice (some ⟨g2,0,none⟩) n n)).cell? ⟨w5.heap.size,2,none⟩ = some (.slice (some ⟨g2,0,none⟩) n n))∧(((W'.setCell ⟨h,0,none⟩ (.int .i64 r)).setCell ⟨h,1,none⟩ (.int .i64 c)).setCell ⟨h,2,none⟩ (.slice (some ⟨g2,0,none⟩) n n)).cell? ⟨w5.heap.size+1,0,none⟩ = some (.slice vo L vc)∧(((W'.setCell ⟨h,0,none⟩ (.int .i64 r)).setCell ⟨h,1,none⟩ (.int .i64 c)).setCell ⟨h,2,none⟩ (.slice (some ⟨g2,0,none⟩) n n)).cell? ⟨w5.heap.size+1,1,none⟩ = some (.int .u64 (tj:Nat)) from
       ⟨⟨cell_three16 (u:=.int .i64 r) (u':=.int .i64 c) (u'':=.slice (some ⟨g2,0,none⟩) n n) hhl k.1.1,cell_three16 hhl k.1.2.1,cell_three16 hhl k.1.2.2⟩,cell_three16 hhm k.2.1,cell_three16 hhm k.2.2⟩))
      have NB:=hide (n6.all hd);have MB:=hide (m6.all hd)
      generalize w5.heap.size = nb at *
      clear p6 n6 m6 row6 v6 hd hhl hhm OWN9 HHL HNB HG2 HOWN HHS HSZ HN
      refine wp_region_held_drew (S:=fun w'=>(w'.cell? ⟨nb,0,none⟩ = some (.int .i64 (r:Nat))∧w'.cell? ⟨nb,1,none⟩ = some (.int .i64 (c:Nat))∧w'.cell? ⟨nb,2,none⟩ = some (.slice (some ⟨g2,0,none⟩) n n))∧w'.cell? ⟨nb+1,0,none⟩ = some (.slice vo L vc)∧w'.cell? ⟨nb+1,1,none⟩ = some (.int .u64 (tj:Nat))) (by kernel_rfl) ?_ (fun hHeld=>?_)
      ·exact ⟨⟨(uH NB).c0,(uH NB).c1,(uH NB).c2⟩,(uH MB).c0,(uH MB).c1⟩
      refine wpAnyH_take (i:=0) (oi:={ dst:=some 75,op:=Op.load 24 (Operand.tmp 13),type:=24,pos := "greatest.go:30",after:=#[],guard:=none }) (v:=Value.agg #[.int .i64 r,.int .i64 c,.slice (some ⟨g2,0,none⟩) n n]) rfl (by kernel_rfl) (by kernel_rfl) (by kernel_rfl) (fun _ _ _ h=>h) (Or.inl ⟨by rfl,?_⟩) (by assumption) ?_
      ·(intro w hSw;(try dsimp only at hSw);go_simp)
      simp only [Act.put,List.setIfInBounds_toArray,List.set_cons_zero,List.set_cons_succ]
      refine wpAnyH_take (i:=1) (oi:={ dst:=some 76,op:=Op.move (Operand.tmp 9),type:=64,pos := "greatest.go:30",after:=#[],guard:=none }) (v:=u9) rfl (by kernel_rfl) (by kernel_rfl) (by kernel_rfl) (fun _ _ _ h=>h) (Or.inl ⟨by rfl,?_⟩) (by assumption) ?_
      ·(intro w hSw;(try dsimp only at hSw);go_simp)
      simp only [Act.put,List.setIfInBounds_toArray,List.set_cons_zero,List.set_cons_succ]
      refine wpAnyH_take (i:=2) (oi:={ dst:=some 77,op:=Op.load 105 (Operand.tmp 14),type:=105,pos := "greatest.go:30",after:=#[],guard:=none }) (v:=Value.agg #[.slice vo L vc,.int .u64 (tj:Nat)]) rfl (by kernel_rfl) (by kernel_rfl) (by kernel_rfl) (fun _ _ _ h=>h) (Or.inl ⟨by rfl,?_⟩) (by assumption) ?_
      ·(intro w hSw;(try dsimp only at hSw);go_simp)
      simp only [Act.put,List.setIfInBounds_toArray,List.set_cons_zero,List.set_cons_succ]
      refine wpAnyH_ready (rs:=[3]) (by kernel_rfl) (by simp) ?_
      refine AllReadyH.cons (o:={ dst:=some 78,op:=Op.buildSlice 64 1 #[(0,Operand.tmp 77)],type:=64,pos := "greatest.go:30",after:=#[{ on:=2,ground:=Ground.data }],guard:=none }) rfl (fun K0 hK0=>?_) AllReadyH.nil
      go_simp
      refine hK0.out _ _ ?_ (fun hHeld=>?_)
      ·exact uH KEEP _ (below_alloc9 _ _)
      clear hK0 K0
      refine wpAnyH_ready (rs:=[4]) (by kernel_rfl) (by simp) ?_
      refine AllReadyH.cons (o:={ dst:=some 79,op:=Op.call { callee:=Callee.builtin Builtin.append,args:=#[Operand.tmp 76,Operand.tmp 78],argTypes:=#[64,64] },type:=64,pos := "greatest.go:30",after:=#[{ on:=1,ground:=Ground.data },{ on:=3,ground:=Ground.data }],guard:=none }) rfl (fun K0 hK0=>?_) AllReadyH.nil
      refine step_append16 _ (by rfl) _ _ 64 (by rfl) _ _ _ (by rfl) (by rfl) (uH APP) ?_
      clear APP
      rintro v9 w9 ⟨hbx,hst,hkp⟩
      have BX:=hide hbx;have P9:=hide hst
      clear hbx hst
      refine hK0.out _ _ ?_ (fun hHeld=>?_)
      ·exact hkp
      have KP9:=hide hkp
      clear hK0 K0 hkp
      refine wpAnyH_ready (rs:=[5]) (by kernel_rfl) (by simp) ?_
      refine AllReadyH.cons (o:={ dst:=none,op:=Op.store 24 (Operand.tmp 6) (Operand.tmp 75),type:=0,pos := "greatest.go:30",after:=#[{ on:=0,ground:=Ground.data },{ on:=4,ground:=Ground.chain },{ on:=0,ground:=Ground.phase },{ on:=1,ground:=Ground.textOnly Departure.lateStores },{ on:=2,ground:=Ground.textOnly Departure.lateStores },{ on:=3,ground:=Ground.textOnly Departure.lateStores },{ on:=4,ground:=Ground.textOnly Departure.lateStoresUnsure }],guard:=none }) rfl (fun K0 hK0=>?_) AllReadyH.nil
      have q0:=(uH BX).c0;have q1:=(uH BX).c1;have q2:=(uH BX).c2
      have f0:=(uH BX).free 0;have f1:=(uH BX).free 1;have f2:=(uH BX).free 2
      go_simp
      clear q0 q1 q2 f0 f1 f2
      refine hK0.out _ _ ?_ (fun hHeld=>?_)
      ·exact uH KEEP3 _ (uH KP9)
      clear hK0 K0
      refine wpAnyH_take (i:=6) (oi:={ dst:=some 9,op:=Op.assign (Operand.tmp 79),type:=64,pos := "greatest.go:30",after:=#[{ on:=4,ground:=Ground.data },{ on:=5,ground:=Ground.chain },{ on:=0,ground:=Ground.phase },{ on:=1,ground:=Ground.phase },{ on:=2,ground:=Ground.phase },{ on:=3,ground:=Ground.phase },{ on:=4,ground:=Ground.phase },{ on:=5,ground:=Ground.phase }],guard:=none }) (v:=v9) rfl (by kernel_rfl) (by kernel_rfl) (by kernel_rfl) (fun _ _ _ h=>h) (Or.inl ⟨by rfl,?_⟩) (by assumption) ?_
      ·(intro w hSw;(try dsimp only at hSw);go_simp)
      simp only [Act.put,List.setIfInBounds_toArray,List.set_cons_zero,List.set_cons_succ]
      refine wpAnyH_done (by kernel_rfl) ?_ _
      clear KEEP KEEP3 BX KP9 NB MB
      go_wp2_with fail
      go_round
      case rel =>
       refine ⟨j+1,some ⟨g2,0,none⟩,n,R ++ [⟨vo,vc,vj,tj,0⟩],p2,by have:=(uH hKj).2 ⟨hlt,hlast⟩;omega,rfl,by go_num,?_,?_,?_,by rw [uH HNJ,uH HPJ];exact P9⟩
       ·show (R ++ [_]).length = j+1
        rw [List.length_append,uH hRl];rfl
       ·show ∀ k,k < j+1→_
        intro k hk
        rw [mrAt_snoc2 R _ k (by rw [uH hRl];exact hk)]
        by_cases g:k < R.length
        ·rw [if_pos g];exact uH hRm k (by rw [← uH hRl];exact g)
        ·rw [if_neg g,show k = j by have:=uH hRl;omega,hVJ,hTJ];exact ⟨rfl,rfl⟩
       ·show ∀ k,k < j+1→_
        intro k hk
        by_cases g:k < j
        ·exact uH hO k g
        ·rw [show k = j by omega];exact ⟨uH HGK,fun _=>uH HO⟩
      case measure=>first | (simp [intOf];done) | (simp [intOf];omega)
     ·have hno:Hid (ok = false):=hide (by
       cases hk:ok with
       | false=>rfl
       | true=>exact absurd (((uH HOK).1 hk j hlt).2 hlast) (by rw [ho];decide))
      have ba1:=below_alloc9 w5 (.cells #[.int .i64 0,.int .i64 0,.slice none 0 0] 24)
      have ba2:=below_alloc9 (w5.alloc (.cells #[.int .i64 0,.int .i64 0,.slice none 0 0] 24)) (.cells #[.slice none 0 0,.int .u64 0] 105)
      replace P4:=hide (((uH P4).all ba1).all ba2)
      clear ba1 ba2 ho
      have X3:=(uH P4).st
      have s0:=X3.res.c0;have s1:=X3.res.c1;have s2:=X3.res.c2
      have f0:=X3.res.free 0;have f1:=X3.res.free 1;have f2:=X3.res.free 2
      have XP:=X3.res.put (.int .i64 0) (.int .i64 0) (.slice none 0 0)
      have z0:=XP.c0;have z1:=XP.c1;have z2:=XP.c2
      have BP:=hide (below_putM X3.bel (b:=w.heap.size+1) (by omega) (.int .i64 0) (.int .i64 0) (.slice none 0 0))
      clear XP X3 P4
      go_wp2_with fail
      exact bodyPost_ret (v:=.tuple #[.agg #[.int .i64 0,.int .i64 0,.slice none 0 0],.slice none 0 0,.slice none 0 0,.int .i64 2]) (by simp [results,Tryz.results31,go_sem,z0,z1,z2]) rfl ⟨.inr ⟨uH hno,rfl⟩,uH BP⟩
    ·have hjm1:m = j+1:=by omega
     have hjk:j = K:=by
      rcases Nat.lt_or_ge j K with q | q
      ·exact absurd ((uH hKj).1 q).2 hlast
      ·omega
     have e1:((j:Int) == (r:Int) - 1) = true:=by rw [beq_iff_eq];omega
     have e2:(j:Int) = (r:Int) - 1:=by omega
     have e3:IntKind.i64.wrap ((r:Int) - 1) = (j:Int):=(wrap_in _ (by omega)).trans (by omega)
     have e4:(r:Int) - 1 = (j:Int):=by omega
     have HRJ:Hid (RJ m = wj):=hide (by rw [hjm1,uH HNJ];exact uH HL1 hlast)
     have HPLE:Hid (PL m = pj):=hide (by rw [hjm1];exact uH HPJ)
     have hyes:Hid (ok = true):=hide ((uH HOK).2 (fun k hk=>by
      by_cases g:k < j
      ·exact uH hO k g
      ·rw [show k = j by omega];exact ⟨uH HGK,fun q=>absurd q hlast⟩))
     rw [hjk] at hRl hRm
     have y0:=(uH P4).st.a.c0
     clear hjm1 hjk e2 G5
     have X3:=uH P4
     have q0:=X3.st.rb.c0;have q1:=X3.st.rb.c1;have q2:=X3.st.rb.c2
     have s0:=X3.st.res.c0;have s1:=X3.st.res.c1;have s2:=X3.st.res.c2
     have f0:=X3.st.res.free 0;have f1:=X3.st.res.free 1;have f2:=X3.st.res.free 2
     have XP:=X3.st.res.put (.int .i64 r) (.int .i64 c) (.slice (some ⟨g,0,none⟩) n n)
     have z0:=XP.c0;have z1:=XP.c1;have z2:=XP.c2
     have BP:=hide (below_putM X3.st.bel (b:=w.heap.size+1) (by omega) (.int .i64 r) (.int .i64 c) (.slice (some ⟨g,0,none⟩) n n))
     have QB:=hide (X3.st.bits.putM X3.st.res (.int .i64 r) (.int .i64 c) (.slice (some ⟨g,0,none⟩) n n))
     have QL:=hide (X3.st.l.putQ X3.st.res (.int .i64 r) (.int .i64 c) (.slice (some ⟨g,0,none⟩) n n))
     have HPG:=hide X3.hp
     have QP:=hide (((X3.pl.other (p:=⟨w.heap.size+1,0,none⟩) (by have:=X3.hp;show p2 ≠ w.heap.size+1;omega) (.int .i64 r)).other (p:=⟨w.heap.size+1,1,none⟩) (by have:=X3.hp;show p2 ≠ w.heap.size+1;omega) (.int .i64 c)).other (p:=⟨w.heap.size+1,2,none⟩) (by have:=X3.hp;show p2 ≠ w.heap.size+1;omega) (.slice (some ⟨g,0,none⟩) n n))
     have HN:=hide X3.st.new
     clear XP X3 P4
     go_wp2_with fail
     exact bodyPost_ret (v:=.tuple #[.agg #[.int .i64 r,.int .i64 c,.slice (some ⟨g,0,none⟩) n n],.slice (some ⟨p2,0,none⟩) c c,_,.int .i64 0]) (by simp [results,Tryz.results31,go_sem,z0,z1,z2]) rfl ⟨.inl ⟨uH hyes,_,_,_,_,R,rfl,by first | exact uH HN | (rw [uH HRJ];exact uH HN),by first | exact uH QB | (rw [uH HRJ];exact uH QB),by have:=uH HPG;omega,by first | exact uH QP | (rw [uH HPLE];exact uH QP),uH QL,uH hRl,uH hRm⟩,uH BP⟩
   ·have hno:Hid (ok = false):=hide (by
     cases hk:ok with
     | false=>rfl
     | true=>exact absurd ((uH HOK).1 hk j hlt).1 (by rw [hgk];decide))
    clear G3 G4 G5
    have X3:=(uH hS).st
    have s0:=X3.res.c0;have s1:=X3.res.c1;have s2:=X3.res.c2
    have f0:=X3.res.free 0;have f1:=X3.res.free 1;have f2:=X3.res.free 2
    have XP:=X3.res.put (.int .i64 0) (.int .i64 0) (.slice none 0 0)
    have z0:=XP.c0;have z1:=XP.c1;have z2:=XP.c2
    have BP:=hide (below_putM X3.bel (b:=w.heap.size+1) (by omega) (.int .i64 0) (.int .i64 0) (.slice none 0 0))
    clear XP X3 hS
    go_wp2_with fail
    exact bodyPost_ret (v:=.tuple #[.agg #[.int .i64 0,.int .i64 0,.slice none 0 0],.slice none 0 0,.slice none 0 0,.int .i64 2]) (by simp [results,Tryz.results31,go_sem,z0,z1,z2]) rfl ⟨.inr ⟨uH hno,rfl⟩,uH BP⟩
  ·have hjj:j = K:=by have:=uH HKM;omega
   have hKmm:K = m:=by have:=uH HKM;omega
   have hjm:¬ ((j:Int) < (m:Int)):=by omega
   have hyes:Hid (ok = true):=hide ((uH HOK).2 (fun k hk=>uH hO k (by omega)))
   rw [show RJ j = RJ m by rw [hjj,hKmm],show PL j = PL m by rw [hjj,hKmm]] at hS
   rw [hjj] at hRl hRm
   have hjs:=hide hjj
   clear hjj hKmm
   have X3:=uH hS
   have q0:=X3.st.rb.c0;have q1:=X3.st.rb.c1;have q2:=X3.st.rb.c2
   have s0:=X3.st.res.c0;have s1:=X3.st.res.c1;have s2:=X3.st.res.c2
   have f0:=X3.st.res.free 0;have f1:=X3.st.res.free 1;have f2:=X3.st.res.free 2
   have XP:=X3.st.res.put (.int .i64 r) (.int .i64 c) (.slice ro n rc)
   have z0:=XP.c0;have z1:=XP.c1;have z2:=XP.c2
   have BP:=hide (below_putM X3.st.bel (b:=w.heap.size+1) (by omega) (.int .i64 r) (.int .i64 c) (.slice ro n rc))
   have QB:=hide (X3.st.bits.putM X3.st.res (.int .i64 r) (.int .i64 c) (.slice ro n rc))
   have QL:=hide (X3.st.l.putQ X3.st.res (.int .i64 r) (.int .i64 c) (.slice ro n rc))
   have HPG:=hide X3.hp
   have QP:=hide (((X3.pl.other (p:=⟨w.heap.size+1,0,none⟩) (by have:=X3.hp;show pg ≠ w.heap.size+1;omega) (.int .i64 r)).other (p:=⟨w.heap.size+1,1,none⟩) (by have:=X3.hp;show pg ≠ w.heap.size+1;omega) (.int .i64 c)).other (p:=⟨w.heap.size+1,2,none⟩) (by have:=X3.hp;show pg ≠ w.heap.size+1;omega) (.slice ro n rc))
   have HN:=hide X3.st.new
   clear XP X3 hS
   go_wp2_with fail
   exact bodyPost_ret (v:=.tuple #[.agg #[.int .i64 r,.int .i64 c,.slice ro n rc],.slice (some ⟨pg,0,none⟩) c c,_,.int .i64 0]) (by simp [results,Tryz.results31,go_sem,z0,z1,z2]) rfl ⟨.inl ⟨uH hyes,_,_,_,_,R,rfl,by first | exact uH HN | (rw [uH HRJ];exact uH HN),by first | exact uH QB | (rw [uH HRJ];exact uH QB),by have:=uH HPG;omega,by first | exact uH QP | (rw [uH HPLE];exact uH QP),uH QL,uH hRl,uH hRm⟩,uH BP⟩
end Go.Proofs.YtnnfjeieennffaaGreatDoor
namespace Go.Proofs.YtnnfjeieennffaaGreatDoor
open Go.RowKit
attribute [local go_sem ↓] Go.wp_at_zero Go.wp_at_succ
structure UrSt (w wr:World) (h r nq:Nat) (S:List Nat) (qo:Option Addr) (qc:Nat) (v:Value) (R:List Mr):Prop where
 bel:Below w.heap.size w wr
 hh:w.heap.size+1≤h
 res:BoxM wr w.heap.size (.int .i64 0) (.int .i64 0) (.slice none 0 0)
 qb:BoxM wr h (.int .i64 r) (.int .i64 r) (.slice qo nq qc)
 bits:BitsAt wr qo qc (mxL S)
 new:NewB w.heap.size qo (mxL S)
 len:S.length = nq
 l:OwnMt 0 wr v R
theorem UrSt.all {w wr w':World} {h r nq:Nat} {S:List Nat} {qo:Option Addr} {qc:Nat} {v:Value} {R:List Mr} (t:UrSt w wr h r nq S qo qc v R) (hb:Below wr.heap.size wr w'):UrSt w w' h r nq S qo qc v R :=
 ⟨t.bel.trans (hb.mono t.bel.size),t.hh,t.res.all hb,t.qb.all hb,t.bits.below hb,t.new,t.len,t.l.below hb⟩
theorem UrSt.put {w wr:World} {h r nq:Nat} {S U:List Nat} {qo po:Option Addr} {qc pc:Nat} {v:Value} {R:List Mr} (t:UrSt w wr h r nq S qo qc v R) (hU:BitsAt wr po pc (mxL U)) (hn:NewB w.heap.size po (mxL U)) (hl:U.length = nq) :
  UrSt w (((wr.setCell ⟨h,0,none⟩ (.int .i64 r)).setCell ⟨h,1,none⟩ (.int .i64 r)).setCell ⟨h,2,none⟩ (.slice po nq pc)) h r nq U po pc v R:=by
 have hh:=t.hh
 have n0:w.heap.size ≠ h:=by omega
 exact ⟨below_putM t.bel (by omega) _ _ _,hh,t.res.three14 n0 _ _ _,t.qb.put _ _ _,hU.putM t.qb _ _ _,hn,hl,t.l.putQ t.qb _ _ _⟩
theorem UrSt.start {w w1:World} {r nq:Nat} {S:List Nat} {qo:Option Addr} {qc:Nat} {v:Value} {R:List Mr} (hB:Below (w.heap.size+1) (w.alloc (.cells #[.int .i64 0,.int .i64 0,.slice none 0 0] 24)) w1) (hS:BitsAt w1 qo qc (mxL S)) (hN:NewB w.heap.size qo (mxL S)) (hl:S.length = nq) (hL:OwnMt 0 w v R) :
  UrSt w (w1.alloc (.cells #[.int .i64 r,.int .i64 r,.slice qo nq qc] 24)) w1.heap.size r nq S qo qc v R:=by
 have b0:=below_alloc9 w (.cells #[.int .i64 0,.int .i64 0,.slice none 0 0] 24)
 have s0:=size_alloc9 w (.cells #[.int .i64 0,.int .i64 0,.slice none 0 0] 24)
 have x0:=BoxM.new w (.int .i64 0) (.int .i64 0) (.slice none 0 0)
 rw [← s0] at hB
 have b:=below_alloc9 w1 (.cells #[.int .i64 r,.int .i64 r,.slice qo nq qc] 24)
 have b1:=b0.trans (hB.mono b0.size)
 have hs:=hB.size
 rw [s0] at hs
 exact ⟨b1.trans (b.mono b1.size),hs,(x0.all hB).all b,BoxM.new w1 _ _ _,hS.below b,hN,hl,((hL.below b0).below hB).below b⟩
theorem OwnMt.apart {base:Nat} {w:World} {b n0 c0:Nat} {R:List Mr} (h:OwnMt base w (.slice (some ⟨b,0,none⟩) n0 c0) R) {g:Nat} {x y z:Value} (hx:BoxM w g x y z):b ≠ g:=by
 rcases h.1.2 with ⟨e,_⟩ | ⟨k,cap,cur,hv,hk,hh,rest⟩
 ·cases e
 ·simp only [Value.slice.injEq,Option.some.injEq,Addr.mk.injEq] at hv
  obtain ⟨⟨rfl,_⟩,_⟩:=hv
  rintro rfl
  have e:=hh.symm.trans hx
  simp at e
theorem upright_of (r nq K lc:Nat) (lo:Option Addr) (V QT:Nat→List Nat) (tau:Nat→Nat) (R:List Mr) (w:World) (h36:nq≤36) (hK6:K≤6) (hl:OwnMt 0 w (.slice lo K lc) R) (hRl:R.length = K) (hRm:∀ k,k < K→(mrAt R k).V = V k∧(mrAt R k).tau = tau k)
  (lQ:∀ t,(QT t).length = nq) (lV:∀ j,(V j).length = r - j)
  (C1:∀ w',Calls Tryz.prog 75 #[.int .i64 r] w' fun e w''=>∃ qo qc,e = .returned (.tuple #[.agg #[.int .i64 r,.int .i64 r,.slice qo nq qc],.int .i64 0])∧NewB w'.heap.size qo (mxL (QT 0))∧BitsAt w'' qo qc (mxL (QT 0))∧Below w'.heap.size w' w'')
  (C2:∀ w' t j po pc vo vc,t < K→j = K - 1 - t→Below w.heap.size w w'→BitsAt w' po pc (mxL (QT t))→BitsAt w' vo vc (mxL (V j))→Calls Tryz.prog 76 #[.agg #[.int .i64 r,.int .i64 r,.slice po nq pc],.int .i64 (j:Nat),.int .i64 0,.slice vo (r - j) vc,.int .u64 (tau j:Nat)] w' fun e w''=>∃ qo qc,e = .returned (.tuple #[.agg #[.int .i64 r,.int .i64 r,.slice qo nq qc],.int .i64 0])∧NewB w'.heap.size qo (mxL (QT (t+1)))∧BitsAt w'' qo qc (mxL (QT (t+1)))∧Below w'.heap.size w' w'')
  (C3:∀ w' x,x < 18446744073709551616→Calls Tryz.prog 68 #[.int .u64 (x:Nat)] w' fun e w''=>e = .returned (.bool (fFin x))∧Below w'.heap.size w' w'') :
  Calls Tryz.prog 32 #[.int .i64 r,.slice lo K lc] w fun e w'=>∃ t qo qc,t≤K∧(t = K ∨ fnK (mxL (QT t)) nq = false)∧e = .returned (.agg #[.int .i64 r,.int .i64 r,.slice qo nq qc])∧NewB w.heap.size qo (mxL (QT t))∧BitsAt w' qo qc (mxL (QT t))∧Below w.heap.size w w':=by
 have K1:=hide (C1 (w.alloc (.cells #[.int .i64 0,.int .i64 0,.slice none 0 0] 24)))
 simp only [size_alloc9] at K1
 have K2:=hide C2;have K3:=hide C3;have LQ:=hide lQ;have LV:=hide lV;have HL:=hide hl;have HRL:=hide hRl;have HRM:=hide hRm
 have hw2:IntKind.i64.wrap ((K:Int) - 1) = (K:Int) - 1:=wrap_in _ (by omega)
 clear C1 C2 C3 lQ lV hl hRl hRm
 go_enter Tryz.func32,Tryz.ntmps32
 go_wp2_with fail
 go_step3
 go_wp2_with fail
 refine (uH K1).mono ?_
 rintro e w1 ⟨qo,qc,rfl,hn,hq,hb⟩
 have ST:=hide (UrSt.start (r:=r) (v:=.slice lo K lc) (R:=R) hb hq (hn.least (by omega)) (uH LQ 0) (uH HL))
 clear hb hq hn K1 HL
 go_wp2_with fail
 go_step3
 go_wp2_with fail
 generalize w1.heap.size = h at *
 go_loopg [7] K (fun g a wr=>∃ (t:Nat) (qo:Option Addr) (qc:Nat),t+g = K∧a = .int .i64 ((K:Int) - 1 - (t:Int))∧Hid (UrSt w wr h r nq (QT t) qo qc (.slice lo K lc) R))
 case atStart=>exact ⟨0,qo,qc,by omega,by simp,ST⟩
 case round =>
  clear ST hw2
  obtain ⟨t,qo,qc,htg,rfl,hS⟩:=hrel
  cases gk with
  | zero =>
   have htt:t = K:=by omega
   subst htt
   have hz:(t:Int) - 1 - (t:Int) = -1:=by omega
   rw [hz]
   have S3:=uH hS
   have q0:=S3.qb.c0;have q1:=S3.qb.c1;have q2:=S3.qb.c2
   have s0:=S3.res.c0;have s1:=S3.res.c1;have s2:=S3.res.c2
   have f0:=S3.res.free 0;have f1:=S3.res.free 1;have f2:=S3.res.free 2
   have XP:=S3.res.put (.int .i64 r) (.int .i64 r) (.slice qo nq qc)
   have z0:=XP.c0;have z1:=XP.c1;have z2:=XP.c2
   have BP:=hide (below_putM S3.bel (b:=w.heap.size) (Nat.le_refl _) (.int .i64 r) (.int .i64 r) (.slice qo nq qc))
   have QB:=hide (S3.bits.putM S3.res (.int .i64 r) (.int .i64 r) (.slice qo nq qc))
   have HN:=hide S3.new
   clear XP S3 hS
   go_wp2_with fail
   try rw [Exit.noGoto_ret]
   exact bodyPost_ret (v:=.agg #[.int .i64 r,.int .i64 r,.slice qo nq qc]) (by simp [results,Tryz.results32,go_sem,z0,z1,z2]) rfl ⟨t,_,_,by omega,.inl rfl,rfl,uH HN,uH QB,uH BP⟩
  | succ g =>
   have hlt:t < K:=by omega
   obtain ⟨m,hm⟩:∃ m,K - 1 - t = m:=⟨_,rfl⟩
   have hmI:(K:Int) - 1 - (t:Int) = (m:Int):=by omega
   rw [hmI]
   have hmj:(m:Int) < (K:Int):=by omega
   obtain ⟨gl,cl,el,gl1,gl2,k0,k1,kb⟩:=(uH hS).l.at (k:=m) (by rw [uH HRL];omega)
   simp only [Value.slice.injEq] at el
   obtain ⟨rfl,hjR,rfl⟩:=el
   clear hjR gl1 gl2
   obtain ⟨ev,et⟩:=uH HRM m (by omega)
   rw [ev] at k0 kb
   rw [et] at k1
   rw [uH LV m] at k0
   have GQ:=hide (fun w' po pc vo vc hb hp hv=>uH K2 w' t m po pc vo vc hlt hm.symm hb hp hv)
   have KB:=hide kb
   have LN:=hide (uH LQ (t+1))
   generalize (mrAt R m).ao = vo at *
   generalize (mrAt R m).cap = vc at *
   generalize tau m = tm at *
   generalize V m = vm at *
   generalize hNT:QT (t+1) = nt at *
   clear kb ev et
   go_wp2_with fail
   refine at_world (fun W=>UrSt w W h r nq (QT t) qo qc (.slice (some ⟨gl,0,none⟩) K lc) R∧(W.cell? ⟨gl,m * 2,none⟩ = some (.slice vo (r - m) vc)∧W.cell? ⟨gl,m * 2+1,none⟩ = some (.int .u64 (tm:Nat)))∧BitsAt W vo vc (mxL vm)) ⟨uH hS,⟨k0,k1⟩,uH KB⟩ ?_
   clear hS k0 k1 KB
   rintro W ⟨st,⟨k0,k1⟩,kb⟩
   have hd:=(Below.refl W.heap.size W).drew
   have ST:=hide (st.all hd);have KB:=hide (kb.below hd)
   replace k0:=cell_keep k0 hd
   replace k1:=cell_keep k1 hd
   clear st kb hd
   have q0:=(uH ST).qb.c0;have q1:=(uH ST).qb.c1;have q2:=(uH ST).qb.c2
   refine wp_region_held_drew (S:=(fun w'=>w'.cell? ⟨gl,m * 2,none⟩ = some (.slice vo (r - m) vc)∧w'.cell? ⟨gl,m * 2+1,none⟩ = some (.int .u64 (tm:Nat)))) (by kernel_rfl) ?_ (fun hHeld=>?_)
   ·exact ⟨k0,k1⟩
   refine wpAnyH_take (i:=1) (oi:={ dst:=some 24,op:=Op.move (Operand.tmp 7),type:=3,pos := "mirrors.go:42",after:=#[],guard:=none }) (v:=(Value.int .i64 (m:Int))) rfl (by kernel_rfl) (by kernel_rfl) (by kernel_rfl) (fun _ _ _ h=>h) (Or.inl ⟨by rfl,?_⟩) (by assumption) ?_
   ·(intro w hSw;(try dsimp only at hSw);go_simp)
   simp only [Act.put,List.setIfInBounds_toArray,List.set_cons_zero,List.set_cons_succ]
   refine wpAnyH_take (i:=2) (oi:={ dst:=some 25,op:=Op.move (Operand.tmp 1),type:=64,pos := "mirrors.go:42",after:=#[],guard:=none }) (v:=(Value.slice (some ⟨gl,0,none⟩) K lc)) rfl (by kernel_rfl) (by kernel_rfl) (by kernel_rfl) (fun _ _ _ h=>h) (Or.inl ⟨by rfl,?_⟩) (by assumption) ?_
   ·(intro w hSw;(try dsimp only at hSw);go_simp)
   simp only [Act.put,List.setIfInBounds_toArray,List.set_cons_zero,List.set_cons_succ]
   refine wpAnyH_take (i:=3) (oi:={ dst:=some 26,op:=Op.move (Operand.tmp 7),type:=3,pos := "mirrors.go:42",after:=#[],guard:=none }) (v:=(Value.int .i64 (m:Int))) rfl (by kernel_rfl) (by kernel_rfl) (by kernel_rfl) (fun _ _ _ h=>h) (Or.inl ⟨by rfl,?_⟩) (by assumption) ?_
   ·(intro w hSw;(try dsimp only at hSw);go_simp)
   simp only [Act.put,List.setIfInBounds_toArray,List.set_cons_zero,List.set_cons_succ]
   refine wpAnyH_take (i:=4) (oi:={ dst:=some 27,op:=Op.indexAddr 64 (Operand.tmp 25) (Operand.tmp 26),type:=0,pos := "mirrors.go:42",after:=#[{ on:=2,ground:=Ground.data },{ on:=3,ground:=Ground.data }],guard:=none }) (v:=(Value.pointer (some ⟨gl,m * 2,none⟩))) rfl (by kernel_rfl) (by kernel_rfl) (by kernel_rfl) (fun _ _ _ h=>h) (Or.inl ⟨by rfl,?_⟩) (by assumption) ?_
   ·(intro w hSw;(try dsimp only at hSw);go_simp)
   simp only [Act.put,List.setIfInBounds_toArray,List.set_cons_zero,List.set_cons_succ]
   refine wpAnyH_take (i:=5) (oi:={ dst:=some 28,op:=Op.fieldAddr 105 (Operand.tmp 27) 0,type:=0,pos := "mirrors.go:42",after:=#[{ on:=4,ground:=Ground.data }],guard:=none }) (v:=(Value.pointer (some ⟨gl,m * 2,none⟩))) rfl (by kernel_rfl) (by kernel_rfl) (by kernel_rfl) (fun _ _ _ h=>h) (Or.inl ⟨by rfl,?_⟩) (by assumption) ?_
   ·(intro w hSw;(try dsimp only at hSw);go_simp)
   simp only [Act.put,List.setIfInBounds_toArray,List.set_cons_zero,List.set_cons_succ]
   refine wpAnyH_take (i:=6) (oi:={ dst:=some 29,op:=Op.load 22 (Operand.tmp 28),type:=22,pos := "mirrors.go:42",after:=#[{ on:=5,ground:=Ground.data }],guard:=none }) (v:=(Value.slice vo (r - m) vc)) rfl (by kernel_rfl) (by kernel_rfl) (by kernel_rfl) (fun _ _ _ h=>h) (Or.inl ⟨by rfl,?_⟩) (by assumption) ?_
   ·(intro w hSw;(try dsimp only at hSw);go_simp)
   simp only [Act.put,List.setIfInBounds_toArray,List.set_cons_zero,List.set_cons_succ]
   refine wpAnyH_take (i:=7) (oi:={ dst:=some 30,op:=Op.move (Operand.tmp 1),type:=64,pos := "mirrors.go:42",after:=#[],guard:=none }) (v:=(Value.slice (some ⟨gl,0,none⟩) K lc)) rfl (by kernel_rfl) (by kernel_rfl) (by kernel_rfl) (fun _ _ _ h=>h) (Or.inl ⟨by rfl,?_⟩) (by assumption) ?_
   ·(intro w hSw;(try dsimp only at hSw);go_simp)
   simp only [Act.put,List.setIfInBounds_toArray,List.set_cons_zero,List.set_cons_succ]
   refine wpAnyH_take (i:=8) (oi:={ dst:=some 31,op:=Op.move (Operand.tmp 7),type:=3,pos := "mirrors.go:42",after:=#[],guard:=none }) (v:=(Value.int .i64 (m:Int))) rfl (by kernel_rfl) (by kernel_rfl) (by kernel_rfl) (fun _ _ _ h=>h) (Or.inl ⟨by rfl,?_⟩) (by assumption) ?_
   ·(intro w hSw;(try dsimp only at hSw);go_simp)
   simp only [Act.put,List.setIfInBounds_toArray,List.set_cons_zero,List.set_cons_succ]
   refine wpAnyH_take (i:=9) (oi:={ dst:=some 32,op:=Op.indexAddr 64 (Operand.tmp 30) (Operand.tmp 31),type:=0,pos := "mirrors.go:42",after:=#[{ on:=7,ground:=Ground.data },{ on:=8,ground:=Ground.data }],guard:=none }) (v:=(Value.pointer (some ⟨gl,m * 2,none⟩))) rfl (by kernel_rfl) (by kernel_rfl) (by kernel_rfl) (fun _ _ _ h=>h) (Or.inl ⟨by rfl,?_⟩) (by assumption) ?_
   ·(intro w hSw;(try dsimp only at hSw);go_simp)
   simp only [Act.put,List.setIfInBounds_toArray,List.set_cons_zero,List.set_cons_succ]
   refine wpAnyH_take (i:=10) (oi:={ dst:=some 33,op:=Op.fieldAddr 105 (Operand.tmp 32) 1,type:=0,pos := "mirrors.go:42",after:=#[{ on:=9,ground:=Ground.data }],guard:=none }) (v:=(Value.pointer (some ⟨gl,m * 2+1,none⟩))) rfl (by kernel_rfl) (by kernel_rfl) (by kernel_rfl) (fun _ _ _ h=>h) (Or.inl ⟨by rfl,?_⟩) (by assumption) ?_
   ·(intro w hSw;(try dsimp only at hSw);go_simp)
   simp only [Act.put,List.setIfInBounds_toArray,List.set_cons_zero,List.set_cons_succ]
   refine wpAnyH_take (i:=11) (oi:={ dst:=some 34,op:=Op.load 31 (Operand.tmp 33),type:=31,pos := "mirrors.go:42",after:=#[{ on:=10,ground:=Ground.data }],guard:=none }) (v:=(Value.int .u64 (tm:Int))) rfl (by kernel_rfl) (by kernel_rfl) (by kernel_rfl) (fun _ _ _ h=>h) (Or.inl ⟨by rfl,?_⟩) (by assumption) ?_
   ·(intro w hSw;(try dsimp only at hSw);go_simp)
   simp only [Act.put,List.setIfInBounds_toArray,List.set_cons_zero,List.set_cons_succ]
   refine wpAnyH_ready (rs:=[0]) (by kernel_rfl) (by simp) ?_
   refine AllReadyH.cons (o:={ dst:=some 23,op:=Op.load 24 (Operand.tmp 5),type:=24,pos := "mirrors.go:42",after:=#[],guard:=none }) rfl (fun KK hK=>?_) AllReadyH.nil
   go_simp
   refine hK.out _ _ ?_ (fun hHeld=>?_)
   ·exact ⟨k0,k1⟩
   clear hK KK
   refine wpAnyH_ready (rs:=[12]) (by kernel_rfl) (by simp) ?_
   refine AllReadyH.cons (o:={ dst:=some 35,op:=Op.call { callee:=Callee.value (Operand.func 76),args:=#[Operand.tmp 23,Operand.tmp 24,Operand.const (Value.int IntKind.i64 0),Operand.tmp 29,Operand.tmp 34],argTypes:=#[24,3,3,22,31] },type:=43,pos := "mirrors.go:42",after:=#[{ on:=0,ground:=Ground.data },{ on:=1,ground:=Ground.data },{ on:=6,ground:=Ground.data },{ on:=11,ground:=Ground.data }],guard:=none }) rfl (fun KK hK=>?_) AllReadyH.nil
   go_simp
   refine (uH GQ _ _ _ _ _ (uH ST).bel (uH ST).bits (uH KB)).mono ?_
   rintro e w5 ⟨qo5,qc5,rfl,hn5,hq5,hb⟩
   clear q0 q1 q2
   have S5:=(uH ST).all hb
   replace k0:=cell_keep k0 hb
   replace k1:=cell_keep k1 hb
   have HS5:=hide (And.intro k0 k1)
   have ha:=S5.l.apart S5.qb
   have HS6:=hide (And.intro (show (((w5.setCell ⟨h,0,none⟩ (.int .i64 r)).setCell ⟨h,1,none⟩ (.int .i64 r)).setCell ⟨h,2,none⟩ (.slice qo5 nq qc5)).cell? ⟨gl,m * 2,none⟩ = some (.slice vo (r - m) vc) by rw [cell_setCell_other _ _ _ _ ha,cell_setCell_other _ _ _ _ ha,cell_setCell_other _ _ _ _ ha];exact k0) (show (((w5.setCell ⟨h,0,none⟩ (.int .i64 r)).setCell ⟨h,1,none⟩ (.int .i64 r)).setCell ⟨h,2,none⟩ (.slice qo5 nq qc5)).cell? ⟨gl,m * 2+1,none⟩ = some (.int .u64 (tm:Nat)) by rw [cell_setCell_other _ _ _ _ ha,cell_setCell_other _ _ _ _ ha,cell_setCell_other _ _ _ _ ha];exact k1))
   have q0:=S5.qb.c0;have q1:=S5.qb.c1;have q2:=S5.qb.c2
   have f0:=S5.qb.free 0;have f1:=S5.qb.free 1;have f2:=S5.qb.free 2
   have P5:=hide (S5.put hq5 (hn5.least (uH ST).bel.size) (uH LN))
   clear hb hq5 hn5 S5 GQ ST KB ha k0 k1
   go_wp2_with fail
   refine hK.out _ _ ?_ (fun hHeld=>?_)
   ·exact uH HS5
   clear hK KK
   refine wpAnyH_take (i:=13) (oi:={ dst:=some 22,op:=Op.move (Operand.tmp 35),type:=43,pos := "mirrors.go:42",after:=#[{ on:=12,ground:=Ground.data }],guard:=none }) (v:=(Value.tuple #[(Value.agg #[.int .i64 (r:Int),.int .i64 (r:Int),.slice qo5 nq qc5]),.int .i64 0])) rfl (by kernel_rfl) (by kernel_rfl) (by kernel_rfl) (fun _ _ _ h=>h) (Or.inl ⟨by rfl,?_⟩) (by assumption) ?_
   ·(intro w hSw;(try dsimp only at hSw);go_simp)
   simp only [Act.put,List.setIfInBounds_toArray,List.set_cons_zero,List.set_cons_succ]
   refine wpAnyH_take (i:=14) (oi:={ dst:=some 36,op:=Op.extract (Operand.tmp 22) 0,type:=24,pos := "mirrors.go:42",after:=#[{ on:=13,ground:=Ground.data }],guard:=none }) (v:=(Value.agg #[.int .i64 (r:Int),.int .i64 (r:Int),.slice qo5 nq qc5])) rfl (by kernel_rfl) (by kernel_rfl) (by kernel_rfl) (fun _ _ _ h=>h) (Or.inl ⟨by rfl,?_⟩) (by assumption) ?_
   ·(intro w hSw;(try dsimp only at hSw);go_simp)
   simp only [Act.put,List.setIfInBounds_toArray,List.set_cons_zero,List.set_cons_succ]
   refine wpAnyH_take (i:=15) (oi:={ dst:=some 37,op:=Op.extract (Operand.tmp 22) 1,type:=27,pos := "mirrors.go:42",after:=#[{ on:=13,ground:=Ground.data },{ on:=16,ground:=Ground.gcOnly Departure.lateStores }],guard:=none }) (v:=(Value.int .i64 0)) rfl (by kernel_rfl) (by kernel_rfl) (by kernel_rfl) (fun _ _ _ h=>h) (Or.inl ⟨by rfl,?_⟩) (by assumption) ?_
   ·(intro w hSw;(try dsimp only at hSw);go_simp)
   simp only [Act.put,List.setIfInBounds_toArray,List.set_cons_zero,List.set_cons_succ]
   refine wpAnyH_ready (rs:=[16]) (by kernel_rfl) (by simp) ?_
   refine AllReadyH.cons (o:={ dst:=none,op:=Op.store 24 (Operand.tmp 5) (Operand.tmp 36),type:=0,pos := "mirrors.go:42",after:=#[{ on:=14,ground:=Ground.data },{ on:=12,ground:=Ground.chain },{ on:=0,ground:=Ground.phase },{ on:=1,ground:=Ground.phase },{ on:=2,ground:=Ground.phase },{ on:=3,ground:=Ground.phase },{ on:=4,ground:=Ground.phase },{ on:=5,ground:=Ground.phase },{ on:=6,ground:=Ground.phase },{ on:=7,ground:=Ground.phase },{ on:=8,ground:=Ground.phase },{ on:=9,ground:=Ground.phase },{ on:=10,ground:=Ground.phase },{ on:=11,ground:=Ground.phase },{ on:=12,ground:=Ground.phase },{ on:=13,ground:=Ground.phase },{ on:=14,ground:=Ground.phase },{ on:=15,ground:=Ground.textOnly Departure.lateStores }],guard:=none }) rfl (fun KK hK=>?_) AllReadyH.nil
   go_simp
   refine hK.out _ _ ?_ (fun hHeld=>?_)
   ·exact uH HS6
   clear hK KK
   refine wpAnyH_done (by kernel_rfl) ?_ _
   clear q0 q1 q2 f0 f1 f2 HS5 HS6
   have z2:=(uH P5).qb.c2
   go_wp2_with fail
   clear z2
   go_loopg [41] nq (fun g2 a wr=>∃ i:Nat,i+g2 = nq∧a = .int .i64 i∧Hid (∀ k,k < i→fFin (atB (mxL nt) k) = true)∧Hid (UrSt w wr h r nq nt qo5 qc5 (.slice (some ⟨gl,0,none⟩) K lc) R))
   case atStart=>exact ⟨0,by omega,rfl,fun k hk=>absurd hk (Nat.not_lt_zero k),by first | exact P5 | exact hide (uH P5)⟩
   case round =>
    clear P5
    obtain ⟨i,hig,rfl,hF,hS⟩:=hrel
    cases gk with
    | zero =>
     have hii:¬ ((i:Int) < (nq:Int)):=by omega
     have hw3:IntKind.i64.wrap ((m:Int) - 1) = (m:Int) - 1:=wrap_in _ (by omega)
     go_wp2_with fail
     go_roundg g
     case measure=>omega
     case rel=>exact ⟨t+1,qo5,qc5,by omega,by rw [show (m:Int) - 1 = (K:Int) - 1 - ((t+1:Nat):Int) by omega],by rw [hNT];exact hS⟩
    | succ g2 =>
     have hiI:(i:Int) < (nq:Int):=by omega
     obtain ⟨b5,o5,rfl,_,hc5⟩:=(uH hS).bits.ne (by rw [mxL_len,(uH hS).len];omega)
     have c5:=hc5 i (by rw [mxL_len,(uH hS).len];omega)
     have hx:=(uH hS).bits.lt i
     have ec:(mxL nt)[i]?.getD 0 = (atB (mxL nt) i:Int):=((uH hS).bits.wf i).1
     have HFI:=hide (fun (e:fFin (atB (mxL nt) i) = true)=>(show ∀ k,k < i+1→fFin (atB (mxL nt) k) = true from fun k hk=>by
      rcases Nat.lt_or_ge k i with g | g
      ·exact uH hF k g
      ·rw [show k = i by omega];exact e))
     have HNO:=hide (fun (e:fFin (atB (mxL nt) i) = false)=>fnK_no (mxL nt) nq i (by omega) e)
     have KX:=hide (fun w'=>uH K3 w' _ hx)
     generalize atB (mxL nt) i = x at *
     clear hx hc5 ec
     go_wp2_with fail
     clear c5
     refine (uH KX _).mono ?_
     rintro e w6 ⟨rfl,hb⟩
     have S6:=hide ((uH hS).all hb)
     clear hb hS KX
     cases hfx:fFin x with
     | true =>
      go_wp2_with fail
      go_roundg g2
      case measure=>omega
      case rel=>exact ⟨i+1,by omega,by go_num,hide (uH HFI hfx),S6⟩
     | false =>
      have S3:=uH S6
      have hno:=hide (uH HNO hfx)
      have q0:=S3.qb.c0;have q1:=S3.qb.c1;have q2:=S3.qb.c2
      have s0:=S3.res.c0;have s1:=S3.res.c1;have s2:=S3.res.c2
      have f0:=S3.res.free 0;have f1:=S3.res.free 1;have f2:=S3.res.free 2
      have XP:=S3.res.put (.int .i64 r) (.int .i64 r) (.slice (some ⟨b5,o5,none⟩) nq qc5)
      have z0:=XP.c0;have z1:=XP.c1;have z2:=XP.c2
      have BP:=hide (below_putM S3.bel (b:=w.heap.size) (Nat.le_refl _) (.int .i64 r) (.int .i64 r) (.slice (some ⟨b5,o5,none⟩) nq qc5))
      have QB:=hide (S3.bits.putM S3.res (.int .i64 r) (.int .i64 r) (.slice (some ⟨b5,o5,none⟩) nq qc5))
      have HN:=hide S3.new
      clear XP S3 S6
      go_wp2_with fail
      try rw [Exit.noGoto_ret]
      exact bodyPost_ret (v:=.agg #[.int .i64 r,.int .i64 r,.slice (some ⟨b5,o5,none⟩) nq qc5]) (by simp [results,Tryz.results32,go_sem,z0,z1,z2]) rfl ⟨t+1,_,_,by omega,.inr (by rw [hNT];exact uH hno),rfl,by rw [hNT];exact uH HN,by rw [hNT];exact uH QB,uH BP⟩
end Go.Proofs.YtnnfjeieennffaaGreatDoor
