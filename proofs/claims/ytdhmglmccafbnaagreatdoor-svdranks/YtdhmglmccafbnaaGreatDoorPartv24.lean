/- Part 24 of the texts. -/
import Derived.Test.YtdhmglmccafbnaaGreatDoorPartv22
import Derived.Test.YtdhmglmccafbnaaGreatDoorPartv15
import Derived.Test.YtdhmglmccafbnaaGreatDoorPartv14
import Derived.Test.YtdhmglmccafbnaaGreatDoorPartv19
import Derived.Test.YtdhmglmccafbnaaGreatDoorPartv18
import Derived.Test.YtdhmglmccafbnaaGreatDoorPartv16
import Derived.Test.YtdhmglmccafbnaaGreatDoorPartv17
import Derived.Test.YtdhmglmccafbnaaGreatDoorPartv12
import Derived.Test.YtdhmglmccafbnaaGreatDoorPartv13
import Derived.Deep.Cut
import Derived.BigQuiet
import Derived.Test.YtdhmglmccafbnaaGreatDoorPartv09
import Derived.Test.YtdhmglmccafbnaaGreatDoorPartv21
import Derived.Deep.RegionLaw
import Derived.Deep.RegionWith
import Derived.Deep.RegionHeld3
import Derived.Test.YtdhmglmccafbnaaGreatDoorPartv11
import Derived.Test.YtdhmglmccafbnaaGreatDoorPartv03
import Derived.Test.YtdhmglmccafbnaaGreatDoorPartv04
import Derived.Maps.AppendAt
import Derived.Test.YtdhmglmccafbnaaGreatDoorPartv01
import Derived.Test.YtdhmglmccafbnaaGreatDoorPartv06
import Derived.Lib.BitFns
import Derived.Maps.Own
import Derived.Maps.OwnOps
import Derived.Maps.OwnSet
import Derived.DeepKeys4
import Derived.Test.YtdhmglmccafbnaaGreatDoorPartv08
import Derived.WalkSmall
import Derived.Test.YtdhmglmccafbnaaGreatDoorPartv02
import Derived.Test.YtdhmglmccafbnaaGreatDoorPartv05
import Derived.Test.YtdhmglmccafbnaaGreatDoorPartv07
import Derived.Test.YtdhmglmccafbnaaGreatDoorPartv23
import Derived.Test.YtdhmglmccafbnaaGreatDoorPartv20
set_option maxHeartbeats 4000000
set_option maxRecDepth 20000
namespace Go.Proofs.YtdhmglmccafbnaaGreatDoor
def coL (r c:Nat) (S:List Nat) (L:List Nat):List Nat:=mkM r L.length (fun i k=>elM c S i (L.getD k 0))
theorem coL_len (r c:Nat) (S L:List Nat):(coL r c S L).length = r * L.length:=mkM_len _ _ _
end Go.Proofs.YtdhmglmccafbnaaGreatDoor
namespace Go.Proofs.YtdhmglmccafbnaaGreatDoor
open Go.RowKit
attribute [local go_sem ↓] Go.wp_at_zero Go.wp_at_succ
theorem mxL_int (L:List Nat) {k:Nat} (hk:k < L.length):(mxL L)[k]?.getD 0 = ((L.getD k 0:Nat):Int):=by
 unfold mxL
 rw [List.getElem?_map,List.getElem?_eq_getElem hk,List.getD_eq_getElem?_getD,List.getElem?_eq_getElem hk]
 rfl
end Go.Proofs.YtdhmglmccafbnaaGreatDoor
namespace Go.Proofs.YtdhmglmccafbnaaGreatDoor
open Go.RowKit
attribute [local go_sem ↓] Go.wp_at_zero Go.wp_at_succ
def RowI (w:World) (g:Nat) (L:List Nat):Prop:=w.heap[g]? = some (.cells ((mxL L).map intV).toArray 3 (0,0))
theorem RowI.cell {w:World} {g:Nat} {L:List Nat} (h:RowI w g L) (j:Nat) (hj:j < L.length):w.cell? ⟨g,j,none⟩ = some (.int .i64 ((L[j]?.getD 0:Nat):Int)):=by
 rw [cell_of_row w g j _ _ _ h]
 simp [intV,mxL,hj]
theorem RowI.free {w:World} {g:Nat} {L:List Nat} (h:RowI w g L) (j:Nat):w.frozen? ⟨g,j,none⟩ = false:=frozen_of_row w g j _ _ h
theorem RowI.set {w:World} {g:Nat} {L:List Nat} (h:RowI w g L) (j x:Nat):RowI (w.setCell ⟨g,j,none⟩ (.int .i64 (x:Int))) g (L.set j x):=by
 unfold RowI
 rw [heap_setCell_same w g j _ _ _ h]
 simp [intV,mxL,List.map_set]
theorem RowI.lt {w:World} {g:Nat} {L:List Nat} (h:RowI w g L):g < w.heap.size:=(Array.getElem?_eq_some_iff.1 h).1
theorem RowI.below {w w':World} {g:Nat} {L:List Nat} (h:RowI w g L) {B:Nat} (hb:Below B w w') (hg:g < B):RowI w' g L:=by
 unfold RowI;rw [hb.block g hg];exact h
theorem RowI.all {w w':World} {g:Nat} {L:List Nat} (h:RowI w g L) (hb:Below w.heap.size w w'):RowI w' g L:=h.below hb h.lt
theorem RowI.other {w:World} {g:Nat} {L:List Nat} (h:RowI w g L) {p:Addr} (hp:g ≠ p.block) (u:Value):RowI (w.setCell p u) g L:=(Below.heap_setCell w p u g hp).trans h
theorem RowI.three {w:World} {b g:Nat} {L:List Nat} (h:RowI w b L) (hg:b ≠ g) (u u' u'':Value):RowI (((w.setCell ⟨g,0,none⟩ u).setCell ⟨g,1,none⟩ u').setCell ⟨g,2,none⟩ u'') b L :=
 ((h.other (p:=⟨g,0,none⟩) hg _).other (p:=⟨g,1,none⟩) hg _).other (p:=⟨g,2,none⟩) hg _
theorem made_ints16 (n:Nat):madeCells #[Value.int .i64 0] n = ((mxL (List.replicate n 0)).map intV).toArray:=by
 apply Array.ext'
 refine List.ext_getElem (by simp [madeCells,mxL]) fun i h1 h2=>?_
 simp [madeCells,Nat.mod_one,mxL,intV]
theorem RowI.made (w:World) (n:Nat):RowI (w.alloc (.cells (madeCells #[.int .i64 0] n) 3)) w.heap.size (List.replicate n 0):=by
 unfold RowI
 rw [heap_alloc_new w _,made_ints16]
theorem RowI.ints {w:World} {g:Nat} {L:List Nat} (h:RowI w g L) (hL:∀ x ∈ L,x≤1000000):IntsAt w (some ⟨g,0,none⟩) L.length (mxL L):=by
 refine ⟨by rw [mxL_len];exact Nat.le_refl _,fun x hx=>?_,.inr ⟨g,0,rfl,h.lt,fun i hi=>?_⟩⟩
 ·obtain ⟨y,hy,rfl⟩:=List.mem_map.1 hx
  have:=hL y hy
  omega
 ·rw [mxL_len] at hi
  rw [Nat.zero_add,h.cell i hi,mxL_int L hi,List.getD_eq_getElem?_getD]
end Go.Proofs.YtdhmglmccafbnaaGreatDoor
namespace Go.Proofs.YtdhmglmccafbnaaGreatDoor
open Go.RowKit
attribute [local go_sem ↓] Go.wp_at_zero Go.wp_at_succ
theorem cO_cases (a b:Nat):cO a b = -1 ∨ cO a b = 0 ∨ cO a b = 1:=by
 unfold cO cmpI
 repeat' split
 all_goals simp
theorem cless_any (a b:Nat) (w:World) (ha:a < 18446744073709551616) (hb:b < 18446744073709551616) :
  Calls Tryz.prog 98 #[.int .u64 a,.int .u64 b] w fun r w'=>r = .returned (.bool (decide (cO a b < 0)))∧Below w.heap.size w w':=by
 have C:=fun w'=>corder_any a b w' ha hb
 have hB:cB a b = false→cO a b = 0:=by
  unfold cB cO
  split
  ·intro _;rfl
  ·intro e;cases e
 cases hc:cB a b
 ·have h0:=hB hc
  rw [h0,hc] at C
  rw [h0]
  exact less_of a b 0 false false false w (.inl ⟨rfl,rfl,rfl,rfl⟩) C
 ·rw [hc] at C
  rcases cO_cases a b with e | e | e
  ·rw [e] at C ⊢
   exact less_of a b (-1) true true false w (.inr (.inl ⟨rfl,rfl,rfl,rfl⟩)) C
  ·rw [e] at C ⊢
   exact less_of a b 0 true false true w (.inr (.inr (.inl ⟨rfl,rfl,rfl,rfl⟩))) C
  ·rw [e] at C ⊢
   exact less_of a b 1 true false false w (.inr (.inr (.inr ⟨rfl,rfl,rfl,rfl⟩))) C
end Go.Proofs.YtdhmglmccafbnaaGreatDoor
namespace Go.Proofs.YtdhmglmccafbnaaGreatDoor
open Go.RowKit
attribute [local go_sem ↓] Go.wp_at_zero Go.wp_at_succ
theorem bits_cell {w:World} {po:Option Addr} {pc:Nat} {xs:List Nat} (h:BitsAt w po pc (mxL xs)) {k:Nat} (hk:k < xs.length):∃ b off,po = some ⟨b,off,none⟩∧b < w.heap.size∧w.cell? ⟨b,off+k,none⟩ = some (.int .u64 (xs.getD k 0:Nat)):=by
 obtain ⟨b,off,e1,e2,e3⟩:=h.ne (by rw [mxL_len];omega)
 refine ⟨b,off,e1,e2,?_⟩
 rw [e3 k (by rw [mxL_len];exact hk),mxL_at]
end Go.Proofs.YtdhmglmccafbnaaGreatDoor
namespace Go.Proofs.YtdhmglmccafbnaaGreatDoor
open Go.RowKit
attribute [local go_sem ↓] Go.wp_at_zero Go.wp_at_succ
def GsSt (w W:World) (r c n cap:Nat) (ao:Option Addr):Prop:=Below w.heap.size w W∧BoxM W w.heap.size (.int .i64 r) (.int .i64 c) (.slice ao n cap)∧BoxM W (w.heap.size+1) (.int .i64 0) (.int .i64 0) (.slice none 0 0)
theorem GsSt.all {w W W':World} {r c n cap:Nat} {ao:Option Addr} (h:GsSt w W r c n cap ao) (hb:Below W.heap.size W W'):GsSt w W' r c n cap ao:=⟨h.1.trans (hb.mono h.1.size),h.2.1.all hb,h.2.2.all hb⟩
theorem gRows_err (r c:Int) (ao:Option Addr) (n cap:Nat) (i k:Int) (C s:Nat) (er:Int) (w:World) (her:er = 1 ∨ er = 7)
  (C1:∀ w',Calls Tryz.prog 231 #[.agg #[.int .i64 r,.int .i64 c,.slice ao n cap],.int .i64 r,.int .i64 i,.int .i64 k] w' fun e w''=>e = .returned (.int .i64 er)∧Below w'.heap.size w' w'') :
  Calls Tryz.prog 199 #[.agg #[.int .i64 r,.int .i64 c,.slice ao n cap],.int .i64 i,.int .i64 k,.int .u64 C,.int .u64 s] w fun e w'=>∃ v,e = .returned (.tuple #[v,.int .i64 er])∧NewM w.heap.size w' 0 0 [] v∧Below w.heap.size w w':=by
 have K:=hide (C1 ((w.alloc (.cells #[.int .i64 r,.int .i64 c,.slice ao n cap] 25)).alloc (.cells #[.int .i64 0,.int .i64 0,.slice none 0 0] 25)))
 simp only [size_alloc9] at K
 have KB:=hide (boxes2 w (.int .i64 r) (.int .i64 c) (.slice ao n cap) (.int .i64 0) (.int .i64 0) (.slice none 0 0))
 clear C1
 rcases her with rfl | rfl
 all_goals
  go_enter Tryz.func199,Tryz.ntmps199
  go_wp2_with fail
  refine Calls.mono (uH K) ?_
  rintro e w1 ⟨rfl,hb1⟩
  obtain ⟨hB,hA,hX⟩:=uH KB w1 hb1
  clear K KB hb1 hA
  have f0:=hX.free 0;have f1:=hX.free 1;have f2:=hX.free 2
  have s0:=hX.c0;have s1:=hX.c1;have s2:=hX.c2
  have XP:=hX.put (.int .i64 0) (.int .i64 0) (.slice none 0 0)
  have z0:=XP.c0;have z1:=XP.c1;have z2:=XP.c2
  have BP:=hide (below_putM hB (b:=w.heap.size+1) (by omega) (.int .i64 0) (.int .i64 0) (.slice none 0 0))
  clear XP hX hB
  go_wp2
  refine bodyPost_ret (v:=.tuple #[.agg #[.int .i64 0,.int .i64 0,.slice none 0 0],_]) (by simp [results,Tryz.results199,go_sem,z0,z1,z2]) rfl ⟨_,rfl,NewM.zero _ _,uH BP⟩
theorem gRows_row (r c n cap i k C s u0 u1 u2 l0 l1 l2:Nat) (ao:Option Addr) (S:List Nat) (w:World)
  (C1:∀ w',Calls Tryz.prog 231 #[.agg #[.int .i64 r,.int .i64 c,.slice ao n cap],.int .i64 r,.int .i64 i,.int .i64 k] w' fun e w''=>e = .returned (.int .i64 0)∧Below w'.heap.size w' w'')
  (C2:∀ w',Calls Tryz.prog 233 #[.agg #[.int .i64 r,.int .i64 c,.slice ao n cap],.int .i64 i] w' fun e w''=>e = .returned (.agg #[.int .i64 u0,.int .i64 u1,.int .i64 u2])∧Below w'.heap.size w' w'')
  (C3:∀ w',Calls Tryz.prog 233 #[.agg #[.int .i64 r,.int .i64 c,.slice ao n cap],.int .i64 k] w' fun e w''=>e = .returned (.agg #[.int .i64 l0,.int .i64 l1,.int .i64 l2])∧Below w'.heap.size w' w'')
  (C4:∀ w',Below w.heap.size w w'→Calls Tryz.prog 232 #[.agg #[.int .i64 r,.int .i64 c,.slice ao n cap],.agg #[.int .i64 u0,.int .i64 u1,.int .i64 u2],.agg #[.int .i64 l0,.int .i64 l1,.int .i64 l2],.int .u64 C,.int .u64 s] w' fun e w''=>∃ g,e = .returned (.agg #[.int .i64 r,.int .i64 c,.slice (some ⟨g,0,none⟩) n n])∧w'.heap.size≤g∧RowB w'' g S∧Below w'.heap.size w' w'') :
  Calls Tryz.prog 199 #[.agg #[.int .i64 r,.int .i64 c,.slice ao n cap],.int .i64 i,.int .i64 k,.int .u64 C,.int .u64 s] w fun e w'=>∃ g,e = .returned (.tuple #[.agg #[.int .i64 r,.int .i64 c,.slice (some ⟨g,0,none⟩) n n],.int .i64 0])∧w.heap.size≤g∧RowB w' g S∧Below w.heap.size w w':=by
 have K:=hide (C1 ((w.alloc (.cells #[.int .i64 r,.int .i64 c,.slice ao n cap] 25)).alloc (.cells #[.int .i64 0,.int .i64 0,.slice none 0 0] 25)))
 simp only [size_alloc9] at K
 have KB:=hide (boxes2 w (.int .i64 r) (.int .i64 c) (.slice ao n cap) (.int .i64 0) (.int .i64 0) (.slice none 0 0))
 have K2:=hide C2;have K3:=hide C3;have K4:=hide C4
 clear C1 C2 C3 C4
 go_enter Tryz.func199,Tryz.ntmps199
 go_wp2_with fail
 refine Calls.mono (uH K) ?_
 rintro e w1 ⟨rfl,hb1⟩
 obtain ⟨hB,hA,hX⟩:=uH KB w1 hb1
 clear K KB hb1
 have ST:=hide (show GsSt w w1 r c n cap ao from ⟨hB,hA,hX⟩)
 have a0:=hA.c0;have a1:=hA.c1;have a2:=hA.c2
 clear hB hA hX
 go_wp2_with fail
 clear a0 a1 a2
 refine at_world (fun W=>GsSt w W r c n cap ao) (uH ST) ?_
 clear ST
 rintro W0 st
 have ST:=hide (st.all ((Below.refl W0.heap.size W0).drew))
 clear st
 have a0:=(uH ST).2.1.c0;have a1:=(uH ST).2.1.c1;have a2:=(uH ST).2.1.c2
 go_region_with (first
  | (go_at_call 233;refine (uH K2 _).mono ?_;rintro e w4 ⟨rfl,hb⟩;clear a0 a1 a2;have S4:=(uH ST).all hb;have a0:=S4.2.1.c0;have a1:=S4.2.1.c1;have a2:=S4.2.1.c2;replace ST:=hide S4;clear S4 hb K2)
  | (go_at_call 233;refine (uH K3 _).mono ?_;rintro e w5 ⟨rfl,hb⟩;clear a0 a1 a2;have S4:=(uH ST).all hb;have a0:=S4.2.1.c0;have a1:=S4.2.1.c1;have a2:=S4.2.1.c2;replace ST:=hide S4;clear S4 hb K3)
  | (go_at_call 232;refine (uH K4 _ (uH ST).1).mono ?_;rintro e w6 ⟨g,rfl,hg,hr,hb⟩;clear a0 a1 a2;have S4:=(uH ST).all hb;have f0:=S4.2.2.free 0;have f1:=S4.2.2.free 1;have f2:=S4.2.2.free 2;have s0:=S4.2.2.c0;have s1:=S4.2.2.c1;have s2:=S4.2.2.c2;have HG:=hide (Nat.le_trans (uH ST).1.size hg);have XP:=S4.2.2.put (.int .i64 r) (.int .i64 c) (.slice (some ⟨g,0,none⟩) n n);have z0:=XP.c0;have z1:=XP.c1;have z2:=XP.c2;have Q:=hide (hr.three (rowB_neM hr S4.2.2) (.int .i64 r) (.int .i64 c) (.slice (some ⟨g,0,none⟩) n n));have BP:=hide (below_putM S4.1 (b:=w.heap.size+1) (by omega) (.int .i64 r) (.int .i64 c) (.slice (some ⟨g,0,none⟩) n n));clear S4 hb hg hr XP ST K4)
  | fail "NO ARM")
 all_goals
  go_wp2
  exact bodyPost_ret (v:=.tuple #[.agg #[.int .i64 r,.int .i64 c,.slice (some ⟨g,0,none⟩) n n],.int .i64 0]) (by simp [results,Tryz.results199,go_sem,z0,z1,z2]) rfl ⟨g,rfl,uH HG,uH Q,uH BP⟩
theorem gCols_row (r c n cap i k C s u0 u1 u2 l0 l1 l2:Nat) (ao:Option Addr) (S:List Nat) (w:World)
  (C1:∀ w',Calls Tryz.prog 231 #[.agg #[.int .i64 r,.int .i64 c,.slice ao n cap],.int .i64 c,.int .i64 i,.int .i64 k] w' fun e w''=>e = .returned (.int .i64 0)∧Below w'.heap.size w' w'')
  (C2:∀ w',Calls Tryz.prog 234 #[.agg #[.int .i64 r,.int .i64 c,.slice ao n cap],.int .i64 i] w' fun e w''=>e = .returned (.agg #[.int .i64 u0,.int .i64 u1,.int .i64 u2])∧Below w'.heap.size w' w'')
  (C3:∀ w',Calls Tryz.prog 234 #[.agg #[.int .i64 r,.int .i64 c,.slice ao n cap],.int .i64 k] w' fun e w''=>e = .returned (.agg #[.int .i64 l0,.int .i64 l1,.int .i64 l2])∧Below w'.heap.size w' w'')
  (C4:∀ w',Below w.heap.size w w'→Calls Tryz.prog 232 #[.agg #[.int .i64 r,.int .i64 c,.slice ao n cap],.agg #[.int .i64 u0,.int .i64 u1,.int .i64 u2],.agg #[.int .i64 l0,.int .i64 l1,.int .i64 l2],.int .u64 C,.int .u64 s] w' fun e w''=>∃ g,e = .returned (.agg #[.int .i64 r,.int .i64 c,.slice (some ⟨g,0,none⟩) n n])∧w'.heap.size≤g∧RowB w'' g S∧Below w'.heap.size w' w'') :
  Calls Tryz.prog 200 #[.agg #[.int .i64 r,.int .i64 c,.slice ao n cap],.int .i64 i,.int .i64 k,.int .u64 C,.int .u64 s] w fun e w'=>∃ g,e = .returned (.tuple #[.agg #[.int .i64 r,.int .i64 c,.slice (some ⟨g,0,none⟩) n n],.int .i64 0])∧w.heap.size≤g∧RowB w' g S∧Below w.heap.size w w':=by
 have K:=hide (C1 ((w.alloc (.cells #[.int .i64 r,.int .i64 c,.slice ao n cap] 25)).alloc (.cells #[.int .i64 0,.int .i64 0,.slice none 0 0] 25)))
 simp only [size_alloc9] at K
 have KB:=hide (boxes2 w (.int .i64 r) (.int .i64 c) (.slice ao n cap) (.int .i64 0) (.int .i64 0) (.slice none 0 0))
 have K2:=hide C2;have K3:=hide C3;have K4:=hide C4
 clear C1 C2 C3 C4
 go_enter Tryz.func200,Tryz.ntmps200
 go_wp2_with fail
 refine Calls.mono (uH K) ?_
 rintro e w1 ⟨rfl,hb1⟩
 obtain ⟨hB,hA,hX⟩:=uH KB w1 hb1
 clear K KB hb1
 have ST:=hide (show GsSt w w1 r c n cap ao from ⟨hB,hA,hX⟩)
 have a0:=hA.c0;have a1:=hA.c1;have a2:=hA.c2
 clear hB hA hX
 go_wp2_with fail
 clear a0 a1 a2
 refine at_world (fun W=>GsSt w W r c n cap ao) (uH ST) ?_
 clear ST
 rintro W0 st
 have ST:=hide (st.all ((Below.refl W0.heap.size W0).drew))
 clear st
 have a0:=(uH ST).2.1.c0;have a1:=(uH ST).2.1.c1;have a2:=(uH ST).2.1.c2
 go_region_with (first
  | (go_at_call 234;refine (uH K2 _).mono ?_;rintro e w4 ⟨rfl,hb⟩;clear a0 a1 a2;have S4:=(uH ST).all hb;have a0:=S4.2.1.c0;have a1:=S4.2.1.c1;have a2:=S4.2.1.c2;replace ST:=hide S4;clear S4 hb K2)
  | (go_at_call 234;refine (uH K3 _).mono ?_;rintro e w5 ⟨rfl,hb⟩;clear a0 a1 a2;have S4:=(uH ST).all hb;have a0:=S4.2.1.c0;have a1:=S4.2.1.c1;have a2:=S4.2.1.c2;replace ST:=hide S4;clear S4 hb K3)
  | (go_at_call 232;refine (uH K4 _ (uH ST).1).mono ?_;rintro e w6 ⟨g,rfl,hg,hr,hb⟩;clear a0 a1 a2;have S4:=(uH ST).all hb;have f0:=S4.2.2.free 0;have f1:=S4.2.2.free 1;have f2:=S4.2.2.free 2;have s0:=S4.2.2.c0;have s1:=S4.2.2.c1;have s2:=S4.2.2.c2;have HG:=hide (Nat.le_trans (uH ST).1.size hg);have XP:=S4.2.2.put (.int .i64 r) (.int .i64 c) (.slice (some ⟨g,0,none⟩) n n);have z0:=XP.c0;have z1:=XP.c1;have z2:=XP.c2;have Q:=hide (hr.three (rowB_neM hr S4.2.2) (.int .i64 r) (.int .i64 c) (.slice (some ⟨g,0,none⟩) n n));have BP:=hide (below_putM S4.1 (b:=w.heap.size+1) (by omega) (.int .i64 r) (.int .i64 c) (.slice (some ⟨g,0,none⟩) n n));clear S4 hb hg hr XP ST K4)
  | fail "NO ARM")
 all_goals
  go_wp2
  exact bodyPost_ret (v:=.tuple #[.agg #[.int .i64 r,.int .i64 c,.slice (some ⟨g,0,none⟩) n n],.int .i64 0]) (by simp [results,Tryz.results200,go_sem,z0,z1,z2]) rfl ⟨g,rfl,uH HG,uH Q,uH BP⟩
end Go.Proofs.YtdhmglmccafbnaaGreatDoor
namespace Go.Proofs.YtdhmglmccafbnaaGreatDoor
open Go.RowKit
theorem chk_ok {l i k:Nat} (hi:i < l) (hk:k < l) (hne:i ≠ k) :
  ((i:Int) < 0∧(0:Int) = 7) ∨ (0≤(i:Int)∧(l:Int)≤i∧(0:Int) = 7) ∨ (0≤(i:Int)∧(i:Int) < l∧(k:Int) < 0∧(0:Int) = 7) ∨ (0≤(i:Int)∧(i:Int) < l∧0≤(k:Int)∧(l:Int)≤k∧(0:Int) = 7) ∨ (0≤(i:Int)∧(i:Int) < l∧0≤(k:Int)∧(k:Int) < l∧(i:Int) = k∧(0:Int) = 7) ∨ (0≤(i:Int)∧(i:Int) < l∧0≤(k:Int)∧(k:Int) < l∧¬ (i:Int) = k∧(0:Int) = 0):=by
 omega
theorem at_el (c:Nat) (S:List Nat) (i k:Nat):S[i * c+k]?.getD 0 = elM c S i k:=by
 unfold elM
 rw [List.getD_eq_getElem?_getD]
theorem gRows_okR (r c cap i k C s:Nat) (ao:Option Addr) (S:List Nat) (w:World) (h:Mx w ao cap r c S) (hi:i < r) (hk:k < r) (hne:i ≠ k) (hC:C < 18446744073709551616) (hs:s < 18446744073709551616) (hT:Tab w) :
  Calls Tryz.prog 199 #[.agg #[.int .i64 r,.int .i64 c,.slice ao S.length cap],.int .i64 i,.int .i64 k,.int .u64 C,.int .u64 s] w fun e w'=>∃ g,e = .returned (.tuple #[.agg #[.int .i64 r,.int .i64 c,.slice (some ⟨g,0,none⟩) S.length S.length],.int .i64 0])∧w.heap.size≤g∧RowB w' g (roM r c S i k C s)∧Below w.heap.size w w':=by
 have h36:=h.small
 have r6:=h.2.2.1
 have c6:=h.2.2.2
 have bi:i * c≤36:=Nat.mul_le_mul (show i≤6 by omega) c6
 have bk:k * c≤36:=Nat.mul_le_mul (show k≤6 by omega) c6
 refine gRows_row r c S.length cap i k C s (i * c) 1 c (k * c) 1 c ao (roM r c S i k C s) w
  (fun w'=>gcheck_any r c ao S.length cap r i k 0 w' (by omega) (mx_ok h) (chk_ok hi hk hne))
  (fun w'=>(growOf_of r c S.length cap i (i * c) ao w' (cast_mul10 i c) bi).mono (by rintro e w'' ⟨rfl,hb⟩;exact ⟨rfl,hb⟩))
  (fun w'=>(growOf_of r c S.length cap k (k * c) ao w' (cast_mul10 k c) bk).mono (by rintro e w'' ⟨rfl,hb⟩;exact ⟨rfl,hb⟩))
  (fun w' hb=>?_)
 have hM:=h.below hb
 rw [← roJ_all]
 refine lineturned_of r c S.length cap (i * c) 1 c (k * c) 1 c C s ao (fun j=>roJ r c S i k C s j) (fun j=>i * c+j) (fun j=>k * c+j) (fun j=>elM c S i j) (fun j=>elM c S k j) (fun j=>aV (mV C (elM c S i j)) (mV s (elM c S k j))) (fun j=>aV (mV C (elM c S k j)) (fN (mV s (elM c S i j)))) w' h36 c6 (by show BitsAt w' ao cap (mxL (roJ r c S i k C s 0));rw [roJ_0 r c S i k C s h.2.1];exact hM.1) (fun j=>by rw [roJ_len,h.2.1]) (fun j hj=>?_) (fun w'' j hj=>?_) (fun w'' j hj=>?_) (fun w'' j hb2 hj=>gpair_any _ _ C s w'' (h.el_lt _ _) (h.el_lt _ _) hC hs ((hT.all hb).all hb2))
 ·have p1:i * c+j < S.length:=by rw [h.2.1];exact place_lt hi hj
  have p2:k * c+j < S.length:=by rw [h.2.1];exact place_lt hk hj
  refine ⟨p1,p2,fun e=>hne (Nat.eq_of_mul_eq_mul_right (show 0 < c by omega) (by have e':i * c+j = k * c+j:=e;omega)),?_,?_,roJ_set r c S hi hk hne hj⟩
  ·show (roJ r c S i k C s j)[i * c+j]?.getD 0 = _
   rw [at_el]
   unfold roJ
   rw [el_mk r c _ hi hj,if_neg (Nat.lt_irrefl j)]
  ·show (roJ r c S i k C s j)[k * c+j]?.getD 0 = _
   rw [at_el]
   unfold roJ
   rw [el_mk r c _ hk hj,if_neg (Nat.lt_irrefl j)]
 ·have p1:i * c+j < S.length:=by rw [h.2.1];exact place_lt hi hj
  exact gplace_of (i * c) 1 c j j (i * c+j) w'' (by simp) (by simp) (by omega)
 ·have p2:k * c+j < S.length:=by rw [h.2.1];exact place_lt hk hj
  exact gplace_of (k * c) 1 c j j (k * c+j) w'' (by simp) (by simp) (by omega)
def coJ (r c:Nat) (S:List Nat) (i k C s j:Nat):List Nat:=mkM r c (fun p q=>if p < j then (if q = i then aV (mV C (elM c S p i)) (mV s (elM c S p k)) else if q = k then aV (mV C (elM c S p k)) (fN (mV s (elM c S p i))) else elM c S p q) else elM c S p q)
theorem coJ_len (r c:Nat) (S:List Nat) (i k C s j:Nat):(coJ r c S i k C s j).length = r * c:=mkM_len _ _ _
theorem coJ_0 (r c:Nat) (S:List Nat) (i k C s:Nat) (h:S.length = r * c):coJ r c S i k C s 0 = S:=by
 unfold coJ
 rw [← mkM_of r c S h]
 refine mkM_congr (fun p q _ _=>?_)
 rw [mkM_of r c S h,if_neg (by omega)]
 rfl
theorem coJ_all (r c:Nat) (S:List Nat) {i k:Nat} (C s:Nat) (hi:i < c) (hk:k < c):coJ r c S i k C s r = coM r c S i k C s:=by
 unfold coJ coM
 rw [show tuM c r (roM c r (tuM r c S) i k C s) = mkM r c (fun p q=>elM r (roM c r (tuM r c S) i k C s) q p) from rfl]
 refine mkM_congr (fun p q hp hq=>?_)
 rw [if_pos hp,el_ro c r (tuM r c S) i k C s hq hp]
 have el:∀ {a},a < c→elM r (tuM r c S) a p = elM c S p a:=fun {a} ha=>el_mk c r (fun k i=>elM c S i k) ha hp
 rw [el hi,el hk,el hq]
theorem coJ_set (r c:Nat) (S:List Nat) {i k C s j:Nat} (hi:i < c) (hk:k < c) (hne:i ≠ k) (hj:j < r) :
  ((coJ r c S i k C s j).set (j * c+i) (aV (mV C (elM c S j i)) (mV s (elM c S j k)))).set (j * c+k) (aV (mV C (elM c S j k)) (fN (mV s (elM c S j i)))) = coJ r c S i k C s (j+1):=by
 unfold coJ
 rw [mkM_set r c _ _ hj hi,mkM_set r c _ _ hj hk]
 refine mkM_congr (fun q p _ _=>?_)
 by_cases q1:q < j
 ·rw [if_neg (fun e=>by omega),if_neg (fun e=>by omega),if_pos q1,if_pos (show q < j+1 by omega)]
 ·by_cases q2:q = j
  ·subst q2
   by_cases p2:p = k
   ·rw [if_pos ⟨rfl,p2⟩,if_pos (show q < q+1 by omega),if_neg (fun e=>hne (e.symm.trans p2)),if_pos p2]
   ·rw [if_neg (fun e=>p2 e.2)]
    by_cases p1:p = i
    ·rw [if_pos ⟨rfl,p1⟩,if_pos (show q < q+1 by omega),if_pos p1]
    ·rw [if_neg (fun e=>p1 e.2),if_neg (show ¬ q < q by omega),if_pos (show q < q+1 by omega),if_neg p1,if_neg p2]
  ·rw [if_neg (fun e=>q2 e.1),if_neg (fun e=>q2 e.1),if_neg q1,if_neg (show ¬ q < j+1 by omega)]
theorem coJ_lt {w:World} {ao:Option Addr} {cap r c:Nat} {S:List Nat} (h:Mx w ao cap r c S) (i k C s j:Nat):∀ x ∈ coJ r c S i k C s j,x < 18446744073709551616:=by
 intro x hx
 unfold coJ mkM at hx
 obtain ⟨p,_,rfl⟩:=List.mem_map.1 hx
 show (if _ then (if _ then _ else if _ then _ else _) else _) < _
 split
 ·split
  ·exact aV_lt _ _ (mV_lt _ _) (mV_lt _ _)
  ·split
   ·exact aV_lt _ _ (mV_lt _ _) (fN_lt _ (mV_lt _ _))
   ·exact h.el_lt _ _
 ·exact h.el_lt _ _
theorem gCols_okR (r c cap i k C s:Nat) (ao:Option Addr) (S:List Nat) (w:World) (h:Mx w ao cap r c S) (hi:i < c) (hk:k < c) (hne:i ≠ k) (hC:C < 18446744073709551616) (hs:s < 18446744073709551616) (hT:Tab w) :
  Calls Tryz.prog 200 #[.agg #[.int .i64 r,.int .i64 c,.slice ao S.length cap],.int .i64 i,.int .i64 k,.int .u64 C,.int .u64 s] w fun e w'=>∃ g,e = .returned (.tuple #[.agg #[.int .i64 r,.int .i64 c,.slice (some ⟨g,0,none⟩) S.length S.length],.int .i64 0])∧w.heap.size≤g∧RowB w' g (coM r c S i k C s)∧Below w.heap.size w w':=by
 have h36:=h.small
 have r6:=h.2.2.1
 have c6:=h.2.2.2
 rw [← coJ_all r c S C s hi hk]
 refine gCols_row r c S.length cap i k C s i c r k c r ao (coJ r c S i k C s r) w
  (fun w'=>gcheck_any r c ao S.length cap c i k 0 w' (by omega) (mx_ok h) (chk_ok hi hk hne))
  (fun w'=>gcolOf_of r c S.length cap i ao w')
  (fun w'=>gcolOf_of r c S.length cap k ao w')
  (fun w' hb=>?_)
 have hM:=h.below hb
 refine lineturned_of r c S.length cap i c r k c r C s ao (fun j=>coJ r c S i k C s j) (fun j=>j * c+i) (fun j=>j * c+k) (fun j=>elM c S j i) (fun j=>elM c S j k) (fun j=>aV (mV C (elM c S j i)) (mV s (elM c S j k))) (fun j=>aV (mV C (elM c S j k)) (fN (mV s (elM c S j i)))) w' h36 r6 (by show BitsAt w' ao cap (mxL (coJ r c S i k C s 0));rw [coJ_0 r c S i k C s h.2.1];exact hM.1) (fun j=>by rw [coJ_len,h.2.1]) (fun j hj=>?_) (fun w'' j hj=>?_) (fun w'' j hj=>?_) (fun w'' j hb2 hj=>gpair_any _ _ C s w'' (h.el_lt _ _) (h.el_lt _ _) hC hs ((hT.all hb).all hb2))
 ·have p1:j * c+i < S.length:=by rw [h.2.1];exact place_lt hj hi
  have p2:j * c+k < S.length:=by rw [h.2.1];exact place_lt hj hk
  refine ⟨p1,p2,fun e=>hne (by have e':j * c+i = j * c+k:=e;omega),?_,?_,coJ_set r c S hi hk hne hj⟩
  ·show (coJ r c S i k C s j)[j * c+i]?.getD 0 = _
   rw [at_el]
   unfold coJ
   rw [el_mk r c _ hj hi,if_neg (Nat.lt_irrefl j)]
  ·show (coJ r c S i k C s j)[j * c+k]?.getD 0 = _
   rw [at_el]
   unfold coJ
   rw [el_mk r c _ hj hk,if_neg (Nat.lt_irrefl j)]
 ·have p1:j * c+i < S.length:=by rw [h.2.1];exact place_lt hj hi
  exact gplace_of i c r j (j * c) (j * c+i) w'' (cast_mul10 j c) (by simp;omega) (by omega)
 ·have p2:j * c+k < S.length:=by rw [h.2.1];exact place_lt hj hk
  exact gplace_of k c r j (j * c) (j * c+k) w'' (cast_mul10 j c) (by simp;omega) (by omega)
theorem gCols_ok (r c cap i k C s:Nat) (ao:Option Addr) (S:List Nat) (w:World) (h:Mx w ao cap r c S) (hi:i < c) (hk:k < c) (hne:i ≠ k) (hC:C < 18446744073709551616) (hs:s < 18446744073709551616) (hT:Tab w) :
  Calls Tryz.prog 200 #[.agg #[.int .i64 r,.int .i64 c,.slice ao S.length cap],.int .i64 i,.int .i64 k,.int .u64 C,.int .u64 s] w fun e w'=>∃ v,e = .returned (.tuple #[v,.int .i64 0])∧NewM w.heap.size w' r c (coM r c S i k C s) v∧Below w.heap.size w w':=by
 refine (gCols_okR r c cap i k C s ao S w h hi hk hne hC hs hT).mono ?_
 rintro e w' ⟨g,rfl,hg,hr,hb⟩
 rw [← coJ_all r c S C s hi hk] at hr ⊢
 have q:=hr.bits (coJ_lt h i k C s r)
 have hl:(coJ r c S i k C s r).length = S.length:=by rw [coJ_len,h.2.1]
 exact ⟨_,rfl,⟨_,S.length,by rw [hl],.inr ⟨g,0,rfl,hg⟩,by rw [hl] at q;exact q⟩,hb⟩
end Go.Proofs.YtdhmglmccafbnaaGreatDoor
