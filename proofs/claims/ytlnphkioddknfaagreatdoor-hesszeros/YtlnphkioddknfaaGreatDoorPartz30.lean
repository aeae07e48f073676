/- Part 30 of the texts. -/
import Derived.Test.YtlnphkioddknfaaGreatDoorPartz29
import Derived.Test.YtlnphkioddknfaaGreatDoorPartz24
import Derived.Maps.AppendAt
import Derived.Test.YtlnphkioddknfaaGreatDoorPartz25
set_option maxHeartbeats 4000000
set_option maxRecDepth 20000
namespace Go.Proofs.YtlnphkioddknfaaGreatDoor
open Go.RowKit
attribute [local go_sem ↓] Go.wp_at_zero Go.wp_at_succ
def GsSt (w W:World) (r c n cap:Nat) (ao:Option Addr):Prop:=Below w.heap.size w W∧BoxM W w.heap.size (.int .i64 r) (.int .i64 c) (.slice ao n cap)∧BoxM W (w.heap.size+1) (.int .i64 0) (.int .i64 0) (.slice none 0 0)
theorem GsSt.all {w W W':World} {r c n cap:Nat} {ao:Option Addr} (h:GsSt w W r c n cap ao) (hb:Below W.heap.size W W'):GsSt w W' r c n cap ao:=⟨h.1.trans (hb.mono h.1.size),h.2.1.all hb,h.2.2.all hb⟩
theorem gRows_err (r c:Int) (ao:Option Addr) (n cap:Nat) (i k:Int) (C s:Nat) (er:Int) (w:World) (her:er = 1 ∨ er = 7)
  (C1:∀ w',Calls Tryz.prog 218 #[.agg #[.int .i64 r,.int .i64 c,.slice ao n cap],.int .i64 r,.int .i64 i,.int .i64 k] w' fun e w''=>e = .returned (.int .i64 er)∧Below w'.heap.size w' w'') :
  Calls Tryz.prog 191 #[.agg #[.int .i64 r,.int .i64 c,.slice ao n cap],.int .i64 i,.int .i64 k,.int .u64 C,.int .u64 s] w fun e w'=>∃ v,e = .returned (.tuple #[v,.int .i64 er])∧NewM w.heap.size w' 0 0 [] v∧Below w.heap.size w w':=by
 have K:=hide (C1 ((w.alloc (.cells #[.int .i64 r,.int .i64 c,.slice ao n cap] 24)).alloc (.cells #[.int .i64 0,.int .i64 0,.slice none 0 0] 24)))
 simp only [size_alloc9] at K
 have KB:=hide (boxes2 w (.int .i64 r) (.int .i64 c) (.slice ao n cap) (.int .i64 0) (.int .i64 0) (.slice none 0 0))
 clear C1
 rcases her with rfl | rfl
 all_goals
  go_enter Tryz.func191,Tryz.ntmps191
  go_wp2_with fail
  refine Calls.mono (uH K) ?_
  rintro e w1 ⟨rfl,hb1⟩
  obtain ⟨hB,hA,hX⟩:=uH KB w1 hb1
  clear K KB hb1 hA
  have f0:=hX.free 0;have f1:=hX.free 1;have f2:=hX.free 2
  have s0:=hX.c0;have s1:=hX.c1;have s2:=hX.c2
  have XP:=hX.put (.int .i64 0) (.int .i64 0) (.slice none 0 0)
  have z0:=XP.c0;have z1:=XP.c1;have z2:=XP.c2
  have BP:=hide (below_putM hB (b:=w.heap.size+1) (by omega) (.int .i64 0) (.int .i64 0) (.slice none 0 0))
  clear XP hX hB
  go_wp2
  refine bodyPost_ret (v:=.tuple #[.agg #[.int .i64 0,.int .i64 0,.slice none 0 0],_]) (by simp [results,Tryz.results191,go_sem,z0,z1,z2]) rfl ⟨_,rfl,NewM.zero _ _,uH BP⟩
theorem gRows_row (r c n cap i k C s u0 u1 u2 l0 l1 l2:Nat) (ao:Option Addr) (S:List Nat) (w:World)
  (C1:∀ w',Calls Tryz.prog 218 #[.agg #[.int .i64 r,.int .i64 c,.slice ao n cap],.int .i64 r,.int .i64 i,.int .i64 k] w' fun e w''=>e = .returned (.int .i64 0)∧Below w'.heap.size w' w'')
  (C2:∀ w',Calls Tryz.prog 220 #[.agg #[.int .i64 r,.int .i64 c,.slice ao n cap],.int .i64 i] w' fun e w''=>e = .returned (.agg #[.int .i64 u0,.int .i64 u1,.int .i64 u2])∧Below w'.heap.size w' w'')
  (C3:∀ w',Calls Tryz.prog 220 #[.agg #[.int .i64 r,.int .i64 c,.slice ao n cap],.int .i64 k] w' fun e w''=>e = .returned (.agg #[.int .i64 l0,.int .i64 l1,.int .i64 l2])∧Below w'.heap.size w' w'')
  (C4:∀ w',Below w.heap.size w w'→Calls Tryz.prog 219 #[.agg #[.int .i64 r,.int .i64 c,.slice ao n cap],.agg #[.int .i64 u0,.int .i64 u1,.int .i64 u2],.agg #[.int .i64 l0,.int .i64 l1,.int .i64 l2],.int .u64 C,.int .u64 s] w' fun e w''=>∃ g,e = .returned (.agg #[.int .i64 r,.int .i64 c,.slice (some ⟨g,0,none⟩) n n])∧w'.heap.size≤g∧RowB w'' g S∧Below w'.heap.size w' w'') :
  Calls Tryz.prog 191 #[.agg #[.int .i64 r,.int .i64 c,.slice ao n cap],.int .i64 i,.int .i64 k,.int .u64 C,.int .u64 s] w fun e w'=>∃ g,e = .returned (.tuple #[.agg #[.int .i64 r,.int .i64 c,.slice (some ⟨g,0,none⟩) n n],.int .i64 0])∧w.heap.size≤g∧RowB w' g S∧Below w.heap.size w w':=by
 have K:=hide (C1 ((w.alloc (.cells #[.int .i64 r,.int .i64 c,.slice ao n cap] 24)).alloc (.cells #[.int .i64 0,.int .i64 0,.slice none 0 0] 24)))
 simp only [size_alloc9] at K
 have KB:=hide (boxes2 w (.int .i64 r) (.int .i64 c) (.slice ao n cap) (.int .i64 0) (.int .i64 0) (.slice none 0 0))
 have K2:=hide C2;have K3:=hide C3;have K4:=hide C4
 clear C1 C2 C3 C4
 go_enter Tryz.func191,Tryz.ntmps191
 go_wp2_with fail
 refine Calls.mono (uH K) ?_
 rintro e w1 ⟨rfl,hb1⟩
 obtain ⟨hB,hA,hX⟩:=uH KB w1 hb1
 clear K KB hb1
 have ST:=hide (show GsSt w w1 r c n cap ao from ⟨hB,hA,hX⟩)
 have a0:=hA.c0;have a1:=hA.c1;have a2:=hA.c2
 clear hB hA hX
 go_wp2_with fail
 clear a0 a1 a2
 refine at_world (fun W=>GsSt w W r c n cap ao) (uH ST) ?_
 clear ST
 rintro W0 st
 have ST:=hide (st.all ((Below.refl W0.heap.size W0).drew))
 clear st
 have a0:=(uH ST).2.1.c0;have a1:=(uH ST).2.1.c1;have a2:=(uH ST).2.1.c2
 go_region_with (first
  | (go_at_call 220;refine (uH K2 _).mono ?_;rintro e w4 ⟨rfl,hb⟩;clear a0 a1 a2;have S4:=(uH ST).all hb;have a0:=S4.2.1.c0;have a1:=S4.2.1.c1;have a2:=S4.2.1.c2;replace ST:=hide S4;clear S4 hb K2)
  | (go_at_call 220;refine (uH K3 _).mono ?_;rintro e w5 ⟨rfl,hb⟩;clear a0 a1 a2;have S4:=(uH ST).all hb;have a0:=S4.2.1.c0;have a1:=S4.2.1.c1;have a2:=S4.2.1.c2;replace ST:=hide S4;clear S4 hb K3)
  | (go_at_call 219;refine (uH K4 _ (uH ST).1).mono ?_;rintro e w6 ⟨g,rfl,hg,hr,hb⟩;clear a0 a1 a2;have S4:=(uH ST).all hb;have f0:=S4.2.2.free 0;have f1:=S4.2.2.free 1;have f2:=S4.2.2.free 2;have s0:=S4.2.2.c0;have s1:=S4.2.2.c1;have s2:=S4.2.2.c2;have HG:=hide (Nat.le_trans (uH ST).1.size hg);have XP:=S4.2.2.put (.int .i64 r) (.int .i64 c) (.slice (some ⟨g,0,none⟩) n n);have z0:=XP.c0;have z1:=XP.c1;have z2:=XP.c2;have Q:=hide (hr.three (rowB_neM hr S4.2.2) (.int .i64 r) (.int .i64 c) (.slice (some ⟨g,0,none⟩) n n));have BP:=hide (below_putM S4.1 (b:=w.heap.size+1) (by omega) (.int .i64 r) (.int .i64 c) (.slice (some ⟨g,0,none⟩) n n));clear S4 hb hg hr XP ST K4)
  | fail "NO ARM")
 all_goals
  go_wp2
  exact bodyPost_ret (v:=.tuple #[.agg #[.int .i64 r,.int .i64 c,.slice (some ⟨g,0,none⟩) n n],.int .i64 0]) (by simp [results,Tryz.results191,go_sem,z0,z1,z2]) rfl ⟨g,rfl,uH HG,uH Q,uH BP⟩
theorem gCols_row (r c n cap i k C s u0 u1 u2 l0 l1 l2:Nat) (ao:Option Addr) (S:List Nat) (w:World)
  (C1:∀ w',Calls Tryz.prog 218 #[.agg #[.int .i64 r,.int .i64 c,.slice ao n cap],.int .i64 c,.int .i64 i,.int .i64 k] w' fun e w''=>e = .returned (.int .i64 0)∧Below w'.heap.size w' w'')
  (C2:∀ w',Calls Tryz.prog 221 #[.agg #[.int .i64 r,.int .i64 c,.slice ao n cap],.int .i64 i] w' fun e w''=>e = .returned (.agg #[.int .i64 u0,.int .i64 u1,.int .i64 u2])∧Below w'.heap.size w' w'')
  (C3:∀ w',Calls Tryz.prog 221 #[.agg #[.int .i64 r,.int .i64 c,.slice ao n cap],.int .i64 k] w' fun e w''=>e = .returned (.agg #[.int .i64 l0,.int .i64 l1,.int .i64 l2])∧Below w'.heap.size w' w'')
  (C4:∀ w',Below w.heap.size w w'→Calls Tryz.prog 219 #[.agg #[.int .i64 r,.int .i64 c,.slice ao n cap],.agg #[.int .i64 u0,.int .i64 u1,.int .i64 u2],.agg #[.int .i64 l0,.int .i64 l1,.int .i64 l2],.int .u64 C,.int .u64 s] w' fun e w''=>∃ g,e = .returned (.agg #[.int .i64 r,.int .i64 c,.slice (some ⟨g,0,none⟩) n n])∧w'.heap.size≤g∧RowB w'' g S∧Below w'.heap.size w' w'') :
  Calls Tryz.prog 192 #[.agg #[.int .i64 r,.int .i64 c,.slice ao n cap],.int .i64 i,.int .i64 k,.int .u64 C,.int .u64 s] w fun e w'=>∃ g,e = .returned (.tuple #[.agg #[.int .i64 r,.int .i64 c,.slice (some ⟨g,0,none⟩) n n],.int .i64 0])∧w.heap.size≤g∧RowB w' g S∧Below w.heap.size w w':=by
 have K:=hide (C1 ((w.alloc (.cells #[.int .i64 r,.int .i64 c,.slice ao n cap] 24)).alloc (.cells #[.int .i64 0,.int .i64 0,.slice none 0 0] 24)))
 simp only [size_alloc9] at K
 have KB:=hide (boxes2 w (.int .i64 r) (.int .i64 c) (.slice ao n cap) (.int .i64 0) (.int .i64 0) (.slice none 0 0))
 have K2:=hide C2;have K3:=hide C3;have K4:=hide C4
 clear C1 C2 C3 C4
 go_enter Tryz.func192,Tryz.ntmps192
 go_wp2_with fail
 refine Calls.mono (uH K) ?_
 rintro e w1 ⟨rfl,hb1⟩
 obtain ⟨hB,hA,hX⟩:=uH KB w1 hb1
 clear K KB hb1
 have ST:=hide (show GsSt w w1 r c n cap ao from ⟨hB,hA,hX⟩)
 have a0:=hA.c0;have a1:=hA.c1;have a2:=hA.c2
 clear hB hA hX
 go_wp2_with fail
 clear a0 a1 a2
 refine at_world (fun W=>GsSt w W r c n cap ao) (uH ST) ?_
 clear ST
 rintro W0 st
 have ST:=hide (st.all ((Below.refl W0.heap.size W0).drew))
 clear st
 have a0:=(uH ST).2.1.c0;have a1:=(uH ST).2.1.c1;have a2:=(uH ST).2.1.c2
 go_region_with (first
  | (go_at_call 221;refine (uH K2 _).mono ?_;rintro e w4 ⟨rfl,hb⟩;clear a0 a1 a2;have S4:=(uH ST).all hb;have a0:=S4.2.1.c0;have a1:=S4.2.1.c1;have a2:=S4.2.1.c2;replace ST:=hide S4;clear S4 hb K2)
  | (go_at_call 221;refine (uH K3 _).mono ?_;rintro e w5 ⟨rfl,hb⟩;clear a0 a1 a2;have S4:=(uH ST).all hb;have a0:=S4.2.1.c0;have a1:=S4.2.1.c1;have a2:=S4.2.1.c2;replace ST:=hide S4;clear S4 hb K3)
  | (go_at_call 219;refine (uH K4 _ (uH ST).1).mono ?_;rintro e w6 ⟨g,rfl,hg,hr,hb⟩;clear a0 a1 a2;have S4:=(uH ST).all hb;have f0:=S4.2.2.free 0;have f1:=S4.2.2.free 1;have f2:=S4.2.2.free 2;have s0:=S4.2.2.c0;have s1:=S4.2.2.c1;have s2:=S4.2.2.c2;have HG:=hide (Nat.le_trans (uH ST).1.size hg);have XP:=S4.2.2.put (.int .i64 r) (.int .i64 c) (.slice (some ⟨g,0,none⟩) n n);have z0:=XP.c0;have z1:=XP.c1;have z2:=XP.c2;have Q:=hide (hr.three (rowB_neM hr S4.2.2) (.int .i64 r) (.int .i64 c) (.slice (some ⟨g,0,none⟩) n n));have BP:=hide (below_putM S4.1 (b:=w.heap.size+1) (by omega) (.int .i64 r) (.int .i64 c) (.slice (some ⟨g,0,none⟩) n n));clear S4 hb hg hr XP ST K4)
  | fail "NO ARM")
 all_goals
  go_wp2
  exact bodyPost_ret (v:=.tuple #[.agg #[.int .i64 r,.int .i64 c,.slice (some ⟨g,0,none⟩) n n],.int .i64 0]) (by simp [results,Tryz.results192,go_sem,z0,z1,z2]) rfl ⟨g,rfl,uH HG,uH Q,uH BP⟩
end Go.Proofs.YtlnphkioddknfaaGreatDoor
namespace Go.Proofs.YtlnphkioddknfaaGreatDoor
open Go.RowKit
theorem chk_ok {l i k:Nat} (hi:i < l) (hk:k < l) (hne:i ≠ k) :
  ((i:Int) < 0∧(0:Int) = 7) ∨ (0≤(i:Int)∧(l:Int)≤i∧(0:Int) = 7) ∨ (0≤(i:Int)∧(i:Int) < l∧(k:Int) < 0∧(0:Int) = 7) ∨ (0≤(i:Int)∧(i:Int) < l∧0≤(k:Int)∧(l:Int)≤k∧(0:Int) = 7) ∨ (0≤(i:Int)∧(i:Int) < l∧0≤(k:Int)∧(k:Int) < l∧(i:Int) = k∧(0:Int) = 7) ∨ (0≤(i:Int)∧(i:Int) < l∧0≤(k:Int)∧(k:Int) < l∧¬ (i:Int) = k∧(0:Int) = 0):=by
 omega
theorem at_el (c:Nat) (S:List Nat) (i k:Nat):S[i * c+k]?.getD 0 = elM c S i k:=by
 unfold elM
 rw [List.getD_eq_getElem?_getD]
theorem gRows_okR (r c cap i k C s:Nat) (ao:Option Addr) (S:List Nat) (w:World) (h:Mx w ao cap r c S) (hi:i < r) (hk:k < r) (hne:i ≠ k) (hC:C < 18446744073709551616) (hs:s < 18446744073709551616) (hT:Tab w) :
  Calls Tryz.prog 191 #[.agg #[.int .i64 r,.int .i64 c,.slice ao S.length cap],.int .i64 i,.int .i64 k,.int .u64 C,.int .u64 s] w fun e w'=>∃ g,e = .returned (.tuple #[.agg #[.int .i64 r,.int .i64 c,.slice (some ⟨g,0,none⟩) S.length S.length],.int .i64 0])∧w.heap.size≤g∧RowB w' g (roM r c S i k C s)∧Below w.heap.size w w':=by
 have h36:=h.small
 have r6:=h.2.2.1
 have c6:=h.2.2.2
 have bi:i * c≤36:=Nat.mul_le_mul (show i≤6 by omega) c6
 have bk:k * c≤36:=Nat.mul_le_mul (show k≤6 by omega) c6
 refine gRows_row r c S.length cap i k C s (i * c) 1 c (k * c) 1 c ao (roM r c S i k C s) w
  (fun w'=>gcheck_any r c ao S.length cap r i k 0 w' (by omega) (mx_ok h) (chk_ok hi hk hne))
  (fun w'=>(growOf_of r c S.length cap i (i * c) ao w' (cast_mul10 i c) bi).mono (by rintro e w'' ⟨rfl,hb⟩;exact ⟨rfl,hb⟩))
  (fun w'=>(growOf_of r c S.length cap k (k * c) ao w' (cast_mul10 k c) bk).mono (by rintro e w'' ⟨rfl,hb⟩;exact ⟨rfl,hb⟩))
  (fun w' hb=>?_)
 have hM:=h.below hb
 rw [← roJ_all]
 refine lineturned_of r c S.length cap (i * c) 1 c (k * c) 1 c C s ao (fun j=>roJ r c S i k C s j) (fun j=>i * c+j) (fun j=>k * c+j) (fun j=>elM c S i j) (fun j=>elM c S k j) (fun j=>aV (mV C (elM c S i j)) (mV s (elM c S k j))) (fun j=>aV (mV C (elM c S k j)) (fN (mV s (elM c S i j)))) w' h36 c6 (by show BitsAt w' ao cap (mxL (roJ r c S i k C s 0));rw [roJ_0 r c S i k C s h.2.1];exact hM.1) (fun j=>by rw [roJ_len,h.2.1]) (fun j hj=>?_) (fun w'' j hj=>?_) (fun w'' j hj=>?_) (fun w'' j hb2 hj=>gpair_any _ _ C s w'' (h.el_lt _ _) (h.el_lt _ _) hC hs ((hT.all hb).all hb2))
 ·have p1:i * c+j < S.length:=by rw [h.2.1];exact place_lt hi hj
  have p2:k * c+j < S.length:=by rw [h.2.1];exact place_lt hk hj
  refine ⟨p1,p2,fun e=>hne (Nat.eq_of_mul_eq_mul_right (show 0 < c by omega) (by have e':i * c+j = k * c+j:=e;omega)),?_,?_,roJ_set r c S hi hk hne hj⟩
  ·show (roJ r c S i k C s j)[i * c+j]?.getD 0 = _
   rw [at_el]
   unfold roJ
   rw [el_mk r c _ hi hj,if_neg (Nat.lt_irrefl j)]
  ·show (roJ r c S i k C s j)[k * c+j]?.getD 0 = _
   rw [at_el]
   unfold roJ
   rw [el_mk r c _ hk hj,if_neg (Nat.lt_irrefl j)]
 ·have p1:i * c+j < S.length:=by rw [h.2.1];exact place_lt hi hj
  exact gplace_of (i * c) 1 c j j (i * c+j) w'' (by simp) (by simp) (by omega)
 ·have p2:k * c+j < S.length:=by rw [h.2.1];exact place_lt hk hj
  exact gplace_of (k * c) 1 c j j (k * c+j) w'' (by simp) (by simp) (by omega)
def coJ (r c:Nat) (S:List Nat) (i k C s j:Nat):List Nat:=mkM r c (fun p q=>if p < j then (if q = i then aV (mV C (elM c S p i)) (mV s (elM c S p k)) else if q = k then aV (mV C (elM c S p k)) (fN (mV s (elM c S p i))) else elM c S p q) else elM c S p q)
theorem coJ_len (r c:Nat) (S:List Nat) (i k C s j:Nat):(coJ r c S i k C s j).length = r * c:=mkM_len _ _ _
theorem coJ_0 (r c:Nat) (S:List Nat) (i k C s:Nat) (h:S.length = r * c):coJ r c S i k C s 0 = S:=by
 unfold coJ
 rw [← mkM_of r c S h]
 refine mkM_congr (fun p q _ _=>?_)
 rw [mkM_of r c S h,if_neg (by omega)]
 rfl
theorem coJ_all (r c:Nat) (S:List Nat) {i k:Nat} (C s:Nat) (hi:i < c) (hk:k < c):coJ r c S i k C s r = coM r c S i k C s:=by
 unfold coJ coM
 rw [show tuM c r (roM c r (tuM r c S) i k C s) = mkM r c (fun p q=>elM r (roM c r (tuM r c S) i k C s) q p) from rfl]
 refine mkM_congr (fun p q hp hq=>?_)
 rw [if_pos hp,el_ro c r (tuM r c S) i k C s hq hp]
 have el:∀ {a},a < c→elM r (tuM r c S) a p = elM c S p a:=fun {a} ha=>el_mk c r (fun k i=>elM c S i k) ha hp
 rw [el hi,el hk,el hq]
theorem coJ_set (r c:Nat) (S:List Nat) {i k C s j:Nat} (hi:i < c) (hk:k < c) (hne:i ≠ k) (hj:j < r) :
  ((coJ r c S i k C s j).set (j * c+i) (aV (mV C (elM c S j i)) (mV s (elM c S j k)))).set (j * c+k) (aV (mV C (elM c S j k)) (fN (mV s (elM c S j i)))) = coJ r c S i k C s (j+1):=by
 unfold coJ
 rw [mkM_set r c _ _ hj hi,mkM_set r c _ _ hj hk]
 refine mkM_congr (fun q p _ _=>?_)
 by_cases q1:q < j
 ·rw [if_neg (fun e=>by omega),if_neg (fun e=>by omega),if_pos q1,if_pos (show q < j+1 by omega)]
 ·by_cases q2:q = j
  ·subst q2
   by_cases p2:p = k
   ·rw [if_pos ⟨rfl,p2⟩,if_pos (show q < q+1 by omega),if_neg (fun e=>hne (e.symm.trans p2)),if_pos p2]
   ·rw [if_neg (fun e=>p2 e.2)]
    by_cases p1:p = i
    ·rw [if_pos ⟨rfl,p1⟩,if_pos (show q < q+1 by omega),if_pos p1]
    ·rw [if_neg (fun e=>p1 e.2),if_neg (show ¬ q < q by omega),if_pos (show q < q+1 by omega),if_neg p1,if_neg p2]
  ·rw [if_neg (fun e=>q2 e.1),if_neg (fun e=>q2 e.1),if_neg q1,if_neg (show ¬ q < j+1 by omega)]
theorem gCols_okR (r c cap i k C s:Nat) (ao:Option Addr) (S:List Nat) (w:World) (h:Mx w ao cap r c S) (hi:i < c) (hk:k < c) (hne:i ≠ k) (hC:C < 18446744073709551616) (hs:s < 18446744073709551616) (hT:Tab w) :
  Calls Tryz.prog 192 #[.agg #[.int .i64 r,.int .i64 c,.slice ao S.length cap],.int .i64 i,.int .i64 k,.int .u64 C,.int .u64 s] w fun e w'=>∃ g,e = .returned (.tuple #[.agg #[.int .i64 r,.int .i64 c,.slice (some ⟨g,0,none⟩) S.length S.length],.int .i64 0])∧w.heap.size≤g∧RowB w' g (coM r c S i k C s)∧Below w.heap.size w w':=by
 have h36:=h.small
 have r6:=h.2.2.1
 have c6:=h.2.2.2
 rw [← coJ_all r c S C s hi hk]
 refine gCols_row r c S.length cap i k C s i c r k c r ao (coJ r c S i k C s r) w
  (fun w'=>gcheck_any r c ao S.length cap c i k 0 w' (by omega) (mx_ok h) (chk_ok hi hk hne))
  (fun w'=>gcolOf_of r c S.length cap i ao w')
  (fun w'=>gcolOf_of r c S.length cap k ao w')
  (fun w' hb=>?_)
 have hM:=h.below hb
 refine lineturned_of r c S.length cap i c r k c r C s ao (fun j=>coJ r c S i k C s j) (fun j=>j * c+i) (fun j=>j * c+k) (fun j=>elM c S j i) (fun j=>elM c S j k) (fun j=>aV (mV C (elM c S j i)) (mV s (elM c S j k))) (fun j=>aV (mV C (elM c S j k)) (fN (mV s (elM c S j i)))) w' h36 r6 (by show BitsAt w' ao cap (mxL (coJ r c S i k C s 0));rw [coJ_0 r c S i k C s h.2.1];exact hM.1) (fun j=>by rw [coJ_len,h.2.1]) (fun j hj=>?_) (fun w'' j hj=>?_) (fun w'' j hj=>?_) (fun w'' j hb2 hj=>gpair_any _ _ C s w'' (h.el_lt _ _) (h.el_lt _ _) hC hs ((hT.all hb).all hb2))
 ·have p1:j * c+i < S.length:=by rw [h.2.1];exact place_lt hj hi
  have p2:j * c+k < S.length:=by rw [h.2.1];exact place_lt hj hk
  refine ⟨p1,p2,fun e=>hne (by have e':j * c+i = j * c+k:=e;omega),?_,?_,coJ_set r c S hi hk hne hj⟩
  ·show (coJ r c S i k C s j)[j * c+i]?.getD 0 = _
   rw [at_el]
   unfold coJ
   rw [el_mk r c _ hj hi,if_neg (Nat.lt_irrefl j)]
  ·show (coJ r c S i k C s j)[j * c+k]?.getD 0 = _
   rw [at_el]
   unfold coJ
   rw [el_mk r c _ hj hk,if_neg (Nat.lt_irrefl j)]
 ·have p1:j * c+i < S.length:=by rw [h.2.1];exact place_lt hj hi
  exact gplace_of i c r j (j * c) (j * c+i) w'' (cast_mul10 j c) (by simp;omega) (by omega)
 ·have p2:j * c+k < S.length:=by rw [h.2.1];exact place_lt hj hk
  exact gplace_of k c r j (j * c) (j * c+k) w'' (cast_mul10 j c) (by simp;omega) (by omega)
end Go.Proofs.YtlnphkioddknfaaGreatDoor
namespace Go.Proofs.YtlnphkioddknfaaGreatDoor
open Go.RowKit
structure Mr where
 ao:Option Addr
 cap:Nat
 V:List Nat
 tau:Nat
 beta:Nat
def mrAt (R:List Mr) (k:Nat):Mr:=R[k]?.getD ⟨none,0,[],0,0⟩
def AvM (g:Option Nat) (x:Mr):Prop:=x.V = [] ∨ ∃ b off,x.ao = some ⟨b,off,none⟩∧some b ≠ g
theorem AvM.new {w:World} {x:Mr} (h:BitsAt w x.ao x.cap (mxL x.V)) {g:Nat} (hg:w.heap.size≤g):AvM (some g) x:=by
 rcases h.2.2 with e | ⟨b,off,e,hb,_⟩
 ·exact .inl (by cases hV:x.V with
   | nil=>rfl
   | cons y ys=>rw [hV] at e;cases e)
 ·exact .inr ⟨b,off,e,by intro e;cases e;omega⟩
theorem bits_grownAv {w w':World} {x:Mr} {g:Option Nat} (h:BitsAt w x.ao x.cap (mxL x.V)) (ha:AvM g x) (hg:w.grownBy w' g):BitsAt w' x.ao x.cap (mxL x.V):=by
 refine ⟨h.1,h.2.1,?_⟩
 rcases h.2.2 with e | ⟨b,off,e,hb,hc⟩
 ·exact .inl e
 ·rcases ha with e' | ⟨b',off',e',hne⟩
  ·exact .inl (by rw [e'];rfl)
  ·rw [e] at e'
   simp only [Option.some.injEq,Addr.mk.injEq] at e'
   obtain ⟨rfl,rfl,_⟩:=e'
   refine .inr ⟨b,off,e,Nat.lt_of_lt_of_le hb hg.size,fun i hi=>?_⟩
   rw [World.cell?_of_block (a:=⟨b,off+i,none⟩) (hg.block b hb hne)]
   exact hc i hi
theorem ownsRow_grownM {w w':World} {base e size n:Nat} {v:Value} {xs:List Value} {g:Option Nat} (h:w.ownsRow base e size v n xs) (hg:w.grownBy w' g) (hne:∀ k,v.ownBlock = some k→some k ≠ g):w'.ownsRow base e size v n xs:=by
 refine ⟨h.1,?_⟩
 rcases h.2 with h | ⟨k,cap,cur,hv,hb,hh,hr⟩
 ·exact .inl h
 ·have hk:k < w.heap.size:=(Array.getElem?_eq_some_iff.1 hh).1
  exact .inr ⟨k,cap,cur,hv,hb,(hg.block k hk (hne k (by rw [hv];rfl))).trans hh,hr⟩
end Go.Proofs.YtlnphkioddknfaaGreatDoor
namespace Go.Proofs.YtlnphkioddknfaaGreatDoor
open Go.RowKit
def Mr.pair (x:Mr):List Value:=[.slice x.ao x.V.length x.cap,.int .u64 (x.tau:Nat)]
def mtCells (R:List Mr):List Value:=R.flatMap Mr.pair
theorem mtCells_get:∀ (R:List Mr) (k:Nat),k < R.length→(mtCells R)[k * 2]? = some (.slice (mrAt R k).ao (mrAt R k).V.length (mrAt R k).cap)∧(mtCells R)[k * 2+1]? = some (.int .u64 ((mrAt R k).tau:Nat))
 | x :: R,0,_=>by simp [mtCells,mrAt,Mr.pair]
 | x :: R,k+1,h=>by
  have:=mtCells_get R k (by simpa using h)
  have e:mtCells (x :: R) = .slice x.ao x.V.length x.cap :: .int .u64 (x.tau:Nat) :: mtCells R:=rfl
  rw [e,show (k+1) * 2 = k * 2+1+1 by omega]
  simpa [mrAt] using this
def OwnMt (base:Nat) (w:World) (v:Value) (R:List Mr):Prop:=w.ownsRow base 201 2 v R.length (mtCells R)∧∀ x ∈ R,BitsAt w x.ao x.cap (mxL x.V)∧AvM v.ownBlock x
theorem OwnMt.start (w:World) (base:Nat):OwnMt base w (.slice none 0 0) []:=⟨⟨by rfl,.inl ⟨rfl,rfl⟩⟩,by simp⟩
theorem OwnMt.below {base:Nat} {w w':World} {v:Value} {R:List Mr} (h:OwnMt base w v R) (hb:Below w.heap.size w w'):OwnMt base w' v R :=
 ⟨ownsRow_grownM h.1 ⟨hb.os,hb.tape,hb.output,hb.size,fun k hk _=>hb.block k hk⟩ (fun k _=>by simp:∀ k,v.ownBlock = some k→some k ≠ none),fun x hx=>⟨((h.2 x hx).1).below hb,(h.2 x hx).2⟩⟩
theorem OwnMt.lt {base:Nat} {w:World} {v:Value} {R:List Mr} (h:OwnMt base w v R):∀ k,v.ownBlock = some k→base≤k∧k < w.heap.size:=h.1.lt
theorem infoMt:(Tryz.prog.info? 201).map (fun i=>(i.zero,i.size,i.bytes)) = some (some (.agg #[.slice none 0 0,.int .u64 0]),2,32):=by kernel_rfl
theorem OwnMt.push {base:Nat} {w:World} {v:Value} {R:List Mr} (h:OwnMt base w v R) (x:Mr) (hx:BitsAt w x.ao x.cap (mxL x.V)) (ha:AvM v.ownBlock x) (hl:R.length≤1000000) (hb:base≤w.heap.size) (ty:TypeId) :
  ∃ v' w',(Builtin.append_ #[168,168] ty #[v,.slice (some ⟨w.heap.size,0,none⟩) 1 1]).run Tryz.prog (w.alloc (.cells #[.slice x.ao x.V.length x.cap,.int .u64 (x.tau:Nat)] 201)) = .ok v' w'∧OwnMt base w' v' (R ++ [x])∧Below base w w'∧(w.alloc (.cells #[.slice x.ao x.V.length x.cap,.int .u64 (x.tau:Nat)] 201)).grownBy w' v.ownBlock∧(v'.ownBlock = v.ownBlock ∨ v'.ownBlock = some (w.heap.size+1)):=by
 obtain ⟨i0,hi,hz0,hz1,hz2⟩:=info_parts infoMt
 have b1:=below_alloc9 w (.cells #[.slice x.ao x.V.length x.cap,.int .u64 (x.tau:Nat)] 201)
 have n1:=heap_alloc_new w (.cells #[.slice x.ao x.V.length x.cap,.int .u64 (x.tau:Nat)] 201)
 have s1:=size_alloc9 w (.cells #[.slice x.ao x.V.length x.cap,.int .u64 (x.tau:Nat)] 201)
 have h1:=h.below b1
 have hx1:=hx.below b1
 generalize w.alloc (.cells #[.slice x.ao x.V.length x.cap,.int .u64 (x.tau:Nat)] 201) = W at *
 obtain ⟨v',w',e1,e2,e3,e4,e5⟩:=run_append_own_at (P:=Tryz.prog) W base 168 ty 201 i0 (.agg #[.slice none 0 0,.int .u64 0]) 2 32 Tryz.underlying168 hi hz0 hz1 hz2 rfl (by decide) v R.length (mtCells R) h1.1 ⟨w.heap.size,0,none⟩ 1 1 x.pair rfl (fun j u hj=>by
   rw [show (⟨w.heap.size,0,none⟩:Addr).add j = ⟨w.heap.size,j,none⟩ from by unfold Addr.add;split <;> simp_all,cell_of_row _ w.heap.size j _ _ _ n1]
   simpa [Mr.pair] using hj) (fun u hu=>by
   simp [Mr.pair] at hu
   rcases hu with rfl | rfl <;> rfl) (by unfold maxLen;omega) (by omega) (by omega)
 ·refine ⟨v',w',e1,⟨?_,fun y hy=>?_⟩,(b1.mono hb).grown e3 (by omega) (fun g hg=>(h.1.lt g hg).1),e3,by rw [← s1];exact e5⟩
  ·rw [List.length_append,show mtCells (R ++ [x]) = mtCells R ++ x.pair by simp [mtCells]]
   exact e2
  ·have hy':BitsAt W y.ao y.cap (mxL y.V)∧AvM v.ownBlock y:=by
    rcases List.mem_append.1 hy with hy | hy
    ·exact h1.2 y hy
    ·simp at hy;subst hy;exact ⟨hx1,ha⟩
   refine ⟨bits_grownAv hy'.1 hy'.2 e3,?_⟩
   rcases e5 with e | e
   ·rw [e];exact hy'.2
   ·rw [e];exact AvM.new hy'.1 (Nat.le_refl _)
theorem OwnMt.putQ {base:Nat} {w:World} {v:Value} {R:List Mr} (h:OwnMt base w v R) {g:Nat} {x y:Int} {o:Option Addr} {n d:Nat} (hx:BoxM w g (.int .i64 x) (.int .i64 y) (.slice o n d)) (u u' u'':Value):OwnMt base (((w.setCell ⟨g,0,none⟩ u).setCell ⟨g,1,none⟩ u').setCell ⟨g,2,none⟩ u'') v R:=by
 refine ⟨⟨h.1.1,?_⟩,fun z hz=>⟨(h.2 z hz).1.putM hx u u' u'',(h.2 z hz).2⟩⟩
 rcases h.1.2 with e | ⟨k,cap,cur,hv,hk,hh,rest⟩
 ·exact .inl e
 ·have hne:k ≠ g:=by
   rintro rfl
   have e:=hh.symm.trans hx
   simp at e
  exact .inr ⟨k,cap,cur,hv,hk,(Below.heap_setCell _ ⟨g,2,none⟩ u'' k hne).trans ((Below.heap_setCell _ ⟨g,1,none⟩ u' k hne).trans ((Below.heap_setCell _ ⟨g,0,none⟩ u k hne).trans hh)),rest⟩
theorem OwnMt.slice {base:Nat} {w:World} {v:Value} {R:List Mr} (h:OwnMt base w v R):∃ lo lc,v = .slice lo R.length lc:=by
 rcases h.1.2 with ⟨e1,e2⟩ | ⟨g,cap,cur,hv,_⟩
 ·exact ⟨none,0,by rw [e1,e2]⟩
 ·exact ⟨_,_,hv⟩
theorem OwnMt.least {base b':Nat} {w:World} {v:Value} {R:List Mr} (h:OwnMt base w v R) (hb:b'≤base):OwnMt b' w v R:=by
 refine ⟨⟨h.1.1,?_⟩,h.2⟩
 rcases h.1.2 with e | ⟨k,cap,cur,hv,hk,rest⟩
 ·exact .inl e
 ·exact .inr ⟨k,cap,cur,hv,Nat.le_trans hb hk,rest⟩
theorem OwnMt.at {base:Nat} {w:World} {v:Value} {R:List Mr} (h:OwnMt base w v R) {k:Nat} (hk:k < R.length):∃ g cap,v = .slice (some ⟨g,0,none⟩) R.length cap∧base≤g∧g < w.heap.size∧w.cell? ⟨g,k * 2,none⟩ = some (.slice (mrAt R k).ao (mrAt R k).V.length (mrAt R k).cap)∧w.cell? ⟨g,k * 2+1,none⟩ = some (.int .u64 ((mrAt R k).tau:Nat))∧BitsAt w (mrAt R k).ao (mrAt R k).cap (mxL (mrAt R k).V):=by
 rcases h.1.2 with ⟨hv,h0⟩ | ⟨g,cap,cur,hv,hg,hh,hc,hm,hs,ht⟩
 ·omega
 ·obtain ⟨q1,q2⟩:=mtCells_get R k hk
  rw [← ht,List.getElem?_take] at q1 q2
  rw [if_pos (by omega)] at q1 q2
  simp only [Array.getElem?_toList] at q1 q2
  refine ⟨g,cap,hv,hg,(Array.getElem?_eq_some_iff.1 hh).1,?_,?_,(h.2 (mrAt R k) ?_).1⟩
  ·rw [cell_of_row w g _ _ _ _ hh];exact q1
  ·rw [cell_of_row w g _ _ _ _ hh];exact q2
  ·unfold mrAt
   rw [List.getElem?_eq_getElem hk]
   exact List.getElem_mem hk
end Go.Proofs.YtlnphkioddknfaaGreatDoor
namespace Go.Proofs.YtlnphkioddknfaaGreatDoor
open Go.RowKit
def dtV:Nat→List Nat→List Nat→Nat
 | s,x :: xs,y :: ys=>dtV (aV s (mV x y)) xs ys
 | s,_,_=>s
end Go.Proofs.YtlnphkioddknfaaGreatDoor
