/- Part 23 of the texts. -/
import Derived.Test.YtdhmglmccafbnaaGreatDoorPartv20
import Derived.Maps.AppendAt
import Derived.Test.YtdhmglmccafbnaaGreatDoorPartv22
import Derived.Test.YtdhmglmccafbnaaGreatDoorPartv21
import Derived.Deep.RegionLaw
import Derived.Test.YtdhmglmccafbnaaGreatDoorPartv19
import Derived.Test.YtdhmglmccafbnaaGreatDoorPartv18
import Derived.Test.YtdhmglmccafbnaaGreatDoorPartv17
import Derived.Deep.RegionWith
import Derived.Deep.RegionHeld3
import Derived.Laws.CopyOwn
import Derived.Test.YtdhmglmccafbnaaGreatDoorPartv06
import Derived.Lib.BitFns
import Derived.Test.YtdhmglmccafbnaaGreatDoorPartv03
import Derived.Test.YtdhmglmccafbnaaGreatDoorPartv04
import Derived.Test.YtdhmglmccafbnaaGreatDoorPartv01
import Derived.Test.YtdhmglmccafbnaaGreatDoorPartv08
import Derived.Test.YtdhmglmccafbnaaGreatDoorPartv02
import Derived.Test.YtdhmglmccafbnaaGreatDoorPartv05
import Derived.Test.YtdhmglmccafbnaaGreatDoorPartv07
import Derived.Maps.Own
import Derived.Maps.OwnOps
import Derived.Maps.OwnSet
import Derived.DeepKeys4
import Derived.WalkSmall
import Derived.Deep.AppendLies
import Derived.Deep.LoopGhost
import Derived.WalkMore
import Derived.Test.YtdhmglmccafbnaaGreatDoorPartv15
import Derived.Test.YtdhmglmccafbnaaGreatDoorPartv14
import Derived.Test.YtdhmglmccafbnaaGreatDoorPartv16
import Derived.Test.YtdhmglmccafbnaaGreatDoorPartv12
import Derived.Test.YtdhmglmccafbnaaGreatDoorPartv13
import Derived.Deep.Cut
import Derived.BigQuiet
import Derived.Test.YtdhmglmccafbnaaGreatDoorPartv09
import Derived.Test.YtdhmglmccafbnaaGreatDoorPartv11
import Derived.Deep.CutRange
set_option maxHeartbeats 8000000
set_option maxRecDepth 20000
namespace Go.Proofs.YtdhmglmccafbnaaGreatDoor
open Go.RowKit
attribute [local go_sem ↓] Go.wp_at_zero Go.wp_at_succ
def OffB (g:Option Nat) (ao:Option Addr) (I:List Int):Prop:=I = [] ∨ ∃ b off,ao = some ⟨b,off,none⟩∧some b ≠ g
theorem OffB.old {w:World} {ao:Option Addr} {c:Nat} {I:List Int} (h:BitsAt w ao c I) {g:Option Nat} (hg:∀ k,g = some k→w.heap.size≤k):OffB g ao I:=by
 rcases h.2.2 with e | ⟨b,off,e1,e2,_⟩
 ·exact .inl e
 ·exact .inr ⟨b,off,e1,fun e=>by have:=hg b e.symm;omega⟩
theorem bits_grownOff {w w':World} {ao:Option Addr} {c:Nat} {I:List Int} {g:Option Nat} (h:BitsAt w ao c I) (ha:OffB g ao I) (hg:w.grownBy w' g):BitsAt w' ao c I:=by
 refine ⟨h.1,h.2.1,?_⟩
 rcases h.2.2 with e | ⟨b,off,e,hb,hc⟩
 ·exact .inl e
 ·rcases ha with e' | ⟨b',off',e',hne⟩
  ·exact .inl e'
  ·rw [e] at e'
   simp only [Option.some.injEq,Addr.mk.injEq] at e'
   obtain ⟨rfl,rfl,_⟩:=e'
   refine .inr ⟨b,off,e,Nat.lt_of_lt_of_le hb hg.size,fun i hi=>?_⟩
   rw [World.cell?_of_block (a:=⟨b,off+i,none⟩) (hg.block b hb hne)]
   exact hc i hi
end Go.Proofs.YtdhmglmccafbnaaGreatDoor
namespace Go.Proofs.YtdhmglmccafbnaaGreatDoor
open Go.RowKit
attribute [local go_sem ↓] Go.wp_at_zero Go.wp_at_succ
theorem psub_any (a b:Nat) (w:World) (ha:a < 18446744073709551616) (hb:b < 18446744073709551616) (hT:Tab w) :
  Calls Tryz.prog 174 #[.int .u64 a,.int .u64 b] w fun r w'=>r = .returned (.int .u64 (aV a (fN b):Nat))∧Below w.heap.size w w':=by
 have K:=hide (ssub_any a b w ha hb hT)
 clear ha hb hT
 generalize aV a (fN b) = o at *
 generalize aF a (fN b) = f at *
 go_enter Tryz.func174,Tryz.ntmps174
 go_wp2_with fail
 refine Calls.mono (uH K) ?_
 rintro e w1 ⟨rfl,hb1⟩
 clear K
 go_wp2
 go_ret
 exact ⟨rfl,hb1⟩
theorem pdiv_any (a b:Nat) (w:World) (ha:a < 18446744073709551616) (hb:b < 18446744073709551616) (hT:Tab w) :
  Calls Tryz.prog 176 #[.int .u64 a,.int .u64 b] w fun r w'=>r = .returned (.int .u64 (dV a b:Nat))∧Below w.heap.size w w':=by
 have K:=hide (tdiv_any a b w ha hb hT)
 clear ha hb hT
 generalize dV a b = o at *
 generalize dF a b = f at *
 go_enter Tryz.func176,Tryz.ntmps176
 go_wp2_with fail
 refine Calls.mono (uH K) ?_
 rintro e w1 ⟨rfl,hb1⟩
 clear K
 go_wp2
 go_ret
 exact ⟨rfl,hb1⟩
theorem psqrt_any (a:Nat) (w:World) (ha:a < 18446744073709551616) (hT:Tab w) :
  Calls Tryz.prog 261 #[.int .u64 a] w fun r w'=>r = .returned (.int .u64 (sV a:Nat))∧Below w.heap.size w w':=by
 have K:=hide (rsqrt_any a w ha hT)
 clear ha hT
 generalize sV a = o at *
 generalize sF a = f at *
 go_enter Tryz.func261,Tryz.ntmps261
 go_wp2_with fail
 refine Calls.mono (uH K) ?_
 rintro e w1 ⟨rfl,hb1⟩
 clear K
 go_wp2
 go_ret
 exact ⟨rfl,hb1⟩
theorem gplace_of (f s k n p q:Nat) (w:World) (hp:(n:Int) * (s:Int) = (p:Int)) (hq:(f:Int)+(p:Int) = (q:Int)) (h36:q≤36) :
  Calls Tryz.prog 262 #[.agg #[.int .i64 f,.int .i64 s,.int .i64 k],.int .i64 n] w fun e w'=>e = .returned (.int .i64 (q:Nat))∧Below w.heap.size w w':=by
 have hb0:=hide (below_alloc9 w (.cells #[.int .i64 f,.int .i64 s,.int .i64 k] 217))
 have hpq:(p:Int)≤36:=by omega
 go_enter Tryz.func262,Tryz.ntmps262
 go_wp2
 go_ret
 exact ⟨rfl,uH hb0⟩
theorem growOf_of (r c n cap i q:Nat) (ao:Option Addr) (w:World) (hq:(i:Int) * (c:Int) = (q:Int)) (h36:q≤36) :
  Calls Tryz.prog 233 #[.agg #[.int .i64 r,.int .i64 c,.slice ao n cap],.int .i64 i] w fun e w'=>e = .returned (.agg #[.int .i64 (q:Nat),.int .i64 1,.int .i64 (c:Nat)])∧Below w.heap.size w w':=by
 have b0:=below_alloc9 w (.cells #[.int .i64 r,.int .i64 c,.slice ao n cap] 25)
 have s0:=size_alloc9 w (.cells #[.int .i64 r,.int .i64 c,.slice ao n cap] 25)
 have b1:=below_alloc9 (w.alloc (.cells #[.int .i64 r,.int .i64 c,.slice ao n cap] 25)) (.cells #[.int .i64 (q:Nat),.int .i64 1,.int .i64 (c:Nat)] 217)
 have X:=BoxT.new 217 (w.alloc (.cells #[.int .i64 r,.int .i64 c,.slice ao n cap] 25)) (.int .i64 (q:Nat)) (.int .i64 1) (.int .i64 (c:Nat))
 rw [s0] at X
 have x0:=X.c0;have x1:=X.c1;have x2:=X.c2
 have BB:=hide (b0.trans (b1.mono b0.size))
 clear b0 s0 b1 X
 go_enter Tryz.func233,Tryz.ntmps233
 go_wp2_with fail
 exact bodyPost_ret (v:=.agg #[.int .i64 (q:Nat),.int .i64 1,.int .i64 (c:Nat)]) (by simp [results,Tryz.results233,go_sem,x0,x1,x2]) rfl ⟨rfl,uH BB⟩
theorem gcolOf_of (r c n cap i:Nat) (ao:Option Addr) (w:World) :
  Calls Tryz.prog 234 #[.agg #[.int .i64 r,.int .i64 c,.slice ao n cap],.int .i64 i] w fun e w'=>e = .returned (.agg #[.int .i64 (i:Nat),.int .i64 (c:Nat),.int .i64 (r:Nat)])∧Below w.heap.size w w':=by
 have b0:=below_alloc9 w (.cells #[.int .i64 r,.int .i64 c,.slice ao n cap] 25)
 have s0:=size_alloc9 w (.cells #[.int .i64 r,.int .i64 c,.slice ao n cap] 25)
 have b1:=below_alloc9 (w.alloc (.cells #[.int .i64 r,.int .i64 c,.slice ao n cap] 25)) (.cells #[.int .i64 (i:Nat),.int .i64 (c:Nat),.int .i64 (r:Nat)] 217)
 have X:=BoxT.new 217 (w.alloc (.cells #[.int .i64 r,.int .i64 c,.slice ao n cap] 25)) (.int .i64 (i:Nat)) (.int .i64 (c:Nat)) (.int .i64 (r:Nat))
 rw [s0] at X
 have x0:=X.c0;have x1:=X.c1;have x2:=X.c2
 have BB:=hide (b0.trans (b1.mono b0.size))
 clear b0 s0 b1 X
 go_enter Tryz.func234,Tryz.ntmps234
 go_wp2_with fail
 exact bodyPost_ret (v:=.agg #[.int .i64 (i:Nat),.int .i64 (c:Nat),.int .i64 (r:Nat)]) (by simp [results,Tryz.results234,go_sem,x0,x1,x2]) rfl ⟨rfl,uH BB⟩
theorem gcheck_any (r c:Int) (ao:Option Addr) (n cap:Nat) (l i k:Int) (er:Int) (w:World) (hn:n≤35184372088830) (h:okB r c n = true)
  (way:(i < 0∧er = 7) ∨ (0≤i∧l≤i∧er = 7) ∨ (0≤i∧i < l∧k < 0∧er = 7) ∨ (0≤i∧i < l∧0≤k∧l≤k∧er = 7) ∨ (0≤i∧i < l∧0≤k∧k < l∧i = k∧er = 7) ∨ (0≤i∧i < l∧0≤k∧k < l∧¬ i = k∧er = 0)) :
  Calls Tryz.prog 231 #[.agg #[.int .i64 r,.int .i64 c,.slice ao n cap],.int .i64 l,.int .i64 i,.int .i64 k] w fun e w'=>e = .returned (.int .i64 er)∧Below w.heap.size w w':=by
 have hb0:=hide (below_alloc9 w (.cells #[.int .i64 r,.int .i64 c,.slice ao n cap] 25))
 have K:=hide (fun w'=>mcheck_any r c ao n cap w' hn)
 rw [if_pos h] at K
 clear h
 rcases way with ⟨h1,rfl⟩ | ⟨h1,h2,rfl⟩ | ⟨h1,h2,h3,rfl⟩ | ⟨h1,h2,h3,h4,rfl⟩ | ⟨h1,h2,h3,h4,rfl,rfl⟩ | ⟨h1,h2,h3,h4,h5,rfl⟩
 rotate_left 5
 ·have e1:decide (i < 0) = false:=decide_eq_false (by omega)
  have e2:decide (l≤i) = false:=decide_eq_false (by omega)
  have e3:decide (k < 0) = false:=decide_eq_false (by omega)
  have e4:decide (l≤k) = false:=decide_eq_false (by omega)
  have e5:(i == k) = false:=by simp;omega
  go_enter Tryz.func231,Tryz.ntmps231
  go_wp2_with fail
  refine (uH K _).mono ?_
  rintro e w1 ⟨rfl,hb⟩
  replace hb0:=hide ((uH hb0).trans (hb.mono (uH hb0).size))
  clear hb K
  go_wp2
  go_ret
  exact ⟨rfl,uH hb0⟩
 all_goals
  go_enter Tryz.func231,Tryz.ntmps231
  go_wp2_with fail
  refine (uH K _).mono ?_
  rintro e w1 ⟨rfl,hb⟩
  replace hb0:=hide ((uH hb0).trans (hb.mono (uH hb0).size))
  clear hb K
  go_wp2
  go_ret
  exact ⟨rfl,uH hb0⟩
theorem gpair_of (x y c s p q u p' q' v:Nat) (w:World)
  (C1:∀ w',Below w.heap.size w w'→Calls Tryz.prog 175 #[.int .u64 c,.int .u64 x] w' fun e w''=>e = .returned (.int .u64 (p:Nat))∧Below w'.heap.size w' w'')
  (C2:∀ w',Below w.heap.size w w'→Calls Tryz.prog 175 #[.int .u64 s,.int .u64 y] w' fun e w''=>e = .returned (.int .u64 (q:Nat))∧Below w'.heap.size w' w'')
  (C3:∀ w',Below w.heap.size w w'→Calls Tryz.prog 260 #[.int .u64 p,.int .u64 q] w' fun e w''=>e = .returned (.int .u64 (u:Nat))∧Below w'.heap.size w' w'')
  (C4:∀ w',Below w.heap.size w w'→Calls Tryz.prog 175 #[.int .u64 c,.int .u64 y] w' fun e w''=>e = .returned (.int .u64 (p':Nat))∧Below w'.heap.size w' w'')
  (C5:∀ w',Below w.heap.size w w'→Calls Tryz.prog 175 #[.int .u64 s,.int .u64 x] w' fun e w''=>e = .returned (.int .u64 (q':Nat))∧Below w'.heap.size w' w'')
  (C6:∀ w',Below w.heap.size w w'→Calls Tryz.prog 174 #[.int .u64 p',.int .u64 q'] w' fun e w''=>e = .returned (.int .u64 (v:Nat))∧Below w'.heap.size w' w'') :
  Calls Tryz.prog 263 #[.int .u64 x,.int .u64 y,.int .u64 c,.int .u64 s] w fun e w'=>e = .returned (.tuple #[.int .u64 (u:Nat),.int .u64 (v:Nat)])∧Below w.heap.size w w':=by
 have K1:=hide C1;have K2:=hide C2;have K3:=hide C3;have K4:=hide C4;have K5:=hide C5;have K6:=hide C6
 have BB:=hide (Below.refl w.heap.size w)
 clear C1 C2 C3 C4 C5 C6
 go_enter Tryz.func263,Tryz.ntmps263
 go_wp2_with fail
 refine (uH K1 _ (uH BB)).mono ?_
 rintro e w1 ⟨rfl,hb⟩
 replace BB:=hide ((uH BB).trans (hb.mono (uH BB).size))
 clear hb K1
 go_wp2_with fail
 refine (uH K2 _ (uH BB)).mono ?_
 rintro e w1 ⟨rfl,hb⟩
 replace BB:=hide ((uH BB).trans (hb.mono (uH BB).size))
 clear hb K2
 go_wp2_with fail
 refine (uH K3 _ (uH BB)).mono ?_
 rintro e w1 ⟨rfl,hb⟩
 replace BB:=hide ((uH BB).trans (hb.mono (uH BB).size))
 clear hb K3
 go_wp2_with fail
 refine (uH K4 _ (uH BB)).mono ?_
 rintro e w1 ⟨rfl,hb⟩
 replace BB:=hide ((uH BB).trans (hb.mono (uH BB).size))
 clear hb K4
 go_wp2_with fail
 refine (uH K5 _ (uH BB)).mono ?_
 rintro e w1 ⟨rfl,hb⟩
 replace BB:=hide ((uH BB).trans (hb.mono (uH BB).size))
 clear hb K5
 go_wp2_with fail
 refine (uH K6 _ (uH BB)).mono ?_
 rintro e w1 ⟨rfl,hb⟩
 replace BB:=hide ((uH BB).trans (hb.mono (uH BB).size))
 clear hb K6
 go_wp2
 exact bodyPost_ret (v:=.tuple #[.int .u64 (u:Nat),.int .u64 (v:Nat)]) (by simp [results,Tryz.results263,go_sem]) rfl ⟨rfl,uH BB⟩
theorem gpair_any (x y c s:Nat) (w:World) (hx:x < 18446744073709551616) (hy:y < 18446744073709551616) (hc:c < 18446744073709551616) (hs:s < 18446744073709551616) (hT:Tab w) :
  Calls Tryz.prog 263 #[.int .u64 x,.int .u64 y,.int .u64 c,.int .u64 s] w fun e w'=>e = .returned (.tuple #[.int .u64 (aV (mV c x) (mV s y):Nat),.int .u64 (aV (mV c y) (fN (mV s x)):Nat)])∧Below w.heap.size w w' :=
 gpair_of x y c s (mV c x) (mV s y) _ (mV c y) (mV s x) _ w (fun w' hb=>vmul_any _ _ w' hc hx (hT.all hb)) (fun w' hb=>vmul_any _ _ w' hs hy (hT.all hb)) (fun w' hb=>vadd_any _ _ w' (mV_lt _ _) (mV_lt _ _) (hT.all hb)) (fun w' hb=>vmul_any _ _ w' hc hy (hT.all hb)) (fun w' hb=>vmul_any _ _ w' hs hx (hT.all hb)) (fun w' hb=>psub_any _ _ w' (mV_lt _ _) (mV_lt _ _) (hT.all hb))
end Go.Proofs.YtdhmglmccafbnaaGreatDoor
namespace Go.Proofs.YtdhmglmccafbnaaGreatDoor
open Go.RowKit
attribute [local go_sem ↓] Go.wp_at_zero Go.wp_at_succ
def roJ (r c:Nat) (S:List Nat) (i k C s j:Nat):List Nat:=mkM r c (fun p q=>if q < j then (if p = i then aV (mV C (elM c S i q)) (mV s (elM c S k q)) else if p = k then aV (mV C (elM c S k q)) (fN (mV s (elM c S i q))) else elM c S p q) else elM c S p q)
theorem roJ_0 (r c:Nat) (S:List Nat) (i k C s:Nat) (h:S.length = r * c):roJ r c S i k C s 0 = S:=by
 unfold roJ
 rw [← mkM_of r c S h]
 refine mkM_congr (fun p q _ _=>?_)
 rw [mkM_of r c S h,if_neg (by omega)]
 rfl
theorem roJ_all (r c:Nat) (S:List Nat) (i k C s:Nat):roJ r c S i k C s c = roM r c S i k C s:=by
 unfold roJ roM
 exact mkM_congr (fun p q _ hq=>if_pos hq)
theorem roJ_len (r c:Nat) (S:List Nat) (i k C s j:Nat):(roJ r c S i k C s j).length = r * c:=mkM_len _ _ _
theorem roJ_set (r c:Nat) (S:List Nat) {i k C s j:Nat} (hi:i < r) (hk:k < r) (hne:i ≠ k) (hj:j < c) :
  ((roJ r c S i k C s j).set (i * c+j) (aV (mV C (elM c S i j)) (mV s (elM c S k j)))).set (k * c+j) (aV (mV C (elM c S k j)) (fN (mV s (elM c S i j)))) = roJ r c S i k C s (j+1):=by
 unfold roJ
 rw [mkM_set r c _ _ hi hj,mkM_set r c _ _ hk hj]
 refine mkM_congr (fun p q _ _=>?_)
 by_cases q1:q < j
 ·rw [if_neg (fun e=>by omega),if_neg (fun e=>by omega),if_pos q1,if_pos (show q < j+1 by omega)]
 ·by_cases q2:q = j
  ·subst q2
   by_cases p2:p = k
   ·rw [if_pos ⟨p2,rfl⟩,if_pos (show q < q+1 by omega),if_neg (fun e=>hne (e.symm.trans p2)),if_pos p2]
   ·rw [if_neg (fun e=>p2 e.1)]
    by_cases p1:p = i
    ·rw [if_pos ⟨p1,rfl⟩,if_pos (show q < q+1 by omega),if_pos p1]
    ·rw [if_neg (fun e=>p1 e.1),if_neg (show ¬ q < q by omega),if_pos (show q < q+1 by omega),if_neg p1,if_neg p2]
  ·rw [if_neg (fun e=>q2 e.2),if_neg (fun e=>q2 e.2),if_neg q1,if_neg (show ¬ q < j+1 by omega)]
end Go.Proofs.YtdhmglmccafbnaaGreatDoor
namespace Go.Proofs.YtdhmglmccafbnaaGreatDoor
open Go.RowKit
attribute [local go_sem ↓] Go.wp_at_zero Go.wp_at_succ
def coM (r c:Nat) (S:List Nat) (i k C s:Nat):List Nat:=tuM c r (roM c r (tuM r c S) i k C s)
theorem coM_len (r c:Nat) (S:List Nat) (i k C s:Nat):(coM r c S i k C s).length = r * c:=by
 unfold coM tuM
 exact mkM_len _ _ _
end Go.Proofs.YtdhmglmccafbnaaGreatDoor
namespace Go.Proofs.YtdhmglmccafbnaaGreatDoor
open Go.RowKit
attribute [local go_sem ↓] Go.wp_at_zero Go.wp_at_succ
structure TuSt (w wr:World) (r c n cap f1 s1 k1 f2 s2 k2:Nat) (ao:Option Addr) (S:List Nat):Prop where
 bel:Below w.heap.size w wr
 m:BoxM wr w.heap.size (.int .i64 r) (.int .i64 c) (.slice ao n cap)
 u:BoxT 217 wr (w.heap.size+1) (.int .i64 f1) (.int .i64 s1) (.int .i64 k1)
 l:BoxT 217 wr (w.heap.size+1+1) (.int .i64 f2) (.int .i64 s2) (.int .i64 k2)
 res:BoxM wr (w.heap.size+1+1+1) (.int .i64 0) (.int .i64 0) (.slice none 0 0)
 row:RowB wr (w.heap.size+1+1+1+1) S
theorem TuSt.all {w wr w':World} {r c n cap f1 s1 k1 f2 s2 k2:Nat} {ao:Option Addr} {S:List Nat} (h:TuSt w wr r c n cap f1 s1 k1 f2 s2 k2 ao S) (hb:Below wr.heap.size wr w'):TuSt w w' r c n cap f1 s1 k1 f2 s2 k2 ao S :=
 ⟨h.bel.trans (hb.mono h.bel.size),h.m.all hb,h.u.all hb,h.l.all hb,h.res.all hb,h.row.below hb h.row.lt⟩
theorem TuSt.set {w wr:World} {r c n cap f1 s1 k1 f2 s2 k2:Nat} {ao:Option Addr} {S:List Nat} (h:TuSt w wr r c n cap f1 s1 k1 f2 s2 k2 ao S) (p x:Nat):TuSt w (wr.setCell ⟨w.heap.size+1+1+1+1,p,none⟩ (.int .u64 (x:Int))) r c n cap f1 s1 k1 f2 s2 k2 ao (S.set p x) :=
 ⟨h.bel.setCell (p:=⟨w.heap.size+1+1+1+1,p,none⟩) (by show w.heap.size≤w.heap.size+1+1+1+1;omega) _,h.m.other (p:=⟨w.heap.size+1+1+1+1,p,none⟩) (by show w.heap.size ≠ w.heap.size+1+1+1+1;omega) _,h.u.other (p:=⟨w.heap.size+1+1+1+1,p,none⟩) (by show w.heap.size+1 ≠ w.heap.size+1+1+1+1;omega) _,h.l.other (p:=⟨w.heap.size+1+1+1+1,p,none⟩) (by show w.heap.size+1+1 ≠ w.heap.size+1+1+1+1;omega) _,h.res.other (p:=⟨w.heap.size+1+1+1+1,p,none⟩) (by show w.heap.size+1+1+1 ≠ w.heap.size+1+1+1+1;omega) _,h.row.set p x⟩
theorem TuSt.start (w:World) (r c n cap f1 s1 k1 f2 s2 k2:Nat) (ao:Option Addr) :
  TuSt w (((((w.alloc (.cells #[.int .i64 r,.int .i64 c,.slice ao n cap] 25)).alloc (.cells #[.int .i64 f1,.int .i64 s1,.int .i64 k1] 217)).alloc (.cells #[.int .i64 f2,.int .i64 s2,.int .i64 k2] 217)).alloc (.cells #[.int .i64 0,.int .i64 0,.slice none 0 0] 25)).alloc (.cells (madeCells #[.int .u64 0] n) 28)) r c n cap f1 s1 k1 f2 s2 k2 ao (List.replicate n 0):=by
 have b0:=below_alloc9 w (.cells #[.int .i64 r,.int .i64 c,.slice ao n cap] 25)
 have s0:=size_alloc9 w (.cells #[.int .i64 r,.int .i64 c,.slice ao n cap] 25)
 have x0:=BoxM.new w (.int .i64 r) (.int .i64 c) (.slice ao n cap)
 generalize w.alloc (.cells #[.int .i64 r,.int .i64 c,.slice ao n cap] 25) = w0 at *
 have b1:=below_alloc9 w0 (.cells #[.int .i64 f1,.int .i64 s1,.int .i64 k1] 217)
 have z1:=size_alloc9 w0 (.cells #[.int .i64 f1,.int .i64 s1,.int .i64 k1] 217)
 have x1:=BoxT.new 217 w0 (.int .i64 f1) (.int .i64 s1) (.int .i64 k1)
 generalize w0.alloc (.cells #[.int .i64 f1,.int .i64 s1,.int .i64 k1] 217) = w1 at *
 have b2:=below_alloc9 w1 (.cells #[.int .i64 f2,.int .i64 s2,.int .i64 k2] 217)
 have z2:=size_alloc9 w1 (.cells #[.int .i64 f2,.int .i64 s2,.int .i64 k2] 217)
 have x2:=BoxT.new 217 w1 (.int .i64 f2) (.int .i64 s2) (.int .i64 k2)
 generalize w1.alloc (.cells #[.int .i64 f2,.int .i64 s2,.int .i64 k2] 217) = w2 at *
 have b3:=below_alloc9 w2 (.cells #[.int .i64 0,.int .i64 0,.slice none 0 0] 25)
 have z3:=size_alloc9 w2 (.cells #[.int .i64 0,.int .i64 0,.slice none 0 0] 25)
 have x3:=BoxM.new w2 (.int .i64 0) (.int .i64 0) (.slice none 0 0)
 generalize w2.alloc (.cells #[.int .i64 0,.int .i64 0,.slice none 0 0] 25) = w3 at *
 have b4:=below_alloc9 w3 (.cells (madeCells #[.int .u64 0] n) 28)
 have x4:=RowB.made w3 n
 rw [s0] at x1 z1
 rw [z1] at x2 z2
 rw [z2] at x3 z3
 rw [z3] at x4
 have c1:=b0.trans (b1.mono b0.size)
 have c2:=c1.trans (b2.mono c1.size)
 have c3:=c2.trans (b3.mono c2.size)
 exact ⟨c3.trans (b4.mono c3.size),(((x0.all b1).all b2).all b3).all b4,((x1.all b2).all b3).all b4,(x2.all b3).all b4,x3.all b4,x4⟩
theorem TuSt.copied {w wr w':World} {r c n cap f1 s1 k1 f2 s2 k2:Nat} {ao:Option Addr} {S T:List Nat} (h:TuSt w wr r c n cap f1 s1 k1 f2 s2 k2 ao S) (hb:Below (w.heap.size+1+1+1+1) wr w') (hr:RowB w' (w.heap.size+1+1+1+1) T):TuSt w w' r c n cap f1 s1 k1 f2 s2 k2 ao T :=
 ⟨h.bel.trans (hb.mono (by omega)),h.m.below hb (by omega),h.u.below hb (by omega),h.l.below hb (by omega),h.res.below hb (by omega),hr⟩
theorem RowB.three {w:World} {b g:Nat} {S:List Nat} (h:RowB w b S) (hg:b ≠ g) (u u' u'':Value):RowB (((w.setCell ⟨g,0,none⟩ u).setCell ⟨g,1,none⟩ u').setCell ⟨g,2,none⟩ u'') b S:=by
 unfold RowB
 rw [Below.heap_setCell _ ⟨g,2,none⟩ u'' b hg,Below.heap_setCell _ ⟨g,1,none⟩ u' b hg,Below.heap_setCell _ ⟨g,0,none⟩ u b hg]
 exact h
theorem rowB_neM {w:World} {g b:Nat} {S:List Nat} (h:RowB w g S) {x y z:Value} (hx:BoxM w b x y z):g ≠ b:=by
 intro e
 subst e
 unfold RowB at h
 unfold BoxM at hx
 rw [h] at hx
 simp at hx
theorem copy_run (W:World) (g n cap:Nat) (ao:Option Addr) (S:List Nat) (h:RowB W g (List.replicate n 0)) (hS:BitsAt W ao cap (mxL S)) (hl:S.length = n) :
  ∃ w',(∀ ty,(Builtin.copy_ #[23,23] ty #[.slice (some ⟨g,0,none⟩) n n,.slice ao n cap]).run Tryz.prog W = .ok (.int .i64 (n:Int)) w')∧RowB w' g S∧Below g W w':=by
 rcases Nat.eq_zero_or_pos n with e | e
 ·subst e
  obtain rfl:S = []:=List.eq_nil_of_length_eq_zero hl
  exact ⟨W,fun ty=>run_copy_none W _ _ ty 28 _ _ 0 0 0 cap Tryz.underlying23 (by kernel_rfl) rfl,h,Below.refl _ _⟩
 ·obtain ⟨b,off,rfl,hb,hc⟩:=hS.ne (by rw [mxL_len];omega)
  have hcs:∀ j v,(S.map bitV)[j]? = some v→W.cell? ((⟨b,off,none⟩:Addr).add j) = some v:=by
   intro j v hv
   rw [List.getElem?_map] at hv
   obtain ⟨x,hx,rfl⟩:=Option.map_eq_some_iff.1 hv
   have hj:j < S.length:=(List.getElem?_eq_some_iff.1 hx).1
   have:=hc j (by rw [mxL_len];exact hj)
   rw [mxL_at] at this
   rw [show (⟨b,off,none⟩:Addr).add j = ⟨b,off+j,none⟩ from by simp [Addr.add],this]
   rw [List.getD_eq_getElem?_getD,hx]
   rfl
  have hlen:(S.map bitV).length = n:=by rw [List.length_map,hl]
  have run:=fun ty=>run_copy_row Tryz.prog W 23 23 ty 28 g 0 n n ⟨b,off,none⟩ n cap ((List.replicate n 0).map bitV).toArray 28 (S.map bitV) Tryz.underlying23 (by kernel_rfl) h (by rw [hlen];exact (Nat.min_self n).symm) hcs (by rw [hlen];simp) (fun v hv=>by obtain ⟨x,_,rfl⟩:=List.mem_map.1 hv;rfl)
  refine ⟨_,fun ty=>(run ty).trans (by rw [hlen];rfl),?_,below_setRow (Below.refl _ _) (Nat.le_refl _) _⟩
  unfold RowB
  rw [setRow_heap W g _ _ 28 _ h]
  congr 3
  simp
theorem lineturned_of (r c n cap f1 s1 k f2 s2 k2 C s:Nat) (ao:Option Addr) (TJ:Nat→List Nat) (P Q X Y U V:Nat→Nat) (w:World) (h36:n≤36) (h6:k≤6) (hS:BitsAt w ao cap (mxL (TJ 0))) (lJ:∀ j,(TJ j).length = n)
  (hP:∀ j,j < k→P j < n∧Q j < n∧P j ≠ Q j∧(TJ j)[P j]?.getD 0 = X j∧(TJ j)[Q j]?.getD 0 = Y j∧((TJ j).set (P j) (U j)).set (Q j) (V j) = TJ (j+1))
  (C1:∀ w' j,j < k→Calls Tryz.prog 262 #[.agg #[.int .i64 f1,.int .i64 s1,.int .i64 k],.int .i64 (j:Nat)] w' fun e w''=>e = .returned (.int .i64 (P j:Nat))∧Below w'.heap.size w' w'')
  (C2:∀ w' j,j < k→Calls Tryz.prog 262 #[.agg #[.int .i64 f2,.int .i64 s2,.int .i64 k2],.int .i64 (j:Nat)] w' fun e w''=>e = .returned (.int .i64 (Q j:Nat))∧Below w'.heap.size w' w'')
  (C3:∀ w' j,Below w.heap.size w w'→j < k→Calls Tryz.prog 263 #[.int .u64 (X j:Nat),.int .u64 (Y j:Nat),.int .u64 C,.int .u64 s] w' fun e w''=>e = .returned (.tuple #[.int .u64 (U j:Nat),.int .u64 (V j:Nat)])∧Below w'.heap.size w' w'') :
  Calls Tryz.prog 232 #[.agg #[.int .i64 r,.int .i64 c,.slice ao n cap],.agg #[.int .i64 f1,.int .i64 s1,.int .i64 k],.agg #[.int .i64 f2,.int .i64 s2,.int .i64 k2],.int .u64 C,.int .u64 s] w fun e w'=>∃ g,e = .returned (.agg #[.int .i64 r,.int .i64 c,.slice (some ⟨g,0,none⟩) n n])∧w.heap.size≤g∧RowB w' g (TJ k)∧Below w.heap.size w w':=by
 have ST:=hide (TuSt.start w r c n cap f1 s1 k f2 s2 k2 ao)
 have hmk:=run_make_row' (P:=Tryz.prog) 23 28 (.int .u64 0) 8 Tryz.underlying23 (by kernel_rfl) rfl .i64 .i64 n (by omega) (by omega)
 have HP:=hide hP;have K1:=hide C1;have K2:=hide C2;have K3:=hide C3;have LJ:=hide lJ;have HS:=hide hS
 obtain ⟨w5,hcp,hr5,hb5⟩:=copy_run _ (w.heap.size+1+1+1+1) n cap ao (TJ 0) (uH ST).row (hS.below (uH ST).bel) (lJ 0)
 have ST5:=hide ((uH ST).copied hb5 hr5)
 clear hP C1 C2 C3 lJ hS hr5 hb5
 have y0:=(uH ST).m.c0;have y1:=(uH ST).m.c1;have y2:=(uH ST).m.c2
 have q0:=(uH ST5).u.c0;have q1:=(uH ST5).u.c1;have q2:=(uH ST5).u.c2
 go_enter Tryz.func232,Tryz.ntmps232
 go_wp2_with fail
 clear hmk hcp y0 y1 y2 q0 q1 q2 ST
 go_loopw [25] (fun a wr=>∃ j:Nat,j≤k∧a = .int .i64 j∧Hid (TuSt w wr r c n cap f1 s1 k f2 s2 k2 ao (TJ j))) (fun a _=>k - (intOf a).toNat)
 case atStart=>exact ⟨0,Nat.zero_le _,rfl,ST5⟩
 case round =>
  clear ST5
  obtain ⟨j,hj,rfl,hS⟩:=hrel
  by_cases hlt:j < k
  ·have hjI:(j:Int) < (k:Int):=by omega
   obtain ⟨hp,hq,hne,hx,hy,hset⟩:=uH HP j hlt
   have KP:=hide (fun w'=>uH K1 w' j hlt);have KQ:=hide (fun w'=>uH K2 w' j hlt);have KT:=hide (fun w' hb=>uH K3 w' j hb hlt)
   have LL:=hide (uH LJ j);have HX:=hide hx;have HY:=hide hy;have HN:=hide hset
   generalize hTT:TJ j = TT at *
   generalize hTN:TJ (j+1) = TN at *
   clear HP K1 K2 K3 LJ hx hy hset
   generalize P j = p at *
   generalize Q j = q at *
   generalize X j = x at *
   generalize Y j = y at *
   generalize U j = u at *
   generalize V j = v at *
   have hpI:(p:Int) < (n:Int):=by omega
   have hqI:(q:Int) < (n:Int):=by omega
   go_wp2_with fail
   refine at_world (fun W=>TuSt w W r c n cap f1 s1 k f2 s2 k2 ao TT) (uH hS) ?_
   clear hS
   intro W st
   have ST:=hide st
   have HK:=hide (fun w' (h:Below W.heap.size W w')=>(show Below W.heap.size W w'∧(w'.cell? ⟨w.heap.size+1,0,none⟩ = some (.int .i64 f1)∧w'.cell? ⟨w.heap.size+1,1,none⟩ = some (.int .i64 s1)∧w'.cell? ⟨w.heap.size+1,2,none⟩ = some (.int .i64 k))∧(w'.cell? ⟨w.heap.size+1+1,0,none⟩ = some (.int .i64 f2)∧w'.cell? ⟨w.heap.size+1+1,1,none⟩ = some (.int .i64 s2)∧w'.cell? ⟨w.heap.size+1+1,2,none⟩ = some (.int .i64 k2)) from
    have y:=st.all h;⟨h,⟨y.u.c0,y.u.c1,y.u.c2⟩,y.l.c0,y.l.c1,y.l.c2⟩))
   clear st
   go_region_held3 (fun w'=>Below W.heap.size W w'∧(w'.cell? ⟨w.heap.size+1,0,none⟩ = some (.int .i64 f1)∧w'.cell? ⟨w.heap.size+1,1,none⟩ = some (.int .i64 s1)∧w'.cell? ⟨w.heap.size+1,2,none⟩ = some (.int .i64 k))∧(w'.cell? ⟨w.heap.size+1+1,0,none⟩ = some (.int .i64 f2)∧w'.cell? ⟨w.heap.size+1+1,1,none⟩ = some (.int .i64 s2)∧w'.cell? ⟨w.heap.size+1+1,2,none⟩ = some (.int .i64 k2)))
    (first | exact uH HK _ (Below.refl _ _).drew | exact uH HK _ (by assumption) | fail "KK")
    (first | (go_at_call 262;refine (uH KP _).mono ?_;rintro e w6 ⟨rfl,hb5⟩;have hB5:Below W.heap.size W w6:=Below.trans (And.left (by assumption)) (hb5.mono (Below.size (And.left (by assumption))));clear hb5 KP) | (go_at_call 262;refine (uH KQ _).mono ?_;rintro e w7 ⟨rfl,hb5⟩;have hB5:Below W.heap.size W w7:=Below.trans (And.left (by assumption)) (hb5.mono (Below.size (And.left (by assumption))));clear hb5 KQ) | fail "NO ARM")
   all_goals
    have ST:=hide ((uH ST).all (And.left (by assumption)))
    clear HK
    go_wp2_with fail
    refine at_world (fun W=>TuSt w W r c n cap f1 s1 k f2 s2 k2 ao TT) (uH ST) ?_
    clear ST
    rintro W0 st
    have ST:=hide (st.all ((Below.refl W0.heap.size W0).drew))
    clear st
    have c1:=(uH ST).row.cell p (by rw [uH LL];exact hp)
    have c2:=(uH ST).row.cell q (by rw [uH LL];exact hq)
    rw [uH HX] at c1
    rw [uH HY] at c2
    go_region_with (first
     | (go_at_call 263;refine (uH KT _ (uH ST).bel).mono ?_;rintro e w8 ⟨rfl,hb⟩;clear c1 c2;have S8:=(uH ST).all hb;have d1:=S8.row.cell p (by rw [uH LL];exact hp);have d2:=S8.row.cell q (by rw [uH LL];exact hq);have f1':=S8.row.free p;have f2':=S8.row.free q;have S9:=S8.set p u;have d3:=S9.row.cell q (by rw [List.length_set,uH LL];exact hq);have f3':=S9.row.free q;have P9:=hide (S9.set q v);clear S8 S9 hb ST KT)
     | fail "NO ARM")
    all_goals
     clear d1 d2 d3 f1' f2' f3'
     go_wp2_with fail
     go_round
     case rel=>exact ⟨j+1,by omega,by go_num,by rw [hTN,← uH HN];exact P9⟩
     case measure=>simp [intOf];omega
  ·have hjj:j = k:=by omega
   subst hjj
   obtain ⟨h6,h1,h2,h3,h4,h5⟩:=uH hS
   have y0:=h1.c0;have y1:=h1.c1;have y2:=h1.c2
   have r0:=h4.c0;have r1:=h4.c1;have r2:=h4.c2
   have f0:=h4.free 0;have f1:=h4.free 1;have f2:=h4.free 2
   have XP:=h4.put (.int .i64 r) (.int .i64 c) (.slice (some ⟨w.heap.size+1+1+1+1,0,none⟩) n n)
   have z0:=XP.c0;have z1:=XP.c1;have z2:=XP.c2
   have RW:=hide (h5.three (g:=w.heap.size+1+1+1) (by omega) (.int .i64 r) (.int .i64 c) (.slice (some ⟨w.heap.size+1+1+1+1,0,none⟩) n n))
   have BP:=hide (below_putM h6 (b:=w.heap.size+1+1+1) (by omega) (.int .i64 r) (.int .i64 c) (.slice (some ⟨w.heap.size+1+1+1+1,0,none⟩) n n))
   clear XP h1 h2 h3 h4 h5 h6 hS
   go_wp2_with fail
   exact bodyPost_ret (v:=.agg #[.int .i64 r,.int .i64 c,.slice (some ⟨w.heap.size+1+1+1+1,0,none⟩) n n]) (by simp [results,Tryz.results232,go_sem,z0,z1,z2]) rfl ⟨_,rfl,by omega,uH RW,uH BP⟩
end Go.Proofs.YtdhmglmccafbnaaGreatDoor
namespace Go.Proofs.YtdhmglmccafbnaaGreatDoor
open Go.RowKit
def KK:Nat→Nat
 | 0=>2098
 | c+1=>2 * KK c+1
end Go.Proofs.YtdhmglmccafbnaaGreatDoor
namespace Go.Proofs.YtdhmglmccafbnaaGreatDoor
open Go.RowKit
def ltB (a b:Nat):Bool:=decide (cO a b < 0)
end Go.Proofs.YtdhmglmccafbnaaGreatDoor
