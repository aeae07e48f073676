/- Part 33 of the texts. -/
import Derived.Test.YtlnphkioddknfaaGreatDoorPartl32
import Derived.Test.YtlnphkioddknfaaGreatDoorPartl31
import Derived.Deep.RegionWith
import Derived.Deep.RegionLaw
import Derived.Test.YtlnphkioddknfaaGreatDoorPartl27
import Derived.Deep.RegionHeld3
import Derived.Test.YtlnphkioddknfaaGreatDoorPartl21
import Derived.Test.YtlnphkioddknfaaGreatDoorPartl19
import Derived.Test.YtlnphkioddknfaaGreatDoorPartl20
import Derived.Test.YtlnphkioddknfaaGreatDoorPartl28
import Derived.Test.YtlnphkioddknfaaGreatDoorPartl29
import Derived.Test.YtlnphkioddknfaaGreatDoorPartl30
import Derived.Test.YtlnphkioddknfaaGreatDoorPartl16
import Derived.Test.YtlnphkioddknfaaGreatDoorPartl17
import Derived.Test.YtlnphkioddknfaaGreatDoorPartl18
import Derived.Deep.Cut
import Derived.BigQuiet
import Derived.Test.YtlnphkioddknfaaGreatDoorPartl05
import Derived.Maps.AppendAt
import Derived.Test.YtlnphkioddknfaaGreatDoorPartl09
import Derived.Lib.BitFns
import Derived.Test.YtlnphkioddknfaaGreatDoorPartl08
import Derived.Test.YtlnphkioddknfaaGreatDoorPartl07
import Derived.Test.YtlnphkioddknfaaGreatDoorPartl10
import Derived.Maps.Own
import Derived.Maps.OwnOps
import Derived.Maps.OwnSet
import Derived.DeepKeys4
import Derived.WalkSmall
import Derived.Test.YtlnphkioddknfaaGreatDoorPartl01
import Derived.OwnWalk
import Derived.Test.YtlnphkioddknfaaGreatDoorPartl02
set_option maxHeartbeats 4000000
set_option maxRecDepth 20000
namespace Go.Proofs.YtlnphkioddknfaaGreatDoor
def colL (c:Nat) (S:List Nat) (i n q:Nat):List Nat:=(List.range n).map (fun j=>elM c S (i+j) q)
def apL (c:Nat) (S:List Nat) (i q:Nat) (vs:List Nat) (tau:Nat):List Nat:=apV (mV tau (dtV 0 vs (colL c S i vs.length q))) vs (colL c S i vs.length q)
def apM (r c:Nat) (S:List Nat) (i k:Nat) (vs:List Nat) (tau:Nat):List Nat:=mkM r c (fun p q=>if k≤q∧i≤p∧p < i+vs.length then (apL c S i q vs tau).getD (p - i) 0 else elM c S p q)
theorem colL_len (c:Nat) (S:List Nat) (i n q:Nat):(colL c S i n q).length = n:=by simp [colL]
theorem apM_len (r c:Nat) (S:List Nat) (i k:Nat) (vs:List Nat) (tau:Nat):(apM r c S i k vs tau).length = r * c:=mkM_len _ _ _
theorem apV_len (t:Nat):∀ (vs ys:List Nat),vs.length = ys.length→(apV t vs ys).length = vs.length:=by
 intro vs
 induction vs with
 | nil=>intro ys _;rfl
 | cons v vs ih =>
  intro ys h
  match ys with
  | []=>cases h
  | y :: ys =>
   show (apV t vs ys).length+1 = vs.length+1
   rw [ih ys (by simpa using h)]
theorem apV_at (t:Nat):∀ (vs ys:List Nat) (j:Nat),vs.length = ys.length→j < vs.length→(apV t vs ys).getD j 0 = aV (ys.getD j 0) (fN (mV t (vs.getD j 0))):=by
 intro vs
 induction vs with
 | nil=>intro ys j _ hj;exact absurd hj (Nat.not_lt_zero j)
 | cons v vs ih =>
  intro ys j h hj
  match ys with
  | []=>cases h
  | y :: ys =>
   match j with
   | 0=>rfl
   | j+1=>exact ih ys j (by simpa using h) (by simpa using hj)
theorem colL_at (c:Nat) (S:List Nat) (i n q:Nat) {j:Nat} (hj:j < n):(colL c S i n q).getD j 0 = elM c S (i+j) q:=by
 simp [colL,List.getD_eq_getElem?_getD,hj]
theorem el_ap (r c:Nat) (S:List Nat) (i k:Nat) (vs:List Nat) (tau:Nat) {p q:Nat} (hp:p < r) (hq:q < c):elM c (apM r c S i k vs tau) p q = if k≤q∧i≤p∧p < i+vs.length then (apL c S i q vs tau).getD (p - i) 0 else elM c S p q:=el_mk r c _ hp hq
theorem list_range (L:List Nat):L = (List.range L.length).map (fun j=>L.getD j 0):=by
 refine List.ext_getElem (by simp) (fun j h1 h2=>?_)
 simp [List.getD_eq_getElem?_getD,h1]
end Go.Proofs.YtlnphkioddknfaaGreatDoor
namespace Go.Proofs.YtlnphkioddknfaaGreatDoor
open Go.RowKit
attribute [local go_sem ↓] Go.wp_at_zero Go.wp_at_succ
theorem OwnB.least {base base':Nat} {w:World} {v:Value} {S:List Nat} (h:OwnB base w v S) (hb:base'≤base):OwnB base' w v S:=by
 refine ⟨⟨h.1.1,?_⟩,h.2⟩
 rcases h.1.2 with e | ⟨g,cap,cur,hv,hg,rest⟩
 ·exact .inl e
 ·exact .inr ⟨g,cap,cur,hv,Nat.le_trans hb hg,rest⟩
theorem OwnB.putM {base:Nat} {w:World} {v:Value} {S:List Nat} (h:OwnB base w v S) {b:Nat} {x y z:Value} (_hx:BoxM w b x y z) (hb:b < base) (u u' u'':Value):OwnB base (((w.setCell ⟨b,0,none⟩ u).setCell ⟨b,1,none⟩ u').setCell ⟨b,2,none⟩ u'') v S:=by
 refine ⟨⟨h.1.1,?_⟩,h.2⟩
 rcases h.1.2 with e | ⟨g,cap,cur,hv,hg,hh,rest⟩
 ·exact .inl e
 ·refine .inr ⟨g,cap,cur,hv,hg,?_,rest⟩
  have ne:g ≠ b:=by omega
  rw [Below.heap_setCell _ ⟨b,2,none⟩ u'' g ne,Below.heap_setCell _ ⟨b,1,none⟩ u' g ne,Below.heap_setCell _ ⟨b,0,none⟩ u g ne]
  exact hh
end Go.Proofs.YtlnphkioddknfaaGreatDoor
namespace Go.Proofs.YtlnphkioddknfaaGreatDoor
open Go.RowKit
attribute [local go_sem ↓] Go.wp_at_zero Go.wp_at_succ
theorem r9sub_of (a b v:Nat) (o:Option Nat) (w:World)
  (hA:∀ i w',(binOp .sub i (.float .f64 a) (.float .f64 b)).run Tryz.prog w' = .ok (.float .f64 (fres o a b w')) (fwld o w'))
  (F1:∀ w',Calls Tryz.prog 109 #[.int .u64 a] w' fun r w''=>r = .returned (.float .f64 a)∧w' = w'')
  (F2:∀ w',Calls Tryz.prog 109 #[.int .u64 b] w' fun r w''=>r = .returned (.float .f64 b)∧w' = w'')
  (N1:∀ u w',Calls Tryz.prog 75 #[.float .f64 (fres o a b u)] w' fun r w''=>r = .returned (.int .u64 v)∧w' = w'') :
  Calls Tryz.prog 49 #[.int .u64 a,.int .u64 b] w fun r w'=>r = .returned (.int .u64 (v:Nat))∧Below w.heap.size w w':=by
 have L1:=hide F1;have L2:=hide F2;have M1:=hide N1
 have B:=hide (below_fwld o w)
 clear F1 F2 N1
 go_enter Tryz.func49,Tryz.ntmps49
 go_wp2_with fail
 refine (uH L1 _).mono ?_
 rintro e w2 ⟨rfl,rfl⟩
 go_wp2_with fail
 refine (uH L2 _).mono ?_
 rintro e w2 ⟨rfl,rfl⟩
 go_wp2_with fail
 refine (uH M1 _ _).mono ?_
 rintro e w2 ⟨rfl,rfl⟩
 clear L1 L2 M1
 go_wp2
 go_ret
 exact ⟨rfl,uH B⟩
theorem r9sub_any (a b:Nat) (w:World) (ha:a < 18446744073709551616) (hb:b < 18446744073709551616) :
  Calls Tryz.prog 49 #[.int .u64 a,.int .u64 b] w fun r w'=>r = .returned (.int .u64 (aV a (fN b):Nat))∧Below w.heap.size w w':=by
 refine r9sub_of a b (aV a (fN b)) (Ieee.double.sub a b) w (fun i w'=>fsub_run i a b w') (fun w'=>f9_any a w' ha) (fun w'=>f9_any b w' hb) (fun u w'=>b9_of _ _ w' (fun w''=>?_))
 rw [fsub_add a b hb]
 cases h:Ieee.double.add a (fN b) with
 | some r =>
  have:=canon_add a (fN b) u w'' ha (fN_lt b hb)
  rw [h] at this
  exact this
 | none =>
  have hn:aN a (fN b) = true:=by
   cases e:aN a (fN b) with
   | true=>rfl
   | false=>rw [fadd_some a (fN b) ha (fN_lt b hb) e] at h;cases h
  rw [(fadd_none a (fN b) ha (fN_lt b hb) hn).2]
  obtain ⟨h3,h4⟩:=fres_none a b u
  have:=canon_any _ w'' h3
  rw [if_pos h4] at this
  exact this
end Go.Proofs.YtlnphkioddknfaaGreatDoor
namespace Go.Proofs.YtlnphkioddknfaaGreatDoor
open Go.RowKit
attribute [local go_sem ↓] Go.wp_at_zero Go.wp_at_succ
theorem r9div_of (a b v:Nat) (o:Option Nat) (w:World)
  (hA:∀ i w',(binOp .quo i (.float .f64 a) (.float .f64 b)).run Tryz.prog w' = .ok (.float .f64 (fres o a b w')) (fwld o w'))
  (F1:∀ w',Calls Tryz.prog 109 #[.int .u64 a] w' fun r w''=>r = .returned (.float .f64 a)∧w' = w'')
  (F2:∀ w',Calls Tryz.prog 109 #[.int .u64 b] w' fun r w''=>r = .returned (.float .f64 b)∧w' = w'')
  (N1:∀ u w',Calls Tryz.prog 75 #[.float .f64 (fres o a b u)] w' fun r w''=>r = .returned (.int .u64 v)∧w' = w'') :
  Calls Tryz.prog 52 #[.int .u64 a,.int .u64 b] w fun r w'=>r = .returned (.int .u64 (v:Nat))∧Below w.heap.size w w':=by
 have L1:=hide F1;have L2:=hide F2;have M1:=hide N1
 have B:=hide (below_fwld o w)
 clear F1 F2 N1
 go_enter Tryz.func52,Tryz.ntmps52
 go_wp2_with fail
 refine (uH L1 _).mono ?_
 rintro e w2 ⟨rfl,rfl⟩
 go_wp2_with fail
 refine (uH L2 _).mono ?_
 rintro e w2 ⟨rfl,rfl⟩
 go_wp2_with fail
 refine (uH M1 _ _).mono ?_
 rintro e w2 ⟨rfl,rfl⟩
 clear L1 L2 M1
 go_wp2
 go_ret
 exact ⟨rfl,uH B⟩
theorem r9div_any (a b:Nat) (w:World) (ha:a < 18446744073709551616) (hb:b < 18446744073709551616) :
  Calls Tryz.prog 52 #[.int .u64 a,.int .u64 b] w fun r w'=>r = .returned (.int .u64 (dV a b:Nat))∧Below w.heap.size w w' :=
 r9div_of a b (dV a b) (Ieee.double.div a b) w (fun i w'=>fdiv_run i a b w') (fun w'=>f9_any a w' ha) (fun w'=>f9_any b w' hb) (fun u w'=>b9_of _ _ w' (fun w''=>canon_div a b u w'' ha hb))
end Go.Proofs.YtlnphkioddknfaaGreatDoor
namespace Go.Proofs.YtlnphkioddknfaaGreatDoor
open Go.RowKit
attribute [local go_sem ↓] Go.wp_at_zero Go.wp_at_succ
theorem toN_getD (I:List Int) (j:Nat) (hj:j < I.length):(toN I).getD j 0 = atB I j:=by
 rw [List.getD_eq_getElem?_getD,toN_at I j hj]
 rfl
theorem ldS_drop (L:List Nat) {j:Nat} (h:j < L.length):ldS (L.drop j) = if fK (L.getD j 0) = 0 then ldS (L.drop (j+1)) else fS (L.getD j 0):=by
 rw [List.drop_eq_getElem_cons h,List.getD_eq_getElem?_getD,List.getElem?_eq_getElem h]
 rfl
end Go.Proofs.YtlnphkioddknfaaGreatDoor
