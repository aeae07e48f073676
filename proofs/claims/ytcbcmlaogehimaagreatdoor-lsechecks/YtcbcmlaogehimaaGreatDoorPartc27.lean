/- Part 27 of the texts. -/
import Derived.Test.YtcbcmlaogehimaaGreatDoorPartc26
import Derived.Test.YtcbcmlaogehimaaGreatDoorPartc22
import Derived.Test.YtcbcmlaogehimaaGreatDoorPartc18
import Derived.Deep.RegionHeld3
import Derived.Test.YtcbcmlaogehimaaGreatDoorPartc17
import Derived.Test.YtcbcmlaogehimaaGreatDoorPartc16
import Derived.Test.YtcbcmlaogehimaaGreatDoorPartc14
import Derived.Test.YtcbcmlaogehimaaGreatDoorPartc20
import Derived.Test.YtcbcmlaogehimaaGreatDoorPartc19
import Derived.Test.YtcbcmlaogehimaaGreatDoorPartc21
import Derived.Deep.RegionLaw
import Derived.Test.YtcbcmlaogehimaaGreatDoorPartc11
import Derived.Test.YtcbcmlaogehimaaGreatDoorPartc12
import Derived.Test.YtcbcmlaogehimaaGreatDoorPartc13
import Derived.Deep.Cut
import Derived.BigQuiet
import Derived.Test.YtcbcmlaogehimaaGreatDoorPartc04
import Derived.Maps.AppendAt
import Derived.Test.YtcbcmlaogehimaaGreatDoorPartc06
import Derived.Lib.BitFns
import Derived.Test.YtcbcmlaogehimaaGreatDoorPartc05
import Derived.Test.YtcbcmlaogehimaaGreatDoorPartc07
import Derived.Maps.Own
import Derived.Maps.OwnOps
import Derived.Maps.OwnSet
import Derived.DeepKeys4
import Derived.Test.YtcbcmlaogehimaaGreatDoorPartc08
import Derived.WalkSmall
import Derived.Test.YtcbcmlaogehimaaGreatDoorPartc01
import Derived.OwnWalk
import Derived.Test.YtcbcmlaogehimaaGreatDoorPartc02
import Derived.Deep.RegionWith
import Derived.Test.YtcbcmlaogehimaaGreatDoorPartc25
set_option maxHeartbeats 16000000
set_option maxRecDepth 20000
namespace Go.Proofs.YtcbcmlaogehimaaGreatDoor
open Go.RowKit
attribute [local go_sem ↓] Go.wp_at_zero Go.wp_at_succ
theorem himage1_of (t x y p o k n m c d bx by' ba:Nat) (b1 o1 b2 o2:Nat) (w:World) (hk:k < n) (hm:k < m)
  (h1:w.cell? ⟨bx,0,none⟩ = some (.slice (some ⟨b1,o1,none⟩) n c)) (h2:w.cell? ⟨by',0,none⟩ = some (.slice (some ⟨b2,o2,none⟩) m d)) (h5:w.cell? ⟨ba,0,none⟩ = some (.int .u64 (t:Nat)))
  (h3:w.cell? ⟨b1,o1+k,none⟩ = some (.int .u64 (x:Nat))) (h4:w.cell? ⟨b2,o2+k,none⟩ = some (.int .u64 (y:Nat)))
  (C1:∀ w',Below w.heap.size w w'→Calls Tryz.prog 203 #[.int .u64 t,.int .u64 y] w' fun r w''=>r = .returned (.int .u64 (p:Nat))∧Below w'.heap.size w' w'')
  (C2:∀ w',Below w.heap.size w w'→Calls Tryz.prog 202 #[.int .u64 x,.int .u64 p] w' fun r w''=>r = .returned (.int .u64 (o:Nat))∧Below w'.heap.size w' w'') :
  Calls Tryz.prog 280 #[.int .i64 k,.pointer (some ⟨bx,0,none⟩),.pointer (some ⟨ba,0,none⟩),.pointer (some ⟨by',0,none⟩)] w fun e w'=>e = .returned (.int .u64 (o:Nat))∧Below w.heap.size w w':=by
 have K1:=hide C1;have K2:=hide C2
 have hkI:(k:Int) < (n:Int):=by omega
 have hkJ:(k:Int) < (m:Int):=by omega
 have HK:=hide (fun w' (h:Below w.heap.size w w')=>(show Below w.heap.size w w'∧w'.cell? ⟨bx,0,none⟩ = some (.slice (some ⟨b1,o1,none⟩) n c)∧w'.cell? ⟨by',0,none⟩ = some (.slice (some ⟨b2,o2,none⟩) m d)∧w'.cell? ⟨b1,o1+k,none⟩ = some (.int .u64 (x:Nat))∧w'.cell? ⟨b2,o2+k,none⟩ = some (.int .u64 (y:Nat))∧w'.cell? ⟨ba,0,none⟩ = some (.int .u64 (t:Nat)) from
  ⟨h,cell_keep h1 h,cell_keep h2 h,cell_keep h3 h,cell_keep h4 h,cell_keep h5 h⟩))
 clear C1 C2 h1 h2 h3 h4 h5
 go_enter Tryz.func280,Tryz.ntmps280
 go_wp2_with fail
 go_region_held3 (fun w'=>Below w.heap.size w w'∧w'.cell? ⟨bx,0,none⟩ = some (.slice (some ⟨b1,o1,none⟩) n c)∧w'.cell? ⟨by',0,none⟩ = some (.slice (some ⟨b2,o2,none⟩) m d)∧w'.cell? ⟨b1,o1+k,none⟩ = some (.int .u64 (x:Nat))∧w'.cell? ⟨b2,o2+k,none⟩ = some (.int .u64 (y:Nat))∧w'.cell? ⟨ba,0,none⟩ = some (.int .u64 (t:Nat)))
  (first | exact uH HK _ (Below.refl _ _).drew | exact uH HK _ (by assumption) | fail "KK")
  (first | (go_at_call 203;refine (uH K1 _ (And.left (by assumption))).mono ?_;rintro e w1 ⟨rfl,hb1⟩;have hB1:Below w.heap.size w w1:=Below.trans (And.left (by assumption)) (hb1.mono (Below.size (And.left (by assumption))));clear hb1) | (go_at_call 202;refine (uH K2 _ (And.left (by assumption))).mono ?_;rintro e w2 ⟨rfl,hb2⟩;have hB2:Below w.heap.size w w2:=Below.trans (And.left (by assumption)) (hb2.mono (Below.size (And.left (by assumption))));clear hb2) | fail "NO ARM")
 go_wp2
 go_ret
 exact ⟨rfl,And.left (by assumption)⟩
structure ImAt (w:World) (v:Value) (H:Nat) (xo vo:Option Addr) (n xc m vc t:Nat):Prop where
 ex:∃ bx bt bv,v = .func (.func 280) #[] #[.pointer (some ⟨bx,0,none⟩),.pointer (some ⟨bt,0,none⟩),.pointer (some ⟨bv,0,none⟩)]∧H≤bx∧H≤bt∧H≤bv∧w.cell? ⟨bx,0,none⟩ = some (.slice xo n xc)∧w.cell? ⟨bt,0,none⟩ = some (.int .u64 (t:Nat))∧w.cell? ⟨bv,0,none⟩ = some (.slice vo m vc)
theorem himage_of (xo vo:Option Addr) (n xc m vc tau d t:Nat) (w:World)
  (C1:∀ w',Below w.heap.size w w'→Calls Tryz.prog 136 #[.slice vo m vc,.slice xo n xc] w' fun e w''=>e = .returned (.tuple #[.int .u64 (d:Nat),.int .i64 0])∧Below w'.heap.size w' w'')
  (C2:∀ w',Below w.heap.size w w'→Calls Tryz.prog 203 #[.int .u64 tau,.int .u64 d] w' fun e w''=>e = .returned (.int .u64 (t:Nat))∧Below w'.heap.size w' w'') :
  Calls Tryz.prog 259 #[.slice xo n xc,.slice vo m vc,.int .u64 tau] w fun e w'=>∃ v,e = .returned v∧ImAt w' v w.heap.size xo vo n xc m vc t∧Below w.heap.size w w':=by
 have K1:=hide C1;have K2:=hide C2
 clear C1 C2
 have b1:=below_alloc9 w (.cells #[.slice xo n xc] 22)
 have x1:=new_cell w (.slice xo n xc) 22
 have s1:=size_alloc9 w (.cells #[.slice xo n xc] 22)
 have b2:=below_alloc9 (w.alloc (.cells #[.slice xo n xc] 22)) (.cells #[.slice vo m vc] 22)
 have x2:=new_cell (w.alloc (.cells #[.slice xo n xc] 22)) (.slice vo m vc) 22
 have y1:=cell_keep x1 b2
 rw [s1] at x2
 have HA:=hide (show Below w.heap.size w ((w.alloc (.cells #[.slice xo n xc] 22)).alloc (.cells #[.slice vo m vc] 22)) from b1.trans (b2.mono b1.size))
 have HX:=hide y1;have HV:=hide x2
 clear b1 x1 s1 b2 x2 y1
 go_enter Tryz.func259,Tryz.ntmps259
 go_wp2_with fail
 refine (uH K1 _ (uH HA)).mono ?_
 rintro e w1 ⟨rfl,hb1⟩
 replace HX:=hide (cell_keep (uH HX) hb1)
 replace HV:=hide (cell_keep (uH HV) hb1)
 replace HA:=hide ((uH HA).trans (hb1.mono (uH HA).size))
 clear hb1 K1
 go_wp2_with fail
 refine (uH K2 _ (uH HA)).mono ?_
 rintro e w2 ⟨rfl,hb1⟩
 replace HX:=hide (cell_keep (uH HX) hb1)
 replace HV:=hide (cell_keep (uH HV) hb1)
 replace HA:=hide ((uH HA).trans (hb1.mono (uH HA).size))
 clear hb1 K2
 have b3:=below_alloc9 w2 (.cells #[.int .u64 (t:Nat)] 69)
 have x3:=hide (new_cell w2 (.int .u64 (t:Nat)) 69)
 replace HX:=hide (cell_keep (uH HX) b3)
 replace HV:=hide (cell_keep (uH HV) b3)
 have HS:=hide (uH HA).size
 replace HA:=hide ((uH HA).trans (b3.mono (uH HA).size))
 clear b3
 go_wp2
 go_ret
 exact ⟨_,rfl,⟨_,_,_,rfl,Nat.le_refl _,uH HS,Nat.le_succ _,uH HX,uH x3,uH HV⟩,uH HA⟩
theorem himage_any (xo vo:Option Addr) (xc vc tau:Nat) (xs vs:List Nat) (w:World) (hX:BitsAt w xo xc (mxL xs)) (hV:BitsAt w vo vc (mxL vs)) (hl:xs.length = vs.length) (h6:vs.length≤64) (ht:tau < 18446744073709551616) (hT:Tab w) :
  Calls Tryz.prog 259 #[.slice xo xs.length xc,.slice vo vs.length vc,.int .u64 tau] w fun e w'=>∃ v,e = .returned v∧ImAt w' v w.heap.size xo vo xs.length xc vs.length vc (mV tau (dtV 0 vs xs))∧Below w.heap.size w w':=by
 refine himage_of xo vo xs.length xc vs.length vc tau (dtV 0 vs xs) _ w (fun w' hb=>?_) (fun w' hb=>?_)
 ·have D:=vDot_any vo xo vc xc (mxL vs) (mxL xs) w' (hV.below hb) (hX.below hb) (hT.all hb)
  have g:goB (mxL vs) (mxL xs) = true:=decide_eq_true ⟨by rw [mxL_len];exact h6,by rw [mxL_len,mxL_len,hl]⟩
  rw [if_pos g,if_pos g,dtK_dtV (mxL vs) (mxL xs) (mxL vs).length (Nat.le_refl _) (by rw [mxL_len,mxL_len,hl];exact Nat.le_refl _),toN_mxL,toN_mxL,mxL_len,mxL_len,List.take_of_length_le (Nat.le_refl _),List.take_of_length_le (by rw [hl];exact Nat.le_refl _)] at D
  exact D
 ·refine vmul_any tau (dtV 0 vs xs) w' ht ?_ (hT.all hb)
  have:=dtK_lt (mxL vs) (mxL xs) (mxL vs).length
  rwa [dtK_dtV (mxL vs) (mxL xs) (mxL vs).length (Nat.le_refl _) (by rw [mxL_len,mxL_len,hl];exact Nat.le_refl _),toN_mxL,toN_mxL,mxL_len,List.take_of_length_le (Nat.le_refl _),List.take_of_length_le (by rw [hl];exact Nat.le_refl _)] at this
structure MiSt (w wr:World) (r c n cap:Nat) (ao:Option Addr) (S:List Nat):Prop where
 bel:Below w.heap.size w wr
 m:BoxM wr w.heap.size (.int .i64 r) (.int .i64 c) (.slice ao n cap)
 res:BoxM wr (w.heap.size+1) (.int .i64 0) (.int .i64 0) (.slice none 0 0)
 row:RowB wr (w.heap.size+1+1) S
theorem MiSt.all {w wr w':World} {r c n cap:Nat} {ao:Option Addr} {S:List Nat} (h:MiSt w wr r c n cap ao S) (hb:Below wr.heap.size wr w'):MiSt w w' r c n cap ao S :=
 ⟨h.bel.trans (hb.mono h.bel.size),h.m.all hb,h.res.all hb,h.row.below hb h.row.lt⟩
theorem MiSt.set {w wr:World} {r c n cap:Nat} {ao:Option Addr} {S:List Nat} (h:MiSt w wr r c n cap ao S) (p x:Nat):MiSt w (wr.setCell ⟨w.heap.size+1+1,p,none⟩ (.int .u64 (x:Int))) r c n cap ao (S.set p x) :=
 ⟨h.bel.setCell (p:=⟨w.heap.size+1+1,p,none⟩) (by show w.heap.size≤w.heap.size+1+1;omega) _,h.m.other (p:=⟨w.heap.size+1+1,p,none⟩) (by show w.heap.size ≠ w.heap.size+1+1;omega) _,h.res.other (p:=⟨w.heap.size+1+1,p,none⟩) (by show w.heap.size+1 ≠ w.heap.size+1+1;omega) _,h.row.set p x⟩
theorem MiSt.start (w:World) (r c n cap:Nat) (ao:Option Addr) :
  MiSt w (((w.alloc (.cells #[.int .i64 r,.int .i64 c,.slice ao n cap] 24)).alloc (.cells #[.int .i64 0,.int .i64 0,.slice none 0 0] 24)).alloc (.cells (madeCells #[.int .u64 0] n) 69)) r c n cap ao (List.replicate n 0):=by
 have b0:=below_alloc9 w (.cells #[.int .i64 r,.int .i64 c,.slice ao n cap] 24)
 have s0:=size_alloc9 w (.cells #[.int .i64 r,.int .i64 c,.slice ao n cap] 24)
 have x0:=BoxM.new w (.int .i64 r) (.int .i64 c) (.slice ao n cap)
 generalize w.alloc (.cells #[.int .i64 r,.int .i64 c,.slice ao n cap] 24) = w0 at *
 have b3:=below_alloc9 w0 (.cells #[.int .i64 0,.int .i64 0,.slice none 0 0] 24)
 have z3:=size_alloc9 w0 (.cells #[.int .i64 0,.int .i64 0,.slice none 0 0] 24)
 have x3:=BoxM.new w0 (.int .i64 0) (.int .i64 0) (.slice none 0 0)
 generalize w0.alloc (.cells #[.int .i64 0,.int .i64 0,.slice none 0 0] 24) = w3 at *
 have b4:=below_alloc9 w3 (.cells (madeCells #[.int .u64 0] n) 69)
 have x4:=RowB.made w3 n
 rw [s0] at x3 z3
 rw [z3] at x4
 have c3:=b0.trans (b3.mono b0.size)
 exact ⟨c3.trans (b4.mono c3.size),(x0.all b3).all b4,x3.all b4,x4⟩
theorem MiSt.copied {w wr w':World} {r c n cap:Nat} {ao:Option Addr} {S T:List Nat} (h:MiSt w wr r c n cap ao S) (hb:Below (w.heap.size+1+1) wr w') (hr:RowB w' (w.heap.size+1+1) T):MiSt w w' r c n cap ao T :=
 ⟨h.bel.trans (hb.mono (by omega)),h.m.below hb (by omega),h.res.below hb (by omega),hr⟩
structure MjSt (w wr:World) (r c n cap:Nat) (ao:Option Addr) (S:List Nat) (bx bt bv:Nat) (po vo:Option Addr) (L pc vc t:Nat) (X:List Int):Prop where
 st:MiSt w wr r c n cap ao S
 lx:w.heap.size+1+1+1≤bx
 lt:w.heap.size+1+1+1≤bt
 lv:w.heap.size+1+1+1≤bv
 cx:wr.cell? ⟨bx,0,none⟩ = some (.slice po L pc)
 ct:wr.cell? ⟨bt,0,none⟩ = some (.int .u64 (t:Nat))
 cv:wr.cell? ⟨bv,0,none⟩ = some (.slice vo L vc)
 x:BitsAt wr po pc X
 nx:NewB (w.heap.size+1+1+1) po X
theorem MjSt.all {w wr w':World} {r c n cap:Nat} {ao:Option Addr} {S:List Nat} {bx bt bv:Nat} {po vo:Option Addr} {L pc vc t:Nat} {X:List Int} (h:MjSt w wr r c n cap ao S bx bt bv po vo L pc vc t X) (hb:Below wr.heap.size wr w'):MjSt w w' r c n cap ao S bx bt bv po vo L pc vc t X :=
 ⟨h.st.all hb,h.lx,h.lt,h.lv,cell_keep h.cx hb,cell_keep h.ct hb,cell_keep h.cv hb,h.x.below hb,h.nx⟩
theorem MjSt.set {w wr:World} {r c n cap:Nat} {ao:Option Addr} {S:List Nat} {bx bt bv:Nat} {po vo:Option Addr} {L pc vc t:Nat} {X:List Int} (h:MjSt w wr r c n cap ao S bx bt bv po vo L pc vc t X) (p x:Nat):MjSt w (wr.setCell ⟨w.heap.size+1+1,p,none⟩ (.int .u64 (x:Int))) r c n cap ao (S.set p x) bx bt bv po vo L pc vc t X:=by
 have l1:=h.lx;have l2:=h.lt;have l3:=h.lv
 refine ⟨h.st.set p x,l1,l2,l3,?_,?_,?_,h.x.far h.nx (by omega) p _,h.nx⟩
 ·rw [cell_setCell_other _ _ _ _ (show bx ≠ w.heap.size+1+1 by omega)];exact h.cx
 ·rw [cell_setCell_other _ _ _ _ (show bt ≠ w.heap.size+1+1 by omega)];exact h.ct
 ·rw [cell_setCell_other _ _ _ _ (show bv ≠ w.heap.size+1+1 by omega)];exact h.cv
end Go.Proofs.YtcbcmlaogehimaaGreatDoor
namespace Go.Proofs.YtcbcmlaogehimaaGreatDoor
open Go.RowKit
attribute [local go_sem ↓] Go.wp_at_zero Go.wp_at_succ
theorem mirrored_of (r c n cap i k L vc tau:Nat) (ao vo:Option Addr) (T:Nat→Nat→List Nat) (X:Nat→List Int) (P U:Nat→Nat→Nat) (t:Nat→Nat) (w:World) (h36:n≤36) (h6:c≤6) (hr6:r≤6) (hil:i+L≤r) (hk:k≤c)
  (hS:BitsAt w ao cap (mxL (T k 0))) (lT:∀ d j,(T d j).length = n) (hnext:∀ d,T d L = T (d+1) 0)
  (hP:∀ d j,k≤d→d < c→j < L→P d j < n∧(i+j) * c+d = P d j∧(T d j).set (P d j) (U d j) = T d (j+1))
  (C1:∀ w' d,Below w.heap.size w w'→k≤d→d < c→Calls Tryz.prog 95 #[.agg #[.int .i64 r,.int .i64 c,.slice ao n cap],.int .i64 i,.int .i64 (d:Nat),.int .i64 L,.int .i64 1] w' fun e w''=>∃ po pc,e = .returned (.tuple #[.agg #[.int .i64 L,.int .i64 1,.slice po L pc],.int .i64 0])∧NewB w'.heap.size po (X d)∧BitsAt w'' po pc (X d)∧Below w'.heap.size w' w'')
  (C2:∀ w' d po pc,Below w.heap.size w w'→k≤d→d < c→BitsAt w' po pc (X d)→Calls Tryz.prog 259 #[.slice po L pc,.slice vo L vc,.int .u64 tau] w' fun e w''=>∃ v,e = .returned v∧ImAt w'' v w'.heap.size po vo L pc L vc (t d)∧Below w'.heap.size w' w'')
  (C3:∀ w' d j po pc bx bt bv,Below w.heap.size w w'→k≤d→d < c→j < L→BitsAt w' po pc (X d)→w'.cell? ⟨bx,0,none⟩ = some (.slice po L pc)→w'.cell? ⟨bt,0,none⟩ = some (.int .u64 (t d:Nat))→w'.cell? ⟨bv,0,none⟩ = some (.slice vo L vc)→Calls Tryz.prog 280 #[.int .i64 (j:Nat),.pointer (some ⟨bx,0,none⟩),.pointer (some ⟨bt,0,none⟩),.pointer (some ⟨bv,0,none⟩)] w' fun e w''=>e = .returned (.int .u64 (U d j:Nat))∧Below w'.heap.size w' w'') :
  Calls Tryz.prog 227 #[.agg #[.int .i64 r,.int .i64 c,.slice ao n cap],.int .i64 i,.int .i64 k,.slice vo L vc,.int .u64 tau] w fun e w'=>∃ g,e = .returned (.agg #[.int .i64 r,.int .i64 c,.slice (some ⟨g,0,none⟩) n n])∧w.heap.size≤g∧RowB w' g (T c 0)∧Below w.heap.size w w':=by
 have ST:=hide (MiSt.start w r c n cap ao)
 have hmk:=run_make_row' (P:=Tryz.prog) 22 69 (.int .u64 0) 8 Tryz.underlying22 (by kernel_rfl) rfl .i64 .i64 n (by omega) (by omega)
 have HP:=hide hP;have K1:=hide C1;have K2:=hide C2;have K3:=hide C3;have LT:=hide lT;have HX:=hide hnext
 obtain ⟨w5,hcp,hr5,hb5⟩:=copy_run _ (w.heap.size+1+1) n cap ao (T k 0) (uH ST).row (hS.below (uH ST).bel) (lT k 0)
 have ST5:=hide ((uH ST).copied hb5 hr5)
 clear hP C1 C2 C3 lT hS hr5 hb5 hnext
 have y0:=(uH ST).m.c0;have y1:=(uH ST).m.c1;have y2:=(uH ST).m.c2
 go_enter Tryz.func227,Tryz.ntmps227
 go_wp2_with fail
 clear hmk hcp y0 y1 y2 ST
 go_loopw [12] (fun a wr=>∃ d:Nat,k≤d∧d≤c∧a = .int .i64 d∧Hid (MiSt w wr r c n cap ao (T d 0))) (fun a _=>c - (intOf a).toNat)
 case atStart=>exact ⟨k,Nat.le_refl _,hk,rfl,ST5⟩
 case round =>
  clear ST5
  obtain ⟨d,hkd,hdc,rfl,hS⟩:=hrel
  by_cases hlt:d < c
  ·have hdI:(d:Int) < (c:Int):=by omega
   have y0:=(uH hS).m.c0;have y1:=(uH hS).m.c1;have y2:=(uH hS).m.c2
   go_wp2_with fail
   clear y0 y1 y2
   refine (uH K1 _ d (uH hS).bel hkd hlt).mono ?_
   rintro e w2 ⟨po,pc,rfl,hn,hx,hb⟩
   have S2:=hide ((uH hS).all hb)
   have HN:=hide (NewB.least hn (show w.heap.size+1+1+1≤wr.heap.size from (uH hS).row.lt))
   have HB:=hide hx
   clear hn hx hb hS
   go_wp2_with fail
   have ba:=below_alloc9 w2 (.cells #[.int .i64 L,.int .i64 1,.slice po L pc] 24)
   replace S2:=hide ((uH S2).all ba)
   replace HB:=hide ((uH HB).below ba)
   clear ba
   have HL:=hide (show w.heap.size+1+1+1≤(w2.alloc (.cells #[.int .i64 L,.int .i64 1,.slice po L pc] 24)).heap.size from (uH S2).row.lt)
   refine (uH K2 _ d po pc (uH S2).bel hkd hlt (uH HB)).mono ?_
   rintro e w3 ⟨v,rfl,hv,hb⟩
   obtain ⟨bx,bt,bv,rfl,l1,l2,l3,c1,c2,c3⟩:=hv.ex
   have S3:=hide (show MjSt w w3 r c n cap ao (T d 0) bx bt bv po vo L pc vc (t d) (X d) from ⟨(uH S2).all hb,Nat.le_trans (uH HL) l1,Nat.le_trans (uH HL) l2,Nat.le_trans (uH HL) l3,c1,c2,c3,(uH HB).below hb,uH HN⟩)
   clear hv hb l1 l2 l3 c1 c2 c3 S2 HN HB HL
   have KC:=hide (fun w' j hb hj hx h1 h2 h3=>uH K3 w' d j po pc bx bt bv hb hkd hlt hj hx h1 h2 h3)
   have HPD:=hide (fun j hj=>uH HP d j hkd hlt hj)
   have LTD:=hide (uH LT d)
   have HXD:=hide (uH HX d)
   generalize hTD:T d = TD at *
   generalize hUD:U d = UD at *
   generalize hPD:P d = PD at *
   generalize t d = td at *
   generalize X d = XD at *
   go_wp2_with fail
   go_loopw [48] (fun a wr=>∃ j:Nat,j≤L∧a = .int .i64 j∧Hid (MjSt w wr r c n cap ao (TD j) bx bt bv po vo L pc vc td XD)) (fun a _=>L - (intOf a).toNat)
   case atStart=>exact ⟨0,Nat.zero_le _,rfl,S3⟩
   case round =>
    clear S3
    obtain ⟨j,hj,rfl,hS⟩:=hrel
    by_cases hjl:j < L
    ·have hjI:(j:Int) < (L:Int):=by omega
     obtain ⟨hp,hpe,hset⟩:=uH HPD j hjl
     have KJ:=hide (fun w' hb hx h1 h2 h3=>uH KC w' j hb hjl hx h1 h2 h3)
     have LL:=hide (uH LTD j);have HN:=hide hset
     clear hset
     obtain ⟨a,ha⟩:∃ a,i+j = a:=⟨_,rfl⟩
     rw [ha] at hpe
     obtain ⟨q,hq⟩:∃ q,a * c = q:=⟨_,rfl⟩
     rw [hq] at hpe
     have e1:IntKind.i64.wrap ((i:Int)+(j:Int)) = (a:Int):=(wrap_in _ (by omega)).trans (by omega)
     have e2:IntKind.i64.wrap ((a:Int) * (c:Int)) = (q:Int):=by
      rw [cast_mul10 a c,hq]
      exact wrap_in _ (by omega)
     have e3:IntKind.i64.wrap ((q:Int)+(d:Int)) = (PD j:Int):=(wrap_in _ (by omega)).trans (by omega)
     have e4:(i:Int)+(j:Int) = (a:Int):=by omega
     have e5:(a:Int) * (c:Int) = (q:Int):=by rw [cast_mul10 a c,hq]
     have e6:(q:Int)+(d:Int) = (PD j:Int):=by omega
     have w1:IntKind.i64.wrap (a:Int) = (a:Int):=wrap_in _ (by omega)
     have w2:IntKind.i64.wrap (q:Int) = (q:Int):=wrap_in _ (by omega)
     have w3:IntKind.i64.wrap (PD j:Int) = (PD j:Int):=wrap_in _ (by omega)
     generalize hTT:TD j = TT at *
     generalize hTN:TD (j+1) = TN at *
     generalize PD j = p at *
     generalize UD j = u at *
     have hpI:(p:Int) < (n:Int):=by omega
     clear hq hpe ha
     go_wp2_with fail
     refine at_world (fun W=>MjSt w W r c n cap ao TT bx bt bv po vo L pc vc td XD) (uH hS) ?_
     clear hS
     intro W st
     have ST:=hide (st.all ((Below.refl W.heap.size W).drew))
     clear st
     have y1:=(uH ST).st.m.c1
     go_region_with (first
      | (go_at_call 280;refine (uH KJ _ (uH ST).st.bel (uH ST).x (uH ST).cx (uH ST).ct (uH ST).cv).mono ?_;rintro e w8 ⟨rfl,hb⟩;clear y1;have S8:=(uH ST).all hb;have y1:=S8.st.m.c1;have d1:=S8.st.row.cell p (by rw [uH LL];exact hp);have f1':=S8.st.row.free p;have P9:=hide (S8.set p u);clear S8 hb ST KJ)
      | fail "NO ARM")
     all_goals
      clear d1 f1' y1
      go_wp2_with fail
      go_round
      case rel=>exact ⟨j+1,by omega,by go_num,by rw [hTN,← uH HN];exact P9⟩
      case measure=>simp [intOf];omega
    ·have hjj:j = L:=by omega
     subst hjj
     have S4:=hide (uH hS).st
     rw [uH HXD] at S4
     clear hS
     go_wp2_with fail
     go_round
     case rel=>exact ⟨d+1,by omega,by omega,by go_num,S4⟩
     case measure=>simp [intOf];omega
  ·have hdd:d = c:=by omega
   subst hdd
   obtain ⟨h6,h1,h4,h5⟩:=uH hS
   have y0:=h1.c0;have y1:=h1.c1;have y2:=h1.c2
   have r0:=h4.c0;have r1:=h4.c1;have r2:=h4.c2
   have f0:=h4.free 0;have f1:=h4.free 1;have f2:=h4.free 2
   have XP:=h4.put (.int .i64 r) (.int .i64 d) (.slice (some ⟨w.heap.size+1+1,0,none⟩) n n)
   have z0:=XP.c0;have z1:=XP.c1;have z2:=XP.c2
   have RW:=hide (h5.three (g:=w.heap.size+1) (by omega) (.int .i64 r) (.int .i64 d) (.slice (some ⟨w.heap.size+1+1,0,none⟩) n n))
   have BP:=hide (below_putM h6 (b:=w.heap.size+1) (by omega) (.int .i64 r) (.int .i64 d) (.slice (some ⟨w.heap.size+1+1,0,none⟩) n n))
   clear XP h1 h4 h5 h6 hS
   go_wp2_with fail
   exact bodyPost_ret (v:=.agg #[.int .i64 r,.int .i64 d,.slice (some ⟨w.heap.size+1+1,0,none⟩) n n]) (by simp [results,Tryz.results227,go_sem,z0,z1,z2]) rfl ⟨_,rfl,by omega,uH RW,uH BP⟩
end Go.Proofs.YtcbcmlaogehimaaGreatDoor
namespace Go.Proofs.YtcbcmlaogehimaaGreatDoor
open Go.RowKit
attribute [local go_sem ↓] Go.wp_at_zero Go.wp_at_succ
theorem happly_form (r c:Int) (ao:Option Addr) (n cap:Nat) (i k:Int) (vo:Option Addr) (L vc tau:Nat) (w:World)
  (C1:∀ w',Calls Tryz.prog 117 #[.agg #[.int .i64 r,.int .i64 c,.slice ao n cap]] w' fun e w''=>e = .returned (.int .i64 1)∧Below w'.heap.size w' w'') :
  Calls Tryz.prog 196 #[.agg #[.int .i64 r,.int .i64 c,.slice ao n cap],.int .i64 i,.int .i64 k,.slice vo L vc,.int .u64 tau] w fun e w'=>∃ v,e = .returned (.tuple #[v,.int .i64 1])∧NewM w.heap.size w' 0 0 [] v∧Below w.heap.size w w':=by
 have K:=hide (C1 ((w.alloc (.cells #[.int .i64 r,.int .i64 c,.slice ao n cap] 24)).alloc (.cells #[.int .i64 0,.int .i64 0,.slice none 0 0] 24)))
 simp only [size_alloc9] at K
 have KB:=hide (boxes2 w (.int .i64 r) (.int .i64 c) (.slice ao n cap) (.int .i64 0) (.int .i64 0) (.slice none 0 0))
 clear C1
 go_enter Tryz.func196,Tryz.ntmps196
 go_wp2_with fail
 refine Calls.mono (uH K) ?_
 rintro e w1 ⟨rfl,hb1⟩
 obtain ⟨hB,hA,hX⟩:=uH KB w1 hb1
 clear K KB hb1 hA
 have f0:=hX.free 0;have f1:=hX.free 1;have f2:=hX.free 2
 have s0:=hX.c0;have s1:=hX.c1;have s2:=hX.c2
 have XP:=hX.put (.int .i64 0) (.int .i64 0) (.slice none 0 0)
 have z0:=XP.c0;have z1:=XP.c1;have z2:=XP.c2
 have BP:=hide (below_putM hB (b:=w.heap.size+1) (by omega) (.int .i64 0) (.int .i64 0) (.slice none 0 0))
 clear XP hX hB
 go_wp2
 refine bodyPost_ret (v:=.tuple #[.agg #[.int .i64 0,.int .i64 0,.slice none 0 0],_]) (by simp [results,Tryz.results196,go_sem,z0,z1,z2]) rfl ⟨_,rfl,NewM.zero _ _,uH BP⟩
theorem happly_of (r c n cap i k L vc tau:Nat) (ao vo:Option Addr) (S:List Nat) (w:World) (hr:r≤6) (hi:i+L≤r) (hk:k≤c) 
  (C1:∀ w',Calls Tryz.prog 117 #[.agg #[.int .i64 r,.int .i64 c,.slice ao n cap]] w' fun e w''=>e = .returned (.int .i64 0)∧Below w'.heap.size w' w'')
  (C2:∀ w',Below w.heap.size w w'→Calls Tryz.prog 227 #[.agg #[.int .i64 r,.int .i64 c,.slice ao n cap],.int .i64 i,.int .i64 k,.slice vo L vc,.int .u64 tau] w' fun e w''=>∃ g,e = .returned (.agg #[.int .i64 r,.int .i64 c,.slice (some ⟨g,0,none⟩) n n])∧w'.heap.size≤g∧RowB w'' g S∧Below w'.heap.size w' w'') :
  Calls Tryz.prog 196 #[.agg #[.int .i64 r,.int .i64 c,.slice ao n cap],.int .i64 i,.int .i64 k,.slice vo L vc,.int .u64 tau] w fun e w'=>∃ g,e = .returned (.tuple #[.agg #[.int .i64 r,.int .i64 c,.slice (some ⟨g,0,none⟩) n n],.int .i64 0])∧w.heap.size+2≤g∧RowB w' g S∧Below w.heap.size w w':=by
 have K:=hide (C1 ((w.alloc (.cells #[.int .i64 r,.int .i64 c,.slice ao n cap] 24)).alloc (.cells #[.int .i64 0,.int .i64 0,.slice none 0 0] 24)))
 simp only [size_alloc9] at K
 have KB:=hide (boxes2 w (.int .i64 r) (.int .i64 c) (.slice ao n cap) (.int .i64 0) (.int .i64 0) (.slice none 0 0))
 have K2:=hide C2
 have HZ:=hide (show w.heap.size+2≤((w.alloc (.cells #[.int .i64 r,.int .i64 c,.slice ao n cap] 24)).alloc (.cells #[.int .i64 0,.int .i64 0,.slice none 0 0] 24)).heap.size by rw [size_alloc9,size_alloc9];omega)
 have hw:IntKind.i64.wrap ((r:Int) - (L:Int)) = (r:Int) - (L:Int):=wrap_in _ (by omega)
 have h1:(i:Int)≤(r:Int) - (L:Int):=by omega
 have h2:(k:Int)≤(c:Int):=by omega
 clear C1 C2
 go_enter Tryz.func196,Tryz.ntmps196
 go_wp2_with fail
 refine Calls.mono (uH K) ?_
 rintro e w1 ⟨rfl,hb1⟩
 obtain ⟨hB,hA,hX⟩:=uH KB w1 hb1
 have HG1:=hide (Nat.le_trans (uH HZ) hb1.size)
 clear K KB hb1 HZ
 have a0:=hA.c0;have a1:=hA.c1;have a2:=hA.c2
 have HB:=hide hB;have HX:=hide hX
 clear hB hA hX
 go_wp2_with fail
 clear a0 a1 a2
 refine (uH K2 _ (uH HB)).mono ?_
 rintro e w2 ⟨g,rfl,hg,hr,hb⟩
 have hB:=(uH HB).trans (hb.mono (uH HB).size)
 have hX:=(uH HX).all hb
 have HG:=hide (Nat.le_trans (uH HG1) hg)
 have f0:=hX.free 0;have f1:=hX.free 1;have f2:=hX.free 2
 have s0:=hX.c0;have s1:=hX.c1;have s2:=hX.c2
 have XP:=hX.put (.int .i64 r) (.int .i64 c) (.slice (some ⟨g,0,none⟩) n n)
 have z0:=XP.c0;have z1:=XP.c1;have z2:=XP.c2
 have Q:=hide (hr.three (g:=w.heap.size+1) (by have:=uH HG;omega) (.int .i64 r) (.int .i64 c) (.slice (some ⟨g,0,none⟩) n n))
 have BP:=hide (below_putM hB (b:=w.heap.size+1) (by omega) (.int .i64 r) (.int .i64 c) (.slice (some ⟨g,0,none⟩) n n))
 clear hB hX hb hg hr XP HB HX K2 HG1
 go_wp2
 exact bodyPost_ret (v:=.tuple #[.agg #[.int .i64 r,.int .i64 c,.slice (some ⟨g,0,none⟩) n n],.int .i64 0]) (by simp [results,Tryz.results196,go_sem,z0,z1,z2]) rfl ⟨_,rfl,uH HG,uH Q,uH BP⟩
theorem apM_lt {r c:Nat} {S:List Nat} (hS:∀ p q,elM c S p q < 18446744073709551616) (i k:Nat) (vs:List Nat) (tau:Nat):∀ x ∈ apM r c S i k vs tau,x < 18446744073709551616:=by
 intro x hx
 unfold apM mkM at hx
 obtain ⟨p,_,rfl⟩:=List.mem_map.1 hx
 show (if _ then _ else _) < _
 split
 ·rename_i g
  exact apL_lt c S i _ vs tau (by omega) hS
 ·exact hS _ _
theorem pa_col (c:Nat) (S:List Nat) (i d n:Nat):paM c S i d n 1 = colL c S i n d:=by
 unfold paM mkM colL
 rw [Nat.mul_one]
 refine List.map_congr_left (fun p _=>?_)
 show elM c S (i+p / 1) (d+p % 1) = _
 rw [Nat.div_one,Nat.mod_one,Nat.add_zero]
theorem hApply_row (r c cap i k vc tau:Nat) (ao vo:Option Addr) (S vs:List Nat) (w:World) (h:Mx w ao cap r c S) (hV:BitsAt w vo vc (mxL vs)) (hi:i+vs.length≤r) (hk:k≤c) (ht:tau < 18446744073709551616) (hT:Tab w) :
  Calls Tryz.prog 196 #[.agg #[.int .i64 r,.int .i64 c,.slice ao S.length cap],.int .i64 i,.int .i64 k,.slice vo vs.length vc,.int .u64 tau] w fun e w'=>∃ g,e = .returned (.tuple #[.agg #[.int .i64 r,.int .i64 c,.slice (some ⟨g,0,none⟩) S.length S.length],.int .i64 0])∧w.heap.size+2≤g∧RowB w' g (apM r c S i k vs tau)∧Below w.heap.size w w':=by
 have h36:=h.small
 have r6:=h.2.2.1
 have c6:=h.2.2.2
 refine happly_of r c S.length cap i k vs.length vc tau ao vo (apM r c S i k vs tau) w r6 hi hk (fun w'=>?_) (fun w' hb=>?_)
 ·have:=mcheck_any (r:Int) (c:Int) ao S.length cap w' (by omega)
  rw [if_pos (mx_ok h)] at this
  exact this
 have hM:=h.below hb
 have hV':=hV.below hb
 have hT':=hT.all hb
 rw [← apJ_all r c S i k vs tau c (Nat.le_refl _)]
 refine mirrored_of r c S.length cap i k vs.length vc tau ao vo (fun d j=>apJ r c S i k vs tau d j) (fun d=>mxL (colL c S i vs.length d)) (fun d j=>(i+j) * c+d) (fun d j=>(apL c S i d vs tau).getD j 0) (fun d=>mV tau (dtV 0 vs (colL c S i vs.length d))) w' h36 c6 r6 hi hk
  (by show BitsAt w' ao cap (mxL (apJ r c S i k vs tau k 0));rw [apJ_0 r c S i k vs tau h.2.1];exact hM.1) (fun d j=>by rw [apJ_len,h.2.1]) (fun d=>apJ_next r c S i k vs tau d)
  (fun d j hd hdc hj=>⟨by rw [h.2.1];exact place_lt (by omega) hdc,rfl,apJ_set r c S hi hdc hd hj⟩) (fun w'' d hb2 hd hdc=>?_) (fun w'' d po pc hb2 hd hdc hX=>?_) (fun w'' d j po pc bx bt bv hb2 hd hdc hj hX hx ht' hv=>?_)
 ·refine (mPart_ok r c cap i d vs.length 1 ao S w'' (hM.below hb2) hi (by omega)).mono ?_
  rintro e w3 ⟨v,rfl,⟨po,pc,rfl,hn,hx⟩,hb3⟩
  rw [pa_col] at hn hx ⊢
  rw [colL_len]
  exact ⟨po,pc,rfl,hn,hx,hb3⟩
 ·have I:=himage_any po vo pc vc tau (colL c S i vs.length d) vs w'' hX (hV'.below hb2) (colL_len _ _ _ _ _) (by omega) ht (hT'.all hb2)
  rw [colL_len] at I
  exact I
 ·have hV2:=hV'.below hb2
  have hT2:=hT'.all hb2
  obtain ⟨b1,o1,e1,_,z1⟩:=hX.ne (by rw [mxL_len,colL_len];omega)
  obtain ⟨b2,o2,e2,_,z2⟩:=hV2.ne (by rw [mxL_len];omega)
  subst e1
  subst e2
  have q1:=z1 j (by rw [mxL_len,colL_len];exact hj)
  have q2:=z2 j (by rw [mxL_len];exact hj)
  rw [mxL_at,colL_at c S i vs.length d hj] at q1
  rw [mxL_at] at q2
  have lv:vs.getD j 0 < 18446744073709551616:=by
   have:=hV.lt j
   rwa [mxL_at] at this
  show Calls _ _ _ w'' fun e w3=>e = .returned (.int .u64 ((apL c S i d vs tau).getD j 0:Nat))∧_
  rw [apL_at c S i d vs tau hj]
  exact himage1_of _ _ _ (mV (mV tau (dtV 0 vs (colL c S i vs.length d))) (vs.getD j 0)) _ j vs.length vs.length pc vc bx bv bt b1 o1 b2 o2 w'' hj hj hx hv ht' q1 q2
   (fun w3 hb3=>vmul_any _ _ w3 (mV_lt _ _) lv (hT2.all hb3)) (fun w3 hb3=>psub_any _ _ w3 (h.el_lt _ _) (mV_lt _ _) (hT2.all hb3))
theorem hApply_ok (r c cap i k vc tau:Nat) (ao vo:Option Addr) (S vs:List Nat) (w:World) (h:Mx w ao cap r c S) (hV:BitsAt w vo vc (mxL vs)) (hi:i+vs.length≤r) (hk:k≤c) (ht:tau < 18446744073709551616) (hT:Tab w) :
  Calls Tryz.prog 196 #[.agg #[.int .i64 r,.int .i64 c,.slice ao S.length cap],.int .i64 i,.int .i64 k,.slice vo vs.length vc,.int .u64 tau] w fun e w'=>∃ v,e = .returned (.tuple #[v,.int .i64 0])∧NewM w.heap.size w' r c (apM r c S i k vs tau) v∧Below w.heap.size w w':=by
 refine (hApply_row r c cap i k vc tau ao vo S vs w h hV hi hk ht hT).mono ?_
 rintro e w' ⟨g,rfl,hg,hr,hb⟩
 have l:S.length = (apM r c S i k vs tau).length:=by rw [apM_len,h.2.1]
 have hr2:=hr.bits (apM_lt (fun p q=>h.el_lt p q) i k vs tau)
 refine ⟨_,rfl,⟨_,S.length,by rw [l],.inr ⟨g,0,rfl,by omega⟩,?_⟩,hb⟩
 rw [l]
 exact hr2
end Go.Proofs.YtcbcmlaogehimaaGreatDoor
namespace Go.Proofs.YtcbcmlaogehimaaGreatDoor
open Go.RowKit
theorem aV_left (a b:Nat) (h:fFin (aV a b) = true):fFin a = true:=by
 by_cases h4:fK a = 4
 ·unfold aV at h
  rw [if_pos (.inl h4)] at h
  exact absurd h (by decide +kernel)
 by_cases h3:fK a = 3
 ·unfold aV at h
  by_cases hb:fK b = 4
  ·rw [if_pos (.inr hb)] at h
   exact absurd h (by decide +kernel)
  ·rw [if_neg (fun e=>e.elim h4 hb),if_pos h3] at h
   split at h
   ·exact absurd h (by decide +kernel)
   ·exact h
 exact fin_of a h3 h4
theorem finL_all (xs:List Nat):finL xs = true ↔ ∀ k,k < xs.length→fFin (xs.getD k 0) = true:=by
 unfold finL
 rw [fnK_all]
 exact ⟨fun h k hk=>by have:=h k hk;rwa [mxL_at] at this,fun h k hk=>by rw [mxL_at];exact h k hk⟩
theorem ap_left {r c:Nat} {S:List Nat} (hl:S.length = r * c) (i k:Nat) (vs:List Nat) (tau:Nat) (h:finL (apM r c S i k vs tau) = true):finL S = true:=by
 rw [finL_all] at h ⊢
 intro x hx
 rw [apM_len] at h
 rw [hl] at hx
 obtain ⟨h1,h2,h3⟩:=place_in hx
 have hf:fFin (elM c (apM r c S i k vs tau) (x / c) (x % c)) = true:=by
  have:=h x hx
  unfold elM
  rwa [h3]
 rw [el_ap r c S i k vs tau h1 h2] at hf
 have e:S.getD x 0 = elM c S (x / c) (x % c):=by unfold elM;rw [h3]
 rw [e]
 split at hf
 ·rename_i g
  rw [apL_at c S i (x % c) vs tau (j:=x / c - i) (by omega)] at hf
  have:=aV_left _ _ hf
  rwa [show i+(x / c - i) = x / c by omega] at this
 ·exact hf
theorem qrQ_left (r c:Nat) (S:List Nat) (K:Nat):∀ t d,finL (qrQ r c S K (t+d)) = true→finL (qrQ r c S K t) = true:=by
 intro t d
 induction d with
 | zero=>exact fun h=>h
 | succ d ih=>exact fun h=>ih (ap_left (qrQ_len r c S K (t+d)) _ _ _ _ h)
theorem pa_self (r c:Nat) (S:List Nat) (h:S.length = r * c):paM c S 0 0 r c = S:=by
 conv=>rhs;rw [← mkM_of r c S h]
 unfold paM
 refine mkM_congr (fun p q _ _=>?_)
 rw [Nat.zero_add,Nat.zero_add]
 rfl
theorem triangle_any (r c cap:Nat) (ao:Option Addr) (S:List Nat) (w:World) (h:Mx w ao cap r c S) (hT:Tab w) :
  Calls Tryz.prog 151 #[.agg #[.int .i64 r,.int .i64 c,.slice ao S.length cap]] w fun e w'=>TriAns w w' (qrK r c S (qrN r c)) r c S.length (qrN r c) (facR r c S) (fun j=>mrV (qrX r c S j)) (fun j=>mrT (qrX r c S j)) e∧Below w.heap.size w w':=by
 have hl:=h.2.1
 have r6:=h.2.2.1
 have c6:=h.2.2.2
 have lR:=fun j=>(qrR_len r c S hl j).trans hl.symm
 have lX:∀ j,(qrX r c S j).length = r - j:=qrX_len r c S
 have lV:∀ j,(mrV (qrX r c S j)).length = r - j:=fun j=>by rw [mrV_len,lX]
 refine qtri_of r c S.length cap (qrN r c) (min (c:Int) ((r:Int) - 1)) ao (qrR r c S) (fun j=>mrV (qrX r c S j)) (fun j=>mrT (qrX r c S j)) (fun j=>finL (qrX r c S j) && mrK (qrX r c S j)) (qrK r c S (qrN r c)) w r6 c6 rfl (fun j=>by rw [qrN_lt];omega) lR lV (fun j _=>qrR_lt h.1.nat (j+1)) ?_ ?_ ?_
 ·rw [qrK_all]
  exact ⟨fun q j hj=>by rw [(q j hj).1,(q j hj).2];rfl,fun q j hj=>by have:=q j hj;rwa [Bool.and_eq_true] at this⟩
 ·intro w' hb
  refine (mPart_ok r c cap 0 0 r c ao S w' (h.below hb) (by omega) (by omega)).mono ?_
  rintro e w'' ⟨v,rfl,⟨po,pc,rfl,hn,hx⟩,hb2⟩
  rw [pa_self r c S hl] at hn hx ⊢
  exact ⟨po,pc,rfl,hn,hx,hb2⟩
 ·intro w1 j po pc hj hb1 hp
  have hj2:=(qrN_lt r c j).1 hj
  have hT1:=hT.all hb1
  refine down_of r c S.length pc j (r - j) (mrT (qrX r c S j)) (mrB (qrX r c S j)) po (qrR r c S j) (apM r c (qrR r c S j) j j (mrV (qrX r c S j)) (mrT (qrX r c S j))) (qrR r c S (j+1)) (qrX r c S j) (mrV (qrX r c S j)) _ w1 r6 (by omega) rfl hp (fun w' hb=>?_) (fun w' bo d ho hb hx=>?_) (fun w' bo d ho hb hx=>?_) (fun w' vo vc hb hp hv=>?_) (fun w' g hrow=>?_)
  ·have:=mPart_ok r c pc j j (r - j) 1 po (qrR r c S j) w' ⟨hb,qrR_len r c S hl j,r6,c6⟩ (by omega) (by omega)
   rw [lR j] at this
   refine this.mono ?_
   rintro e w'' ⟨v,rfl,⟨bo,d,rfl,hn,hx⟩,hb2⟩
   rw [pa_col] at hx ⊢
   rw [colL_len]
   exact ⟨bo,d,rfl,hx,hb2⟩
  ·rw [Bool.and_eq_true] at ho
   have:=hMake_ok bo d (mxL (qrX r c S j)) w' hx (by rw [mxL_len,lX];omega) (by rw [mxL_len,lX];omega) (by rw [mxL_len];exact ho.1) (by rw [toN_mxL];exact ho.2) (hT1.all hb)
   rw [toN_mxL,mxL_len,lX] at this
   exact this
  ·cases hf:finL (qrX r c S j)
   ·have:=hMake_inf bo d (mxL (qrX r c S j)) w' hx (by rw [mxL_len,lX];omega) (by rw [mxL_len,lX];omega) (by rw [mxL_len];exact hf)
    rw [mxL_len,lX] at this
    refine this.mono ?_
    rintro e w'' ⟨so,cs,rfl,hb2⟩
    exact ⟨so,cs,4,rfl,.inr rfl,hb2⟩
   ·have hk:mrK (qrX r c S j) = false:=by
     have:=ho
     rw [hf,Bool.true_and] at this
     exact this
    have:=hMake_none bo d (mxL (qrX r c S j)) w' hx (by rw [mxL_len,lX];omega) (by rw [mxL_len,lX];omega) (by rw [mxL_len];exact hf) (by rw [toN_mxL];exact hk) (hT1.all hb)
    rw [mxL_len,lX] at this
    refine this.mono ?_
    rintro e w'' ⟨so,cs,rfl,hb2⟩
    exact ⟨so,cs,2,rfl,.inl rfl,hb2⟩
  ·have:=hApply_row r c pc j j vc (mrT (qrX r c S j)) po vo (qrR r c S j) (mrV (qrX r c S j)) w' ⟨hp,qrR_len r c S hl j,r6,c6⟩ hv (by rw [lV];omega) (by omega) (mrT_lt _) (hT1.all hb)
   rw [lR j,lV] at this
   refine this.mono ?_
   rintro e w'' ⟨g,rfl,hg,hr,hb2⟩
   exact ⟨g,rfl,by omega,hr,hb2⟩
  ·have:=settle_any r c j (mrB (qrX r c S j)) g _ w' r6 c6 (by omega) (by omega) (apM_len r c (qrR r c S j) j j (mrV (qrX r c S j)) (mrT (qrX r c S j))) hrow
   rw [apM_len,← hl] at this
   exact this
theorem upright_any (r c lc:Nat) (lo:Option Addr) (S:List Nat) (R:List Mr) (w:World) (hr:r≤6) (hc:c≤6) (hl:OwnMt 0 w (.slice lo (qrN r c) lc) R) (hRl:R.length = qrN r c) (hRm:∀ k,k < qrN r c→(mrAt R k).V = mrV (qrX r c S k)∧(mrAt R k).tau = mrT (qrX r c S k)) (hT:Tab w) :
  Calls Tryz.prog 152 #[.int .i64 r,.slice lo (qrN r c) lc] w fun e w'=>∃ Q qo qc,(Q = facQ r c S ∨ (fnK (mxL Q) (r * r) = false∧finL (facQ r c S) = false))∧Q.length = r * r∧e = .returned (.agg #[.int .i64 r,.int .i64 r,.slice qo (r * r) qc])∧NewB w.heap.size qo (mxL Q)∧BitsAt w' qo qc (mxL Q)∧Below w.heap.size w w':=by
 have lX:∀ j,(qrX r c S j).length = r - j:=qrX_len r c S
 have lV:∀ j,(mrV (qrX r c S j)).length = r - j:=fun j=>by rw [mrV_len,lX]
 have hK:qrN r c≤6:=by unfold qrN;omega
 refine (upright_of r (r * r) (qrN r c) lc lo (fun j=>mrV (qrX r c S j)) (qrQ r c S (qrN r c)) (fun j=>mrT (qrX r c S j)) R w (Nat.mul_le_mul hr hr) hK hl hRl hRm (qrQ_len r c S _) lV ?_ ?_ (fun w' x hx=>sfinite_any x w' hx)).mono ?_
 ·intro w'
  refine (mEye_ok r w' hr).mono ?_
  rintro e w'' ⟨v,rfl,⟨qo,qc,rfl,hn,hb⟩,hb2⟩
  exact ⟨qo,qc,by rw [show (eyM r).length = r * r from mkM_len r r _],hn,hb,hb2⟩
 ·intro w' t j po pc vo vc ht hj hb hp hv
  have hj2:=(qrN_lt r c j).1 (by omega)
  have:=hApply_ok r r pc j 0 vc (mrT (qrX r c S j)) po vo (qrQ r c S (qrN r c) t) (mrV (qrX r c S j)) w' ⟨hp,qrQ_len r c S _ t,hr,hr⟩ hv (by rw [lV];omega) (by omega) (mrT_lt _) (hT.all hb)
  rw [qrQ_len,lV] at this
  refine this.mono ?_
  rintro e w'' ⟨v,rfl,⟨qo,qc,rfl,hn,hx⟩,hb2⟩
  rw [apM_len]
  have e:apM r r (qrQ r c S (qrN r c) t) j 0 (mrV (qrX r c S j)) (mrT (qrX r c S j)) = qrQ r c S (qrN r c) (t+1):=by
   show _ = apM r r (qrQ r c S (qrN r c) t) (qrN r c - 1 - t) 0 (mrV (qrX r c S (qrN r c - 1 - t))) (mrT (qrX r c S (qrN r c - 1 - t)))
   rw [← hj]
  rw [e] at hn hx
  exact ⟨qo,qc,rfl,hn,hx,hb2⟩
 ·rintro e w' ⟨t,qo,qc,ht,hor,rfl,hn,hx,hb⟩
  refine ⟨_,qo,qc,?_,qrQ_len r c S _ t,rfl,hn,hx,hb⟩
  rcases hor with e | e
  ·left;rw [e];rfl
  ·right
   refine ⟨e,?_⟩
   cases hf:finL (facQ r c S)
   ·rfl
   ·have h2:=qrQ_left r c S (qrN r c) t (qrN r c - t) (by rw [show t+(qrN r c - t) = qrN r c by omega];exact hf)
    unfold finL at h2
    rw [qrQ_len,e] at h2
    cases h2
theorem qFactor_row (r c cap:Nat) (ao:Option Addr) (S:List Nat) (w:World) (h:Mx w ao cap r c S) (hf:finL S = true) (hT:Tab w) :
  Calls Tryz.prog 94 #[.agg #[.int .i64 r,.int .i64 c,.slice ao S.length cap]] w fun e w'=>((facK r c S = true∧FacYes w w' r c S.length (r * r) (qrN r c) (facQ r c S) (facR r c S) e) ∨ (facK r c S = false∧∃ v u,e = .returned (.tuple #[v,u,.int .i64 2])∧NewM w.heap.size w' 0 0 [] v∧NewM w.heap.size w' 0 0 [] u))∧Below w.heap.size w w':=by
 have hl:=h.2.1
 have r6:=h.2.2.1
 have c6:=h.2.2.2
 have h36:=h.small
 have hq36:r * r≤36:=Nat.mul_le_mul r6 r6
 have lr:(facR r c S).length = S.length:=(qrR_len r c S hl _).trans hl.symm
 have hck:ckE (r:Int) (c:Int) (mxL S) = 0:=by
  unfold ckE
  rw [mxL_len,mx_ok h]
  have:fnK (mxL S) S.length = true:=hf
  rw [this]
  rfl
 refine factor_of r c S.length (r * r) (qrN r c) cap ao (facR r c S) (facQ r c S) (fun j=>mrV (qrX r c S j)) (fun j=>mrT (qrX r c S j)) (qrK r c S (qrN r c)) (finL (facQ r c S)) (finL (facR r c S)) w lr (qrQ_len _ _ _ _ _) (by unfold finL;rw [show (facQ r c S).length = r * r from qrQ_len _ _ _ _ _]) ?_ (fun w' hb=>triangle_any r c cap ao S w' (h.below hb) (hT.all hb)) (fun w' lo lc R hb h1 h2 h3=>upright_any r c lc lo S R w' r6 c6 h1 h2 h3 (hT.all hb)) ?_ ?_
 ·intro w' hb
  have:=ccheck_any r c ao cap (mxL S) w' (h.1.below hb) (by rw [mxL_len];omega)
  rw [mxL_len,hck] at this
  exact this
 ·intro w' Q qo qc hb hl2
  have:=vFinite_any qo qc (mxL Q) w' hb (by rw [mxL_len];omega)
  rw [mxL_len,hl2] at this
  exact this
 ·intro w' ro rc hb
  have:=vFinite_any ro rc (mxL (facR r c S)) w' hb (by rw [mxL_len];omega)
  unfold finL
  rw [mxL_len,lr] at this
  rw [lr]
  exact this
theorem qFactor_any (r c cap:Nat) (ao:Option Addr) (S:List Nat) (w:World) (h:Mx w ao cap r c S) (hf:finL S = true) (hT:Tab w) :
  Calls Tryz.prog 94 #[.agg #[.int .i64 r,.int .i64 c,.slice ao S.length cap]] w fun e w'=>((facK r c S = true∧∃ v u,e = .returned (.tuple #[v,u,.int .i64 0])∧NewM w.heap.size w' r r (facQ r c S) v∧NewM w.heap.size w' r c (facR r c S) u) ∨ (facK r c S = false∧∃ v u,e = .returned (.tuple #[v,u,.int .i64 2])∧NewM w.heap.size w' 0 0 [] v∧NewM w.heap.size w' 0 0 [] u))∧Below w.heap.size w w':=by
 refine (qFactor_row r c cap ao S w h hf hT).mono ?_
 rintro e w' ⟨⟨hk,h1⟩ | h1,hb⟩
 ·exact ⟨.inl ⟨hk,h1.two (qrQ_len _ _ _ _ _) ((qrR_len r c S h.2.1 _).trans h.2.1.symm)⟩,hb⟩
 ·exact ⟨.inr h1,hb⟩
theorem qFactor_yes (r c cap:Nat) (ao:Option Addr) (S:List Nat) (w:World) (h:Mx w ao cap r c S) (hf:finL S = true) (hk:facK r c S = true) (hT:Tab w) :
  Calls Tryz.prog 94 #[.agg #[.int .i64 r,.int .i64 c,.slice ao S.length cap]] w fun e w'=>∃ v u,e = .returned (.tuple #[v,u,.int .i64 0])∧NewM w.heap.size w' r r (facQ r c S) v∧NewM w.heap.size w' r c (facR r c S) u∧Below w.heap.size w w':=by
 refine (qFactor_any r c cap ao S w h hf hT).mono ?_
 rintro e w' ⟨⟨_,v,u,rfl,h1,h2⟩ | ⟨hk2,_⟩,hb⟩
 ·exact ⟨v,u,rfl,h1,h2,hb⟩
 ·rw [hk] at hk2;cases hk2
theorem qFactor_no (r c cap:Nat) (ao:Option Addr) (S:List Nat) (w:World) (h:Mx w ao cap r c S) (hf:finL S = true) (hk:facK r c S = false) (hT:Tab w) :
  Calls Tryz.prog 94 #[.agg #[.int .i64 r,.int .i64 c,.slice ao S.length cap]] w fun e w'=>∃ v u,e = .returned (.tuple #[v,u,.int .i64 2])∧NewM w.heap.size w' 0 0 [] v∧NewM w.heap.size w' 0 0 [] u∧Below w.heap.size w w':=by
 refine (qFactor_any r c cap ao S w h hf hT).mono ?_
 rintro e w' ⟨⟨hk2,_⟩ | ⟨_,v,u,rfl,h1,h2⟩,hb⟩
 ·rw [hk] at hk2;cases hk2
 ·exact ⟨v,u,rfl,h1,h2,hb⟩
theorem qThin_yes (r c cap:Nat) (ao:Option Addr) (S:List Nat) (w:World) (h:Mx w ao cap r c S) (hf:finL S = true) (hk:facK r c S = true) (hT:Tab w) :
  Calls Tryz.prog 49 #[.agg #[.int .i64 r,.int .i64 c,.slice ao S.length cap]] w fun e w'=>∃ v u,e = .returned (.tuple #[v,u,.int .i64 0])∧NewM w.heap.size w' r (min r c) (paM r (facQ r c S) 0 0 r (min r c)) v∧NewM w.heap.size w' (min r c) c (paM c (facR r c S) 0 0 (min r c) c) u∧Below w.heap.size w w':=by
 have r6:=h.2.2.1
 have c6:=h.2.2.2
 have lq:(facQ r c S).length = r * r:=qrQ_len _ _ _ _ _
 have lr:(facR r c S).length = r * c:=qrR_len r c S h.2.1 _
 refine thin_of r c S.length cap (min r c) (r * r) (r * c) (r * min r c) (min r c * c) ao (facQ r c S) (facR r c S) _ _ w (by omega) lq lr (mkM_len _ _ _) (mkM_len _ _ _) (fun w' hb=>qFactor_yes r c cap ao S w' (h.below hb) hf hk (hT.all hb)) (fun w' qo qc hq=>?_) (fun w' ro rc hr=>?_)
 ·have:=mPart_ok r r qc 0 0 r (min r c) qo (facQ r c S) w' ⟨hq,lq,r6,r6⟩ (by omega) (by omega)
  rw [lq] at this
  exact this
 ·have:=mPart_ok r c rc 0 0 (min r c) c ro (facR r c S) w' ⟨hr,lr,r6,c6⟩ (by omega) (by omega)
  rw [lr] at this
  exact this
theorem qThin_no (r c cap:Nat) (ao:Option Addr) (S:List Nat) (w:World) (h:Mx w ao cap r c S) (hf:finL S = true) (hk:facK r c S = false) (hT:Tab w) :
  Calls Tryz.prog 49 #[.agg #[.int .i64 r,.int .i64 c,.slice ao S.length cap]] w fun e w'=>∃ v u,e = .returned (.tuple #[v,u,.int .i64 2])∧NewM w.heap.size w' 0 0 [] v∧NewM w.heap.size w' 0 0 [] u∧Below w.heap.size w w' :=
 thin_err r c ao S.length cap 2 w (.inr (.inr rfl)) (fun w' hb=>qFactor_no r c cap ao S w' (h.below hb) hf hk (hT.all hb))
theorem qTurned_yes (r c s cap d:Nat) (ao bo:Option Addr) (S T:List Nat) (w:World) (h:Mx w ao cap r c S) (h2:Mx w bo d r s T) (hT:Tab w) :
  Calls Tryz.prog 51 #[.agg #[.int .i64 r,.int .i64 c,.slice ao S.length cap],.agg #[.int .i64 r,.int .i64 s,.slice bo T.length d]] w fun e w'=>∃ v,e = .returned (.tuple #[v,.int .i64 0])∧NewM w.heap.size w' c s (muM c r s (tuM r c S) T) v∧Below w.heap.size w w':=by
 have lt:(tuM r c S).length = c * r:=mkM_len _ _ _
 refine qturned_of r c ao S.length cap r s bo T.length d (c * r) _ c r c s (tuM r c S) (muM c r s (tuM r c S) T) 0 w lt rfl (fun w' hb=>mTurn_ok r c cap ao S w' (h.below hb)) (fun w' po pc hb hx=>?_)
 have:=mMul_ok c r pc s d po bo (tuM r c S) T w' ⟨hx,lt,h.2.2.2,h.2.2.1⟩ (h2.below hb) (hT.all hb)
 rw [lt] at this
 exact this
end Go.Proofs.YtcbcmlaogehimaaGreatDoor
namespace Go.Proofs.YtcbcmlaogehimaaGreatDoor
open Go.RowKit
def BoxL (ty:TypeId) (w:World) (b:Nat) (xs:List Value):Prop:=w.heap[b]? = some (.cells xs.toArray ty (0,0))
theorem BoxL.c {ty:TypeId} {w:World} {b:Nat} {xs:List Value} (h:BoxL ty w b xs) (i:Nat) {v:Value} (hv:xs[i]? = some v):w.cell? ⟨b,i,none⟩ = some v:=by
 rw [cell_of_row w b i _ _ _ h]
 simpa using hv
theorem BoxL.lt {ty:TypeId} {w:World} {b:Nat} {xs:List Value} (h:BoxL ty w b xs):b < w.heap.size:=(Array.getElem?_eq_some_iff.1 h).1
theorem BoxL.below {ty:TypeId} {w w':World} {b:Nat} {xs:List Value} (h:BoxL ty w b xs) {B:Nat} (hb:Below B w w') (hlt:b < B):BoxL ty w' b xs:=(hb.block b hlt).trans h
theorem BoxL.all {ty:TypeId} {w w':World} {b:Nat} {xs:List Value} (h:BoxL ty w b xs) (hb:Below w.heap.size w w'):BoxL ty w' b xs:=h.below hb h.lt
theorem BoxL.new (ty:TypeId) (w:World) (xs:List Value):BoxL ty (w.alloc (.cells xs.toArray ty)) w.heap.size xs:=heap_alloc_new w _
end Go.Proofs.YtcbcmlaogehimaaGreatDoor
namespace Go.Proofs.YtcbcmlaogehimaaGreatDoor
open Go.RowKit
attribute [local go_sem ↓] Go.wp_at_zero Go.wp_at_succ
structure Ma where
 r:Int
 c:Int
 o:Option Addr
 n:Nat
 k:Nat
def tgB (a b c d:Ma):Bool:=decide (b.c = a.c∧c.r = a.r∧d.r = b.r∧c.c = 1∧d.c = 1∧b.r≤a.c∧a.c≤a.r+b.r)
def lsE (x y z u:Int) (tg:Bool):Int:=if x ≠ 0 then x else if y ≠ 0 then y else if z ≠ 0 then z else if u ≠ 0 then u else if tg = true then 0 else 3
theorem goTo_any (a b c d:Ma) (w:World) (ha:0≤a.r∧a.r≤6) (hb:0≤b.r∧b.r≤6) :
  Calls Tryz.prog 70 #[.agg #[.int .i64 a.r,.int .i64 a.c,.slice a.o a.n a.k,.int .i64 b.r,.int .i64 b.c,.slice b.o b.n b.k,.int .i64 c.r,.int .i64 c.c,.slice c.o c.n c.k,.int .i64 d.r,.int .i64 d.c,.slice d.o d.n d.k]] w fun e w'=>e = .returned (.bool (tgB a b c d))∧Below w.heap.size w w':=by
 have b0:=below_alloc9 w (.cells #[.int .i64 a.r,.int .i64 a.c,.slice a.o a.n a.k,.int .i64 b.r,.int .i64 b.c,.slice b.o b.n b.k,.int .i64 c.r,.int .i64 c.c,.slice c.o c.n c.k,.int .i64 d.r,.int .i64 d.c,.slice d.o d.n d.k] 53)
 have HX:=hide (BoxL.new 53 w [.int .i64 a.r,.int .i64 a.c,.slice a.o a.n a.k,.int .i64 b.r,.int .i64 b.c,.slice b.o b.n b.k,.int .i64 c.r,.int .i64 c.c,.slice c.o c.n c.k,.int .i64 d.r,.int .i64 d.c,.slice d.o d.n d.k])
 have HB:=hide b0
 clear b0
 go_enter Tryz.func70,Tryz.ntmps70
 go_wp2_with fail
 generalize hw1:w.alloc (.cells #[.int .i64 a.r,.int .i64 a.c,.slice a.o a.n a.k,.int .i64 b.r,.int .i64 b.c,.slice b.o b.n b.k,.int .i64 c.r,.int .i64 c.c,.slice c.o c.n c.k,.int .i64 d.r,.int .i64 d.c,.slice d.o d.n d.k] 53) = w1 at *
 clear hw1
 have hd:=(Below.refl w1.heap.size w1).drew
 replace HX:=hide ((uH HX).all hd)
 replace HB:=hide ((uH HB).trans (hd.mono (uH HB).size))
 clear hd
 refine wp_region_held_drew (S:=(fun w'=>w'.cell? ⟨w.heap.size,0,none⟩ = some (.int .i64 a.r)∧w'.cell? ⟨w.heap.size,1,none⟩ = some (.int .i64 a.c)∧w'.cell? ⟨w.heap.size,3,none⟩ = some (.int .i64 b.r))) (by kernel_rfl) ?_ (fun hHeld=>?_)
 ·exact ⟨(uH HX).c 0 rfl,(uH HX).c 1 rfl,(uH HX).c 3 rfl⟩
 refine wpAnyH_take (i:=0) (oi:={ dst:=some 6,op:=Op.fieldAddr 53 (Operand.tmp 1) 0,type:=0,pos := "lse.go:51",after:=#[],guard:=none }) (v:=(Value.pointer (some ⟨w.heap.size,0,none⟩))) rfl (by kernel_rfl) (by kernel_rfl) (by kernel_rfl) (fun _ _ _ h=>h) (Or.inl ⟨by rfl,?_⟩) (by assumption) ?_
 ·(intro w hSw;(try dsimp only at hSw);go_simp)
 simp only [Act.put,List.setIfInBounds_toArray,List.set_cons_zero,List.set_cons_succ]
 refine wpAnyH_take (i:=1) (oi:={ dst:=some 7,op:=Op.fieldAddr 24 (Operand.tmp 6) 0,type:=0,pos := "lse.go:51",after:=#[{ on:=0,ground:=Ground.data }],guard:=none }) (v:=(Value.pointer (some ⟨w.heap.size,0,none⟩))) rfl (by kernel_rfl) (by kernel_rfl) (by kernel_rfl) (fun _ _ _ h=>h) (Or.inl ⟨by rfl,?_⟩) (by assumption) ?_
 ·(intro w hSw;(try dsimp only at hSw);go_simp)
 simp only [Act.put,List.setIfInBounds_toArray,List.set_cons_zero,List.set_cons_succ]
 refine wpAnyH_take (i:=2) (oi:={ dst:=some 8,op:=Op.load 3 (Operand.tmp 7),type:=3,pos := "lse.go:51",after:=#[{ on:=1,ground:=Ground.data }],guard:=none }) (v:=(Value.int .i64 a.r)) rfl (by kernel_rfl) (by kernel_rfl) (by kernel_rfl) (fun _ _ _ h=>h) (Or.inl ⟨by rfl,?_⟩) (by assumption) ?_
 ·(intro w hSw;(try dsimp only at hSw);go_simp)
 simp only [Act.put,List.setIfInBounds_toArray,List.set_cons_zero,List.set_cons_succ]
 refine wpAnyH_take (i:=3) (oi:={ dst:=some 9,op:=Op.fieldAddr 53 (Operand.tmp 1) 0,type:=0,pos := "lse.go:51",after:=#[{ on:=9,ground:=Ground.gcOnly Departure.lateStores }],guard:=none }) (v:=(Value.pointer (some ⟨w.heap.size,0,none⟩))) rfl (by kernel_rfl) (by kernel_rfl) (by kernel_rfl) (fun _ _ _ h=>h) (Or.inl ⟨by rfl,?_⟩) (by assumption) ?_
 ·(intro w hSw;(try dsimp only at hSw);go_simp)
 simp only [Act.put,List.setIfInBounds_toArray,List.set_cons_zero,List.set_cons_succ]
 refine wpAnyH_take (i:=4) (oi:={ dst:=some 10,op:=Op.fieldAddr 24 (Operand.tmp 9) 1,type:=0,pos := "lse.go:51",after:=#[{ on:=3,ground:=Ground.data },{ on:=9,ground:=Ground.gcOnly Departure.lateStores }],guard:=none }) (v:=(Value.pointer (some ⟨w.heap.size,1,none⟩))) rfl (by kernel_rfl) (by kernel_rfl) (by kernel_rfl) (fun _ _ _ h=>h) (Or.inl ⟨by rfl,?_⟩) (by assumption) ?_
 ·(intro w hSw;(try dsimp only at hSw);go_simp)
 simp only [Act.put,List.setIfInBounds_toArray,List.set_cons_zero,List.set_cons_succ]
 refine wpAnyH_take (i:=5) (oi:={ dst:=some 11,op:=Op.load 3 (Operand.tmp 10),type:=3,pos := "lse.go:51",after:=#[{ on:=4,ground:=Ground.data },{ on:=9,ground:=Ground.gcOnly Departure.lateStores }],guard:=none }) (v:=(Value.int .i64 a.c)) rfl (by kernel_rfl) (by kernel_rfl) (by kernel_rfl) (fun _ _ _ h=>h) (Or.inl ⟨by rfl,?_⟩) (by assumption) ?_
 ·(intro w hSw;(try dsimp only at hSw);go_simp)
 simp only [Act.put,List.setIfInBounds_toArray,List.set_cons_zero,List.set_cons_succ]
 refine wpAnyH_take (i:=6) (oi:={ dst:=some 12,op:=Op.fieldAddr 53 (Operand.tmp 1) 1,type:=0,pos := "lse.go:51",after:=#[{ on:=10,ground:=Ground.gcOnly Departure.lateStores }],guard:=none }) (v:=(Value.pointer (some ⟨w.heap.size,3,none⟩))) rfl (by kernel_rfl) (by kernel_rfl) (by kernel_rfl) (fun _ _ _ h=>h) (Or.inl ⟨by rfl,?_⟩) (by assumption) ?_
 ·(intro w hSw;(try dsimp only at hSw);go_simp)
 simp only [Act.put,List.setIfInBounds_toArray,List.set_cons_zero,List.set_cons_succ]
 refine wpAnyH_take (i:=7) (oi:={ dst:=some 13,op:=Op.fieldAddr 24 (Operand.tmp 12) 0,type:=0,pos := "lse.go:51",after:=#[{ on:=6,ground:=Ground.data },{ on:=10,ground:=Ground.gcOnly Departure.lateStores }],guard:=none }) (v:=(Value.pointer (some ⟨w.heap.size,3,none⟩))) rfl (by kernel_rfl) (by kernel_rfl) (by kernel_rfl) (fun _ _ _ h=>h) (Or.inl ⟨by rfl,?_⟩) (by assumption) ?_
 ·(intro w hSw;(try dsimp only at hSw);go_simp)
 simp only [Act.put,List.setIfInBounds_toArray,List.set_cons_zero,List.set_cons_succ]
 refine wpAnyH_take (i:=8) (oi:={ dst:=some 14,op:=Op.load 3 (Operand.tmp 13),type:=3,pos := "lse.go:51",after:=#[{ on:=7,ground:=Ground.data },{ on:=10,ground:=Ground.gcOnly Departure.lateStores }],guard:=none }) (v:=(Value.int .i64 b.r)) rfl (by kernel_rfl) (by kernel_rfl) (by kernel_rfl) (fun _ _ _ h=>h) (Or.inl ⟨by rfl,?_⟩) (by assumption) ?_
 ·(intro w hSw;(try dsimp only at hSw);go_simp)
 simp only [Act.put,List.setIfInBounds_toArray,List.set_cons_zero,List.set_cons_succ]
 refine wpAnyH_take (i:=9) (oi:={ dst:=some 3,op:=Op.assign (Operand.tmp 8),type:=3,pos := "lse.go:51",after:=#[{ on:=2,ground:=Ground.data },{ on:=0,ground:=Ground.phase },{ on:=1,ground:=Ground.phase },{ on:=2,ground:=Ground.phase },{ on:=3,ground:=Ground.textOnly Departure.lateStores },{ on:=4,ground:=Ground.textOnly Departure.lateStores },{ on:=5,ground:=Ground.textOnly Departure.lateStores },{ on:=6,ground:=Ground.textOnly Departure.lateStores },{ on:=7,ground:=Ground.textOnly Departure.lateStores },{ on:=8,ground:=Ground.textOnly Departure.lateStores }],guard:=none }) (v:=(Value.int .i64 a.r)) rfl (by kernel_rfl) (by kernel_rfl) (by kernel_rfl) (fun _ _ _ h=>h) (Or.inl ⟨by rfl,?_⟩) (by assumption) ?_
 ·(intro w hSw;(try dsimp only at hSw);go_simp)
 simp only [Act.put,List.setIfInBounds_toArray,List.set_cons_zero,List.set_cons_succ]
 refine wpAnyH_take (i:=10) (oi:={ dst:=some 4,op:=Op.assign (Operand.tmp 11),type:=3,pos := "lse.go:51",after:=#[{ on:=5,ground:=Ground.data },{ on:=9,ground:=Ground.chain },{ on:=0,ground:=Ground.phase },{ on:=1,ground:=Ground.phase },{ on:=2,ground:=Ground.phase },{ on:=3,ground:=Ground.phase },{ on:=4,ground:=Ground.phase },{ on:=5,ground:=Ground.phase },{ on:=6,ground:=Ground.textOnly Departure.lateStores },{ on:=7,ground:=Ground.textOnly Departure.lateStores },{ on:=8,ground:=Ground.textOnly Departure.lateStores },{ on:=9,ground:=Ground.phase }],guard:=none }) (v:=(Value.int .i64 a.c)) rfl (by kernel_rfl) (by kernel_rfl) (by kernel_rfl) (fun _ _ _ h=>h) (Or.inl ⟨by rfl,?_⟩) (by assumption) ?_
 ·(intro w hSw;(try dsimp only at hSw);go_simp)
 simp only [Act.put,List.setIfInBounds_toArray,List.set_cons_zero,List.set_cons_succ]
 refine wpAnyH_take (i:=11) (oi:={ dst:=some 5,op:=Op.assign (Operand.tmp 14),type:=3,pos := "lse.go:51",after:=#[{ on:=8,ground:=Ground.data },{ on:=10,ground:=Ground.chain },{ on:=0,ground:=Ground.phase },{ on:=1,ground:=Ground.phase },{ on:=2,ground:=Ground.phase },{ on:=3,ground:=Ground.phase },{ on:=4,ground:=Ground.phase },{ on:=5,ground:=Ground.phase },{ on:=6,ground:=Ground.phase },{ on:=7,ground:=Ground.phase },{ on:=8,ground:=Ground.phase },{ on:=9,ground:=Ground.phase },{ on:=10,ground:=Ground.phase }],guard:=none }) (v:=(Value.int .i64 b.r)) rfl (by kernel_rfl) (by kernel_rfl) (by kernel_rfl) (fun _ _ _ h=>h) (Or.inl ⟨by rfl,?_⟩) (by assumption) ?_
 ·(intro w hSw;(try dsimp only at hSw);go_simp)
 simp only [Act.put,List.setIfInBounds_toArray,List.set_cons_zero,List.set_cons_succ]
 refine wpAnyH_done (by kernel_rfl) ?_ _
 skip
 have hwr:IntKind.i64.wrap (a.r+b.r) = a.r+b.r:=wrap_in _ (by omega)
 have y4:=(uH HX).c 4 rfl
 have y6:=(uH HX).c 6 rfl
 have y7:=(uH HX).c 7 rfl
 have y9:=(uH HX).c 9 rfl
 have y10:=(uH HX).c 10 rfl
 by_cases h0:b.c = a.c
 rotate_left
 ·have g0:((b.c:Int) == a.c) = false:=by simp [h0]
  have k0:decide ((b.c:Int) = a.c) = false:=by simp [h0]
  have hv:tgB a b c d = false:=by
   unfold tgB
   simp
   omega
  go_wp2_with fail
  go_ret
  first | (rw [hv];exact ⟨rfl,uH HB⟩) | exact ⟨rfl,uH HB⟩
 have g0:((b.c:Int) == a.c) = true:=by simp [h0]
 have k0:decide ((b.c:Int) = a.c) = true:=by simp [h0]
 by_cases h1:c.r = a.r
 rotate_left
 ·have g1:((c.r:Int) == a.r) = false:=by simp [h1]
  have k1:decide ((c.r:Int) = a.r) = false:=by simp [h1]
  have hv:tgB a b c d = false:=by
   unfold tgB
   simp
   omega
  go_wp2_with fail
  go_ret
  first | (rw [hv];exact ⟨rfl,uH HB⟩) | exact ⟨rfl,uH HB⟩
 have g1:((c.r:Int) == a.r) = true:=by simp [h1]
 have k1:decide ((c.r:Int) = a.r) = true:=by simp [h1]
 by_cases h2:d.r = b.r
 rotate_left
 ·have g2:((d.r:Int) == b.r) = false:=by simp [h2]
  have k2:decide ((d.r:Int) = b.r) = false:=by simp [h2]
  have hv:tgB a b c d = false:=by
   unfold tgB
   simp
   omega
  go_wp2_with fail
  go_ret
  first | (rw [hv];exact ⟨rfl,uH HB⟩) | exact ⟨rfl,uH HB⟩
 have g2:((d.r:Int) == b.r) = true:=by simp [h2]
 have k2:decide ((d.r:Int) = b.r) = true:=by simp [h2]
 by_cases h3:c.c = 1
 rotate_left
 ·have g3:((c.c:Int) == 1) = false:=by simp [h3]
  have k3:decide ((c.c:Int) = 1) = false:=by simp [h3]
  have hv:tgB a b c d = false:=by
   unfold tgB
   simp
   omega
  go_wp2_with fail
  go_ret
  first | (rw [hv];exact ⟨rfl,uH HB⟩) | exact ⟨rfl,uH HB⟩
 have g3:((c.c:Int) == 1) = true:=by simp [h3]
 have k3:decide ((c.c:Int) = 1) = true:=by simp [h3]
 by_cases h4:d.c = 1
 rotate_left
 ·have g4:((d.c:Int) == 1) = false:=by simp [h4]
  have k4:decide ((d.c:Int) = 1) = false:=by simp [h4]
  have hv:tgB a b c d = false:=by
   unfold tgB
   simp
   omega
  go_wp2_with fail
  go_ret
  first | (rw [hv];exact ⟨rfl,uH HB⟩) | exact ⟨rfl,uH HB⟩
 have g4:((d.c:Int) == 1) = true:=by simp [h4]
 have k4:decide ((d.c:Int) = 1) = true:=by simp [h4]
 by_cases h5:b.r≤a.c
 rotate_left
 ·have g5:decide ((b.r:Int)≤a.c) = false:=by simp;omega
  have hv:tgB a b c d = false:=by
   unfold tgB
   simp
   omega
  go_wp2_with fail
  go_ret
  first | (rw [hv];exact ⟨rfl,uH HB⟩) | exact ⟨rfl,uH HB⟩
 have g5:decide ((b.r:Int)≤a.c) = true:=by simp;omega
 by_cases h6:a.c≤a.r+b.r
 rotate_left
 ·have g6:decide ((a.c:Int)≤a.r+b.r) = false:=by simp;omega
  have hv:tgB a b c d = false:=by
   unfold tgB
   simp
   omega
  go_wp2_with fail
  go_ret
  first | (rw [hv];exact ⟨rfl,uH HB⟩) | exact ⟨rfl,uH HB⟩
 have g6:decide ((a.c:Int)≤a.r+b.r) = true:=by simp;omega
 have hv:tgB a b c d = true:=by
  unfold tgB
  simp
  omega
 go_wp2_with fail
 go_ret
 first | (rw [hv];exact ⟨rfl,uH HB⟩) | exact ⟨rfl,uH HB⟩
theorem lck_of (a b c d:Ma) (ea eb ec ed:Int) (tg:Bool) (w:World)
  (Ca:∀ w',Below w.heap.size w w'→Calls Tryz.prog 63 #[.agg #[.int .i64 a.r,.int .i64 a.c,.slice a.o a.n a.k]] w' fun e w''=>e = .returned (.int .i64 ea)∧Below w'.heap.size w' w'')
  (Cb:∀ w',Below w.heap.size w w'→Calls Tryz.prog 63 #[.agg #[.int .i64 b.r,.int .i64 b.c,.slice b.o b.n b.k]] w' fun e w''=>e = .returned (.int .i64 eb)∧Below w'.heap.size w' w'')
  (Cc:∀ w',Below w.heap.size w w'→Calls Tryz.prog 63 #[.agg #[.int .i64 c.r,.int .i64 c.c,.slice c.o c.n c.k]] w' fun e w''=>e = .returned (.int .i64 ec)∧Below w'.heap.size w' w'')
  (Cd:∀ w',Below w.heap.size w w'→Calls Tryz.prog 63 #[.agg #[.int .i64 d.r,.int .i64 d.c,.slice d.o d.n d.k]] w' fun e w''=>e = .returned (.int .i64 ed)∧Below w'.heap.size w' w'')
  (CG:ea = 0→eb = 0→∀ w',Below w.heap.size w w'→Calls Tryz.prog 70 #[.agg #[.int .i64 a.r,.int .i64 a.c,.slice a.o a.n a.k,.int .i64 b.r,.int .i64 b.c,.slice b.o b.n b.k,.int .i64 c.r,.int .i64 c.c,.slice c.o c.n c.k,.int .i64 d.r,.int .i64 d.c,.slice d.o d.n d.k]] w' fun e w''=>e = .returned (.bool tg)∧Below w'.heap.size w' w'') :
  Calls Tryz.prog 34 #[.agg #[.int .i64 a.r,.int .i64 a.c,.slice a.o a.n a.k,.int .i64 b.r,.int .i64 b.c,.slice b.o b.n b.k,.int .i64 c.r,.int .i64 c.c,.slice c.o c.n c.k,.int .i64 d.r,.int .i64 d.c,.slice d.o d.n d.k]] w fun e w'=>e = .returned (.int .i64 (lsE ea eb ec ed tg))∧Below w.heap.size w w':=by
 have b0:=below_alloc9 w (.cells #[.int .i64 a.r,.int .i64 a.c,.slice a.o a.n a.k,.int .i64 b.r,.int .i64 b.c,.slice b.o b.n b.k,.int .i64 c.r,.int .i64 c.c,.slice c.o c.n c.k,.int .i64 d.r,.int .i64 d.c,.slice d.o d.n d.k] 53)
 have HX:=hide (BoxL.new 53 w [.int .i64 a.r,.int .i64 a.c,.slice a.o a.n a.k,.int .i64 b.r,.int .i64 b.c,.slice b.o b.n b.k,.int .i64 c.r,.int .i64 c.c,.slice c.o c.n c.k,.int .i64 d.r,.int .i64 d.c,.slice d.o d.n d.k])
 have HB:=hide b0
 clear b0
 have Ka:=hide Ca
 have Kb:=hide Cb
 have Kc:=hide Cc
 have Kd:=hide Cd
 have KG:=hide CG
 clear Ca Cb Cc Cd CG
 go_enter Tryz.func34,Tryz.ntmps34
 have y0:=(uH HX).c 0 rfl
 have y1:=(uH HX).c 1 rfl
 have y2:=(uH HX).c 2 rfl
 have y3:=(uH HX).c 3 rfl
 have y4:=(uH HX).c 4 rfl
 have y5:=(uH HX).c 5 rfl
 have y6:=(uH HX).c 6 rfl
 have y7:=(uH HX).c 7 rfl
 have y8:=(uH HX).c 8 rfl
 have y9:=(uH HX).c 9 rfl
 have y10:=(uH HX).c 10 rfl
 have y11:=(uH HX).c 11 rfl
 go_wp2_with fail
 clear y0 y1 y2 y3 y4 y5 y6 y7 y8 y9 y10 y11
 generalize hw1:w.alloc (.cells #[.int .i64 a.r,.int .i64 a.c,.slice a.o a.n a.k,.int .i64 b.r,.int .i64 b.c,.slice b.o b.n b.k,.int .i64 c.r,.int .i64 c.c,.slice c.o c.n c.k,.int .i64 d.r,.int .i64 d.c,.slice d.o d.n d.k] 53) = w1 at *
 clear hw1
 go_loopw [15] (fun i wr=>∃ j:Nat,j≤4∧i = .int .i64 j∧(0 < j→ea = 0)∧(1 < j→eb = 0)∧(2 < j→ec = 0)∧(3 < j→ed = 0)∧Hid (BoxL 53 wr w.heap.size [.int .i64 a.r,.int .i64 a.c,.slice a.o a.n a.k,.int .i64 b.r,.int .i64 b.c,.slice b.o b.n b.k,.int .i64 c.r,.int .i64 c.c,.slice c.o c.n c.k,.int .i64 d.r,.int .i64 d.c,.slice d.o d.n d.k])∧Hid (Below w.heap.size w wr)) (fun i _=>4 - (intOf i).toNat)
 case atStart=>exact ⟨0,by omega,rfl,by omega,by omega,by omega,by omega,HX,HB⟩
 case round =>
  clear HX HB
  obtain ⟨j,hj,rfl,h0,h1,h2,h3,HX,HB⟩:=hrel
  rcases (show j = 0 ∨ j = 1 ∨ j = 2 ∨ j = 3 ∨ j = 4 by omega) with rfl | rfl | rfl | rfl | rfl
  ·have ix:∀ W:World,(Instr.index 89 (.agg #[.int .i64 a.r,.int .i64 a.c,.slice a.o a.n a.k,.int .i64 b.r,.int .i64 b.c,.slice b.o b.n b.k,.int .i64 c.r,.int .i64 c.c,.slice c.o c.n c.k,.int .i64 d.r,.int .i64 d.c,.slice d.o d.n d.k]) (.int .i64 0)).run Tryz.prog W = .ok (.agg #[.int .i64 a.r,.int .i64 a.c,.slice a.o a.n a.k]) W:=fun _=>by kernel_rfl
   have ba:=fun (wr:World)=>below_alloc9 wr (.cells #[.int .i64 a.r,.int .i64 a.c,.slice a.o a.n a.k] 24)
   go_wp2_with fail
   refine (uH Ka _ ?_).mono ?_
   ·first | exact uH HB | exact (uH HB).trans ((below_alloc9 _ _).mono (uH HB).size)
   rintro e w3 ⟨rfl,hb⟩
   replace HX:=hide (((uH HX).all (ba _)).all hb)
   replace HB:=hide (((uH HB).trans ((ba _).mono (uH HB).size)).trans (hb.mono (((uH HB).trans ((ba _).mono (uH HB).size))).size))
   clear hb ba
   by_cases he:ea = 0
   ·have hn:(ea != 0) = false:=by simp [he]
    go_wp2_with fail
    go_round
    case rel=>exact ⟨1,by omega,by go_num,by intro;exact he,by intro;omega,by intro;omega,by intro;omega,HX,HB⟩
    case measure=>simp [intOf]
   ·have hn:(ea != 0) = true:=by simp [he]
    go_wp2_with fail
    have hv:lsE ea eb ec ed tg = ea:=by unfold lsE;simp [ he]
    exact bodyPost_ret (v:=.int .i64 ea) (by simp [results,Tryz.results34,go_sem]) rfl ⟨by rw [hv],uH HB⟩
  ·have ix:∀ W:World,(Instr.index 89 (.agg #[.int .i64 a.r,.int .i64 a.c,.slice a.o a.n a.k,.int .i64 b.r,.int .i64 b.c,.slice b.o b.n b.k,.int .i64 c.r,.int .i64 c.c,.slice c.o c.n c.k,.int .i64 d.r,.int .i64 d.c,.slice d.o d.n d.k]) (.int .i64 1)).run Tryz.prog W = .ok (.agg #[.int .i64 b.r,.int .i64 b.c,.slice b.o b.n b.k]) W:=fun _=>by kernel_rfl
   have ba:=fun (wr:World)=>below_alloc9 wr (.cells #[.int .i64 b.r,.int .i64 b.c,.slice b.o b.n b.k] 24)
   go_wp2_with fail
   refine (uH Kb _ ?_).mono ?_
   ·first | exact uH HB | exact (uH HB).trans ((below_alloc9 _ _).mono (uH HB).size)
   rintro e w3 ⟨rfl,hb⟩
   replace HX:=hide (((uH HX).all (ba _)).all hb)
   replace HB:=hide (((uH HB).trans ((ba _).mono (uH HB).size)).trans (hb.mono (((uH HB).trans ((ba _).mono (uH HB).size))).size))
   clear hb ba
   by_cases he:eb = 0
   ·have hn:(eb != 0) = false:=by simp [he]
    go_wp2_with fail
    go_round
    case rel=>exact ⟨2,by omega,by go_num,by intro;exact h0 (by omega),by intro;exact he,by intro;omega,by intro;omega,HX,HB⟩
    case measure=>simp [intOf]
   ·have hn:(eb != 0) = true:=by simp [he]
    go_wp2_with fail
    have hv:lsE ea eb ec ed tg = eb:=by unfold lsE;simp [h0 (by omega), he]
    exact bodyPost_ret (v:=.int .i64 eb) (by simp [results,Tryz.results34,go_sem]) rfl ⟨by rw [hv],uH HB⟩
  ·have ix:∀ W:World,(Instr.index 89 (.agg #[.int .i64 a.r,.int .i64 a.c,.slice a.o a.n a.k,.int .i64 b.r,.int .i64 b.c,.slice b.o b.n b.k,.int .i64 c.r,.int .i64 c.c,.slice c.o c.n c.k,.int .i64 d.r,.int .i64 d.c,.slice d.o d.n d.k]) (.int .i64 2)).run Tryz.prog W = .ok (.agg #[.int .i64 c.r,.int .i64 c.c,.slice c.o c.n c.k]) W:=fun _=>by kernel_rfl
   have ba:=fun (wr:World)=>below_alloc9 wr (.cells #[.int .i64 c.r,.int .i64 c.c,.slice c.o c.n c.k] 24)
   go_wp2_with fail
   refine (uH Kc _ ?_).mono ?_
   ·first | exact uH HB | exact (uH HB).trans ((below_alloc9 _ _).mono (uH HB).size)
   rintro e w3 ⟨rfl,hb⟩
   replace HX:=hide (((uH HX).all (ba _)).all hb)
   replace HB:=hide (((uH HB).trans ((ba _).mono (uH HB).size)).trans (hb.mono (((uH HB).trans ((ba _).mono (uH HB).size))).size))
   clear hb ba
   by_cases he:ec = 0
   ·have hn:(ec != 0) = false:=by simp [he]
    go_wp2_with fail
    go_round
    case rel=>exact ⟨3,by omega,by go_num,by intro;exact h0 (by omega),by intro;exact h1 (by omega),by intro;exact he,by intro;omega,HX,HB⟩
    case measure=>simp [intOf]
   ·have hn:(ec != 0) = true:=by simp [he]
    go_wp2_with fail
    have hv:lsE ea eb ec ed tg = ec:=by unfold lsE;simp [h0 (by omega),h1 (by omega), he]
    exact bodyPost_ret (v:=.int .i64 ec) (by simp [results,Tryz.results34,go_sem]) rfl ⟨by rw [hv],uH HB⟩
  ·have ix:∀ W:World,(Instr.index 89 (.agg #[.int .i64 a.r,.int .i64 a.c,.slice a.o a.n a.k,.int .i64 b.r,.int .i64 b.c,.slice b.o b.n b.k,.int .i64 c.r,.int .i64 c.c,.slice c.o c.n c.k,.int .i64 d.r,.int .i64 d.c,.slice d.o d.n d.k]) (.int .i64 3)).run Tryz.prog W = .ok (.agg #[.int .i64 d.r,.int .i64 d.c,.slice d.o d.n d.k]) W:=fun _=>by kernel_rfl
   have ba:=fun (wr:World)=>below_alloc9 wr (.cells #[.int .i64 d.r,.int .i64 d.c,.slice d.o d.n d.k] 24)
   go_wp2_with fail
   refine (uH Kd _ ?_).mono ?_
   ·first | exact uH HB | exact (uH HB).trans ((below_alloc9 _ _).mono (uH HB).size)
   rintro e w3 ⟨rfl,hb⟩
   replace HX:=hide (((uH HX).all (ba _)).all hb)
   replace HB:=hide (((uH HB).trans ((ba _).mono (uH HB).size)).trans (hb.mono (((uH HB).trans ((ba _).mono (uH HB).size))).size))
   clear hb ba
   by_cases he:ed = 0
   ·have hn:(ed != 0) = false:=by simp [he]
    go_wp2_with fail
    go_round
    case rel=>exact ⟨4,by omega,by go_num,by intro;exact h0 (by omega),by intro;exact h1 (by omega),by intro;exact h2 (by omega),by intro;exact he,HX,HB⟩
    case measure=>simp [intOf]
   ·have hn:(ed != 0) = true:=by simp [he]
    go_wp2_with fail
    have hv:lsE ea eb ec ed tg = ed:=by unfold lsE;simp [h0 (by omega),h1 (by omega),h2 (by omega), he]
    exact bodyPost_ret (v:=.int .i64 ed) (by simp [results,Tryz.results34,go_sem]) rfl ⟨by rw [hv],uH HB⟩
  ·have z0:=h0 (by omega);have z1:=h1 (by omega);have z2:=h2 (by omega);have z3:=h3 (by omega)
   have y0:=(uH HX).c 0 rfl
   have y1:=(uH HX).c 1 rfl
   have y2:=(uH HX).c 2 rfl
   have y3:=(uH HX).c 3 rfl
   have y4:=(uH HX).c 4 rfl
   have y5:=(uH HX).c 5 rfl
   have y6:=(uH HX).c 6 rfl
   have y7:=(uH HX).c 7 rfl
   have y8:=(uH HX).c 8 rfl
   have y9:=(uH HX).c 9 rfl
   have y10:=(uH HX).c 10 rfl
   have y11:=(uH HX).c 11 rfl
   go_wp2_with fail
   clear y0 y1 y2 y3 y4 y5 y6 y7 y8 y9 y10 y11
   refine (uH KG z0 z1 _ (uH HB)).mono ?_
   rintro e w3 ⟨rfl,hb⟩
   replace HB:=hide ((uH HB).trans (hb.mono (uH HB).size))
   clear hb
   cases tg
   ·go_wp2_with fail
    have hv:lsE ea eb ec ed false = 3:=by unfold lsE;simp [z0,z1,z2,z3]
    exact bodyPost_ret (v:=.int .i64 3) (by simp [results,Tryz.results34,go_sem]) rfl ⟨by rw [hv],uH HB⟩
   ·go_wp2_with fail
    have hv:lsE ea eb ec ed true = 0:=by unfold lsE;simp [z0,z1,z2,z3]
    exact bodyPost_ret (v:=.int .i64 0) (by simp [results,Tryz.results34,go_sem]) rfl ⟨by rw [hv],uH HB⟩
theorem rck20_of (a b c d:Ma) (ea eb ec ed:Int) (w:World) (HR:ea = 0→eb = 0→(0≤a.r∧a.r≤6)∧(0≤b.r∧b.r≤6))
  (Ca:∀ w',Below w.heap.size w w'→Calls Tryz.prog 16 #[.agg #[.int .i64 a.r,.int .i64 a.c,.slice a.o a.n a.k]] w' fun e w''=>e = .returned (.int .i64 ea)∧Below w'.heap.size w' w'')
  (Cb:∀ w',Below w.heap.size w w'→Calls Tryz.prog 16 #[.agg #[.int .i64 b.r,.int .i64 b.c,.slice b.o b.n b.k]] w' fun e w''=>e = .returned (.int .i64 eb)∧Below w'.heap.size w' w'')
  (Cc:∀ w',Below w.heap.size w w'→Calls Tryz.prog 16 #[.agg #[.int .i64 c.r,.int .i64 c.c,.slice c.o c.n c.k]] w' fun e w''=>e = .returned (.int .i64 ec)∧Below w'.heap.size w' w'')
  (Cd:∀ w',Below w.heap.size w w'→Calls Tryz.prog 16 #[.agg #[.int .i64 d.r,.int .i64 d.c,.slice d.o d.n d.k]] w' fun e w''=>e = .returned (.int .i64 ed)∧Below w'.heap.size w' w'')
  :
  Calls Tryz.prog 35 #[.agg #[.int .i64 a.r,.int .i64 a.c,.slice a.o a.n a.k,.int .i64 b.r,.int .i64 b.c,.slice b.o b.n b.k,.int .i64 c.r,.int .i64 c.c,.slice c.o c.n c.k,.int .i64 d.r,.int .i64 d.c,.slice d.o d.n d.k]] w fun e w'=>e = .returned (.int .i64 (lsE ea eb ec ed (tgB a b c d)))∧Below w.heap.size w w':=by
 have b0:=below_alloc9 w (.cells #[.int .i64 a.r,.int .i64 a.c,.slice a.o a.n a.k,.int .i64 b.r,.int .i64 b.c,.slice b.o b.n b.k,.int .i64 c.r,.int .i64 c.c,.slice c.o c.n c.k,.int .i64 d.r,.int .i64 d.c,.slice d.o d.n d.k] 56)
 have HX:=hide (BoxL.new 56 w [.int .i64 a.r,.int .i64 a.c,.slice a.o a.n a.k,.int .i64 b.r,.int .i64 b.c,.slice b.o b.n b.k,.int .i64 c.r,.int .i64 c.c,.slice c.o c.n c.k,.int .i64 d.r,.int .i64 d.c,.slice d.o d.n d.k])
 have HB:=hide b0
 clear b0
 have Ka:=hide Ca
 have Kb:=hide Cb
 have Kc:=hide Cc
 have Kd:=hide Cd
 have hHR:=hide HR
 clear Ca Cb Cc Cd HR
 go_enter Tryz.func35,Tryz.ntmps35
 have y0:=(uH HX).c 0 rfl
 have y1:=(uH HX).c 1 rfl
 have y2:=(uH HX).c 2 rfl
 have y3:=(uH HX).c 3 rfl
 have y4:=(uH HX).c 4 rfl
 have y5:=(uH HX).c 5 rfl
 have y6:=(uH HX).c 6 rfl
 have y7:=(uH HX).c 7 rfl
 have y8:=(uH HX).c 8 rfl
 have y9:=(uH HX).c 9 rfl
 have y10:=(uH HX).c 10 rfl
 have y11:=(uH HX).c 11 rfl
 go_wp2_with fail
 clear y0 y1 y2 y3 y4 y5 y6 y7 y8 y9 y10 y11
 generalize hw1:w.alloc (.cells #[.int .i64 a.r,.int .i64 a.c,.slice a.o a.n a.k,.int .i64 b.r,.int .i64 b.c,.slice b.o b.n b.k,.int .i64 c.r,.int .i64 c.c,.slice c.o c.n c.k,.int .i64 d.r,.int .i64 d.c,.slice d.o d.n d.k] 56) = w1 at *
 have hs:w1.heap.size = w.heap.size+1:=by rw [← hw1];exact size_alloc9 _ _
 clear hw1
 have HL:=hide (BoxL.new 24 w1 [.int .i64 a.r,.int .i64 a.c,.slice a.o a.n a.k,.int .i64 b.r,.int .i64 b.c,.slice b.o b.n b.k,.int .i64 c.r,.int .i64 c.c,.slice c.o c.n c.k,.int .i64 d.r,.int .i64 d.c,.slice d.o d.n d.k])
 have ba:=below_alloc9 w1 (.cells #[.int .i64 a.r,.int .i64 a.c,.slice a.o a.n a.k,.int .i64 b.r,.int .i64 b.c,.slice b.o b.n b.k,.int .i64 c.r,.int .i64 c.c,.slice c.o c.n c.k,.int .i64 d.r,.int .i64 d.c,.slice d.o d.n d.k] 24)
 replace HX:=hide ((uH HX).all ba)
 replace HB:=hide ((uH HB).trans (ba.mono (uH HB).size))
 clear ba
 generalize w1.alloc (.cells #[.int .i64 a.r,.int .i64 a.c,.slice a.o a.n a.k,.int .i64 b.r,.int .i64 b.c,.slice b.o b.n b.k,.int .i64 c.r,.int .i64 c.c,.slice c.o c.n c.k,.int .i64 d.r,.int .i64 d.c,.slice d.o d.n d.k] 24) = w2 at *
 rw [hs] at HL
 go_loopw [4] (fun i wr=>∃ j:Nat,j≤4∧i = .int .i64 j∧(0 < j→ea = 0)∧(1 < j→eb = 0)∧(2 < j→ec = 0)∧(3 < j→ed = 0)∧Hid (BoxL 56 wr w.heap.size [.int .i64 a.r,.int .i64 a.c,.slice a.o a.n a.k,.int .i64 b.r,.int .i64 b.c,.slice b.o b.n b.k,.int .i64 c.r,.int .i64 c.c,.slice c.o c.n c.k,.int .i64 d.r,.int .i64 d.c,.slice d.o d.n d.k])∧Hid (BoxL 24 wr (w.heap.size+1) [.int .i64 a.r,.int .i64 a.c,.slice a.o a.n a.k,.int .i64 b.r,.int .i64 b.c,.slice b.o b.n b.k,.int .i64 c.r,.int .i64 c.c,.slice c.o c.n c.k,.int .i64 d.r,.int .i64 d.c,.slice d.o d.n d.k])∧Hid (Below w.heap.size w wr)) (fun i _=>4 - (intOf i).toNat)
 case atStart=>exact ⟨0,by omega,rfl,by omega,by omega,by omega,by omega,HX,HL,HB⟩
 case round =>
  clear HX HL HB
  obtain ⟨j,hj,rfl,h0,h1,h2,h3,HX,HL,HB⟩:=hrel
  rcases (show j = 0 ∨ j = 1 ∨ j = 2 ∨ j = 3 ∨ j = 4 by omega) with rfl | rfl | rfl | rfl | rfl
  ·have z0:=(uH HL).c 0 rfl
   have z1:=(uH HL).c 1 rfl
   have z2:=(uH HL).c 2 rfl
   go_wp2_with fail
   clear z0 z1 z2
   refine (uH Ka _ (uH HB)).mono ?_
   rintro e w3 ⟨rfl,hb⟩
   replace HX:=hide ((uH HX).all hb);replace HL:=hide ((uH HL).all hb)
   replace HB:=hide ((uH HB).trans (hb.mono (uH HB).size))
   clear hb
   by_cases he:ea = 0
   ·have hn:(ea != 0) = false:=by simp [he]
    go_wp2_with fail
    go_round
    case rel=>exact ⟨1,by omega,by go_num,by intro;exact he,by intro;omega,by intro;omega,by intro;omega,HX,HL,HB⟩
    case measure=>simp [intOf]
   ·have hn:(ea != 0) = true:=by simp [he]
    have z0:=(uH HL).c 0 rfl
    have z1:=(uH HL).c 1 rfl
    have z2:=(uH HL).c 2 rfl
    go_wp2_with fail
    clear z0 z1 z2
    refine (uH Ka _ (uH HB)).mono ?_
    rintro e w4 ⟨rfl,hb⟩
    replace HX:=hide ((uH HX).all hb);replace HL:=hide ((uH HL).all hb)
    replace HB:=hide ((uH HB).trans (hb.mono (uH HB).size))
    clear hb
    go_wp2_with fail
    have hv:lsE ea eb ec ed (tgB a b c d) = ea:=by unfold lsE;simp [ he]
    exact bodyPost_ret (v:=.int .i64 ea) (by simp [results,Tryz.results35,go_sem]) rfl ⟨by rw [hv],uH HB⟩
  ·have z3:=(uH HL).c 3 rfl
   have z4:=(uH HL).c 4 rfl
   have z5:=(uH HL).c 5 rfl
   go_wp2_with fail
   clear z3 z4 z5
   refine (uH Kb _ (uH HB)).mono ?_
   rintro e w3 ⟨rfl,hb⟩
   replace HX:=hide ((uH HX).all hb);replace HL:=hide ((uH HL).all hb)
   replace HB:=hide ((uH HB).trans (hb.mono (uH HB).size))
   clear hb
   by_cases he:eb = 0
   ·have hn:(eb != 0) = false:=by simp [he]
    go_wp2_with fail
    go_round
    case rel=>exact ⟨2,by omega,by go_num,by intro;exact h0 (by omega),by intro;exact he,by intro;omega,by intro;omega,HX,HL,HB⟩
    case measure=>simp [intOf]
   ·have hn:(eb != 0) = true:=by simp [he]
    have z3:=(uH HL).c 3 rfl
    have z4:=(uH HL).c 4 rfl
    have z5:=(uH HL).c 5 rfl
    go_wp2_with fail
    clear z3 z4 z5
    refine (uH Kb _ (uH HB)).mono ?_
    rintro e w4 ⟨rfl,hb⟩
    replace HX:=hide ((uH HX).all hb);replace HL:=hide ((uH HL).all hb)
    replace HB:=hide ((uH HB).trans (hb.mono (uH HB).size))
    clear hb
    go_wp2_with fail
    have hv:lsE ea eb ec ed (tgB a b c d) = eb:=by unfold lsE;simp [h0 (by omega), he]
    exact bodyPost_ret (v:=.int .i64 eb) (by simp [results,Tryz.results35,go_sem]) rfl ⟨by rw [hv],uH HB⟩
  ·have z6:=(uH HL).c 6 rfl
   have z7:=(uH HL).c 7 rfl
   have z8:=(uH HL).c 8 rfl
   go_wp2_with fail
   clear z6 z7 z8
   refine (uH Kc _ (uH HB)).mono ?_
   rintro e w3 ⟨rfl,hb⟩
   replace HX:=hide ((uH HX).all hb);replace HL:=hide ((uH HL).all hb)
   replace HB:=hide ((uH HB).trans (hb.mono (uH HB).size))
   clear hb
   by_cases he:ec = 0
   ·have hn:(ec != 0) = false:=by simp [he]
    go_wp2_with fail
    go_round
    case rel=>exact ⟨3,by omega,by go_num,by intro;exact h0 (by omega),by intro;exact h1 (by omega),by intro;exact he,by intro;omega,HX,HL,HB⟩
    case measure=>simp [intOf]
   ·have hn:(ec != 0) = true:=by simp [he]
    have z6:=(uH HL).c 6 rfl
    have z7:=(uH HL).c 7 rfl
    have z8:=(uH HL).c 8 rfl
    go_wp2_with fail
    clear z6 z7 z8
    refine (uH Kc _ (uH HB)).mono ?_
    rintro e w4 ⟨rfl,hb⟩
    replace HX:=hide ((uH HX).all hb);replace HL:=hide ((uH HL).all hb)
    replace HB:=hide ((uH HB).trans (hb.mono (uH HB).size))
    clear hb
    go_wp2_with fail
    have hv:lsE ea eb ec ed (tgB a b c d) = ec:=by unfold lsE;simp [h0 (by omega),h1 (by omega), he]
    exact bodyPost_ret (v:=.int .i64 ec) (by simp [results,Tryz.results35,go_sem]) rfl ⟨by rw [hv],uH HB⟩
  ·have z9:=(uH HL).c 9 rfl
   have z10:=(uH HL).c 10 rfl
   have z11:=(uH HL).c 11 rfl
   go_wp2_with fail
   clear z9 z10 z11
   refine (uH Kd _ (uH HB)).mono ?_
   rintro e w3 ⟨rfl,hb⟩
   replace HX:=hide ((uH HX).all hb);replace HL:=hide ((uH HL).all hb)
   replace HB:=hide ((uH HB).trans (hb.mono (uH HB).size))
   clear hb
   by_cases he:ed = 0
   ·have hn:(ed != 0) = false:=by simp [he]
    go_wp2_with fail
    go_round
    case rel=>exact ⟨4,by omega,by go_num,by intro;exact h0 (by omega),by intro;exact h1 (by omega),by intro;exact h2 (by omega),by intro;exact he,HX,HL,HB⟩
    case measure=>simp [intOf]
   ·have hn:(ed != 0) = true:=by simp [he]
    have z9:=(uH HL).c 9 rfl
    have z10:=(uH HL).c 10 rfl
    have z11:=(uH HL).c 11 rfl
    go_wp2_with fail
    clear z9 z10 z11
    refine (uH Kd _ (uH HB)).mono ?_
    rintro e w4 ⟨rfl,hb⟩
    replace HX:=hide ((uH HX).all hb);replace HL:=hide ((uH HL).all hb)
    replace HB:=hide ((uH HB).trans (hb.mono (uH HB).size))
    clear hb
    go_wp2_with fail
    have hv:lsE ea eb ec ed (tgB a b c d) = ed:=by unfold lsE;simp [h0 (by omega),h1 (by omega),h2 (by omega), he]
    exact bodyPost_ret (v:=.int .i64 ed) (by simp [results,Tryz.results35,go_sem]) rfl ⟨by rw [hv],uH HB⟩
  ·have z0:=h0 (by omega);have z1:=h1 (by omega);have z2:=h2 (by omega);have z3:=h3 (by omega)
   have hh:=uH hHR z0 z1
   have hwr:IntKind.i64.wrap (a.r+b.r) = a.r+b.r:=wrap_in _ (by omega)
   have y0:=(uH HX).c 0 rfl
   have y1:=(uH HX).c 1 rfl
   have y3:=(uH HX).c 3 rfl
   have y4:=(uH HX).c 4 rfl
   have y6:=(uH HX).c 6 rfl
   have y7:=(uH HX).c 7 rfl
   have y9:=(uH HX).c 9 rfl
   have y10:=(uH HX).c 10 rfl
   by_cases h0':a.c = b.c
   rotate_left
   ·have g0:((a.c:Int) != b.c) = true:=by simp [h0']
    have k0:decide ((a.c:Int) = b.c) = false:=by simp [h0']
    go_wp2_with fail
    have hv:lsE ea eb ec ed (tgB a b c d) = 3:=by
     have ht:tgB a b c d = false:=by unfold tgB;simp;omega
     unfold lsE;simp [z0,z1,z2,z3,ht]
    exact bodyPost_ret (v:=.int .i64 3) (by simp [results,Tryz.results35,go_sem]) rfl ⟨by first | rw [hv] | (rw [z0,z1,z2,z3] at hv;rw [hv]),uH HB⟩
   have g0:((a.c:Int) != b.c) = false:=by simp [h0']
   have k0:decide ((a.c:Int) = b.c) = true:=by simp [h0']
   by_cases h1':a.r = c.r
   rotate_left
   ·have g1:((a.r:Int) != c.r) = true:=by simp [h1']
    have k1:decide ((a.r:Int) = c.r) = false:=by simp [h1']
    go_wp2_with fail
    have hv:lsE ea eb ec ed (tgB a b c d) = 3:=by
     have ht:tgB a b c d = false:=by unfold tgB;simp;omega
     unfold lsE;simp [z0,z1,z2,z3,ht]
    exact bodyPost_ret (v:=.int .i64 3) (by simp [results,Tryz.results35,go_sem]) rfl ⟨by first | rw [hv] | (rw [z0,z1,z2,z3] at hv;rw [hv]),uH HB⟩
   have g1:((a.r:Int) != c.r) = false:=by simp [h1']
   have k1:decide ((a.r:Int) = c.r) = true:=by simp [h1']
   by_cases h2':b.r = d.r
   rotate_left
   ·have g2:((b.r:Int) != d.r) = true:=by simp [h2']
    have k2:decide ((b.r:Int) = d.r) = false:=by simp [h2']
    go_wp2_with fail
    have hv:lsE ea eb ec ed (tgB a b c d) = 3:=by
     have ht:tgB a b c d = false:=by unfold tgB;simp;omega
     unfold lsE;simp [z0,z1,z2,z3,ht]
    exact bodyPost_ret (v:=.int .i64 3) (by simp [results,Tryz.results35,go_sem]) rfl ⟨by first | rw [hv] | (rw [z0,z1,z2,z3] at hv;rw [hv]),uH HB⟩
   have g2:((b.r:Int) != d.r) = false:=by simp [h2']
   have k2:decide ((b.r:Int) = d.r) = true:=by simp [h2']
   by_cases h3':c.c = 1
   rotate_left
   ·have g3:((c.c:Int) != 1) = true:=by simp [h3']
    have k3:decide ((c.c:Int) = 1) = false:=by simp [h3']
    go_wp2_with fail
    have hv:lsE ea eb ec ed (tgB a b c d) = 3:=by
     have ht:tgB a b c d = false:=by unfold tgB;simp;omega
     unfold lsE;simp [z0,z1,z2,z3,ht]
    exact bodyPost_ret (v:=.int .i64 3) (by simp [results,Tryz.results35,go_sem]) rfl ⟨by first | rw [hv] | (rw [z0,z1,z2,z3] at hv;rw [hv]),uH HB⟩
   have g3:((c.c:Int) != 1) = false:=by simp [h3']
   have k3:decide ((c.c:Int) = 1) = true:=by simp [h3']
   by_cases h4':d.c = 1
   rotate_left
   ·have g4:((d.c:Int) != 1) = true:=by simp [h4']
    have k4:decide ((d.c:Int) = 1) = false:=by simp [h4']
    go_wp2_with fail
    have hv:lsE ea eb ec ed (tgB a b c d) = 3:=by
     have ht:tgB a b c d = false:=by unfold tgB;simp;omega
     unfold lsE;simp [z0,z1,z2,z3,ht]
    exact bodyPost_ret (v:=.int .i64 3) (by simp [results,Tryz.results35,go_sem]) rfl ⟨by first | rw [hv] | (rw [z0,z1,z2,z3] at hv;rw [hv]),uH HB⟩
   have g4:((d.c:Int) != 1) = false:=by simp [h4']
   have k4:decide ((d.c:Int) = 1) = true:=by simp [h4']
   by_cases h5':b.r≤a.c
   rotate_left
   ·have g5:decide ((b.r:Int) > a.c) = true:=by simp;omega
    go_wp2_with fail
    have hv:lsE ea eb ec ed (tgB a b c d) = 3:=by
     have ht:tgB a b c d = false:=by unfold tgB;simp;omega
     unfold lsE;simp [z0,z1,z2,z3,ht]
    exact bodyPost_ret (v:=.int .i64 3) (by simp [results,Tryz.results35,go_sem]) rfl ⟨by first | rw [hv] | (rw [z0,z1,z2,z3] at hv;rw [hv]),uH HB⟩
   have g5:decide ((b.r:Int) > a.c) = false:=by simp;omega
   by_cases h6':a.c≤a.r+b.r
   rotate_left
   ·have g6:decide ((a.c:Int) > a.r+b.r) = true:=by simp;omega
    go_wp2_with fail
    have hv:lsE ea eb ec ed (tgB a b c d) = 3:=by
     have ht:tgB a b c d = false:=by unfold tgB;simp;omega
     unfold lsE;simp [z0,z1,z2,z3,ht]
    exact bodyPost_ret (v:=.int .i64 3) (by simp [results,Tryz.results35,go_sem]) rfl ⟨by first | rw [hv] | (rw [z0,z1,z2,z3] at hv;rw [hv]),uH HB⟩
   have g6:decide ((a.c:Int) > a.r+b.r) = false:=by simp;omega
   go_wp2_with fail
   have hv:lsE ea eb ec ed (tgB a b c d) = 0:=by
    have ht:tgB a b c d = true:=by unfold tgB;simp;omega
    unfold lsE;simp [z0,z1,z2,z3,ht]
   exact bodyPost_ret (v:=.int .i64 0) (by simp [results,Tryz.results35,go_sem]) rfl ⟨by first | rw [hv] | (rw [z0,z1,z2,z3] at hv;rw [hv]),uH HB⟩
end Go.Proofs.YtcbcmlaogehimaaGreatDoor
namespace Go.Proofs.YtcbcmlaogehimaaGreatDoor
open Go.RowKit
attribute [local go_sem ↓] Go.wp_at_zero Go.wp_at_succ
theorem BoxM.three {w:World} {b g:Nat} {x y z:Value} (h:BoxM w b x y z) (hg:b ≠ g) (u u' u'':Value):BoxM (((w.setCell ⟨g,0,none⟩ u).setCell ⟨g,1,none⟩ u').setCell ⟨g,2,none⟩ u'') b x y z :=
 ((h.other (p:=⟨g,0,none⟩) hg u).other (p:=⟨g,1,none⟩) hg u').other (p:=⟨g,2,none⟩) hg u''
end Go.Proofs.YtcbcmlaogehimaaGreatDoor
