/- Part 22 of the texts. -/
import Derived.Test.YtcbcmlaogehimaaGreatDoorPartc01
import Derived.Test.YtcbcmlaogehimaaGreatDoorPartc06
import Derived.Lib.BitFns
import Derived.Test.YtcbcmlaogehimaaGreatDoorPartc21
import Derived.Test.YtcbcmlaogehimaaGreatDoorPartc05
import Derived.Test.YtcbcmlaogehimaaGreatDoorPartc07
import Derived.Test.YtcbcmlaogehimaaGreatDoorPartc20
import Derived.Test.YtcbcmlaogehimaaGreatDoorPartc19
import Derived.Deep.RegionLaw
import Derived.Test.YtcbcmlaogehimaaGreatDoorPartc11
import Derived.Deep.RegionWith
import Derived.Test.YtcbcmlaogehimaaGreatDoorPartc18
import Derived.Deep.RegionHeld3
import Derived.Test.YtcbcmlaogehimaaGreatDoorPartc17
import Derived.Test.YtcbcmlaogehimaaGreatDoorPartc16
import Derived.Test.YtcbcmlaogehimaaGreatDoorPartc14
import Derived.Test.YtcbcmlaogehimaaGreatDoorPartc12
import Derived.Test.YtcbcmlaogehimaaGreatDoorPartc13
import Derived.Deep.Cut
import Derived.BigQuiet
import Derived.Test.YtcbcmlaogehimaaGreatDoorPartc04
import Derived.Maps.AppendAt
import Derived.Maps.Own
import Derived.Maps.OwnOps
import Derived.Maps.OwnSet
import Derived.DeepKeys4
import Derived.Test.YtcbcmlaogehimaaGreatDoorPartc08
import Derived.WalkSmall
import Derived.OwnWalk
import Derived.Test.YtcbcmlaogehimaaGreatDoorPartc02
import Derived.Laws.CopyOwn
set_option maxHeartbeats 4000000
set_option maxRecDepth 20000
namespace Go.Proofs.YtcbcmlaogehimaaGreatDoor
def sumRows (a:Nat→Nat→Int) (t:Nat→Int):Nat→Nat→Int
 | 0=>fun _=>0
 | k+1=>fun c=>1 * sumRows a t k c+t k * a k c
def factN:Nat→Nat
 | 0=>1
 | n+1=>(n+1) * factN n
end Go.Proofs.YtcbcmlaogehimaaGreatDoor
namespace Go.Proofs.YtcbcmlaogehimaaGreatDoor
def N80:Nat:=80
def B80:Nat:=4294967296 ^ N80
def NB (k:Nat):Nat:=factN k * B80 ^ k
end Go.Proofs.YtcbcmlaogehimaaGreatDoor
namespace Go.Proofs.YtcbcmlaogehimaaGreatDoor
open Go.RowKit
attribute [local go_sem ↓] Go.wp_at_zero Go.wp_at_succ
def ckE (r c:Int) (I:List Int):Int:=if okB r c I.length = true then (if fnK I I.length = true then 0 else 4) else 1
theorem ccheck_any (r c:Int) (ao:Option Addr) (cap:Nat) (I:List Int) (w:World) (hI:BitsAt w ao cap I) (hn:I.length≤35184372088830) :
  Calls Tryz.prog 63 #[.agg #[.int .i64 r,.int .i64 c,.slice ao I.length cap]] w fun e w'=>e = .returned (.int .i64 (ckE r c I))∧Below w.heap.size w w':=by
 have HC:=hide (fun w'=>mcheck_any r c ao I.length cap w' hn)
 have b0:=below_alloc9 w (.cells #[.int .i64 r,.int .i64 c,.slice ao I.length cap] 24)
 have B0:=hide b0;have X0:=hide (BoxM.new w (.int .i64 r) (.int .i64 c) (.slice ao I.length cap));have HI:=hide hI
 clear b0 hI
 cases ho:okB r c I.length
 ·rw [ho] at HC
  have e:ckE r c I = 1:=by unfold ckE;rw [ho];rfl
  rw [e]
  rw [if_neg (by decide)] at HC
  clear e ho
  go_enter Tryz.func63,Tryz.ntmps63
  go_wp2_with fail
  refine (uH HC _).mono ?_
  rintro e w1 ⟨rfl,hb1⟩
  clear HC
  go_wp2
  go_ret
  exact ⟨rfl,(uH B0).trans (hb1.mono (uH B0).size)⟩
 ·rw [ho] at HC
  rw [if_pos rfl] at HC
  have e:ckE r c I = if fnK I I.length = true then 0 else 4:=by unfold ckE;rw [ho];rfl
  rw [e]
  clear e ho
  obtain ⟨fe,hfe⟩:∃ fe:Int,(if fnK I I.length = true then 0 else 4) = fe:=⟨_,rfl⟩
  rw [hfe]
  obtain ⟨n,hnn⟩:∃ n,I.length = n:=⟨_,rfl⟩
  have HN:=hide hnn
  rw [hnn] at HC B0 X0 hn hfe ⊢
  have FE:=hide hfe
  clear hnn hfe
  go_enter Tryz.func63,Tryz.ntmps63
  go_wp2_with fail
  refine (uH HC _).mono ?_
  rintro e w1 ⟨rfl,hb1⟩
  have B1:=hide ((uH B0).trans (hb1.mono (uH B0).size));have X1:=hide ((uH X0).all hb1)
  clear HC B0 X0 hb1
  have x2:=(uH X1).c2
  go_wp2_with fail
  go_loopw [13] (fun i wr=>∃ k:Nat,k≤n∧i = .int .i64 k∧Hid (Below w1.heap.size w1 wr)∧Hid (fnK I k = true)) (fun i _=>n - (intOf i).toNat)
  case atStart=>exact ⟨0,Nat.zero_le _,rfl,Below.refl _ _,rfl⟩
  case round =>
   clear x2
   obtain ⟨k,hk,rfl,hB,hF⟩:=hrel
   have x2:=((uH X1).all (uH hB)).c2
   by_cases hlt:k < n
   ·have hkI:(k:Int) < (n:Int):=by omega
    have BW:=hide ((uH B1).trans ((uH hB).mono (uH B1).size))
    obtain ⟨b,off,hao,hb,hc⟩:=((uH HI).below (uH BW)).ne (by rw [uH HN];omega)
    have hck:=hc k (by rw [uH HN];exact hlt)
    have x64:=(uH HI).lt k
    have CF:=hide (fun w'=>sfinite_any (atB I k) w' x64)
    have NX:=hide (show fnK I (k+1) = (fnK I k && fFin (atB I k)) from rfl)
    subst hao
    clear hc x64 hb
    cases hf:fFin (atB I k)
    ·rw [hf] at CF NX
     have e:fnK I n = false:=by
      cases h:fnK I n
      ·rfl
      ·have:=fnK_down I n (k+1) (by omega) h
       rw [uH NX,Bool.and_false] at this
       cases this
     have E4:=hide (show (4:Int) = fe from by rw [← uH FE,if_neg (by rw [e];decide)])
     clear e NX hf
     generalize atB I k = x at *
     go_wp2_with fail
     refine (uH CF _).mono ?_
     rintro e w3 ⟨rfl,hb3⟩
     have BE:=hide ((uH BW).trans (hb3.mono (uH BW).size))
     clear CF hb3 hck x2
     go_wp2
     go_ret
     exact ⟨ret_int (uH E4),uH BE⟩
    ·rw [hf] at CF NX
     rw [uH hF,Bool.true_and] at NX
     clear hf
     generalize atB I k = x at *
     go_wp2_with fail
     refine (uH CF _).mono ?_
     rintro e w3 ⟨rfl,hb3⟩
     have BE:=hide ((uH hB).trans (hb3.mono (uH hB).size))
     clear CF hb3 hck x2
     go_wp2
     go_round
     case rel=>exact ⟨k+1,by omega,by go_num,BE,NX⟩
     case measure=>simp [intOf];omega
   ·have hkk:k = n:=by omega
    subst hkk
    have E0:=hide (show (0:Int) = fe from by rw [← uH FE,if_pos (uH hF)])
    have BE:=hide ((uH B1).trans ((uH hB).mono (uH B1).size))
    go_wp2
    go_ret
    exact ⟨ret_int (uH E0),uH BE⟩
end Go.Proofs.YtcbcmlaogehimaaGreatDoor
namespace Go.Proofs.YtcbcmlaogehimaaGreatDoor
open Go.RowKit
def toN (I:List Int):List Nat:=I.map Int.toNat
theorem toN_len (I:List Int):(toN I).length = I.length:=by simp [toN]
theorem toN_at (I:List Int) (j:Nat) (hj:j < I.length):(toN I)[j]? = some (atB I j):=by simp [toN,atB,hj]
theorem toN_take (I:List Int) (j:Nat) (hj:j < I.length):(toN I).take (j+1) = (toN I).take j ++ [atB I j]:=by
 rw [List.take_add_one,toN_at I j hj]
 rfl
theorem toN_all (I:List Int) (P:Nat→Prop) (h:∀ j,j < I.length→P (atB I j)):∀ x ∈ toN I,P x:=by
 intro x hx
 obtain ⟨j,hj,rfl⟩:=List.getElem_of_mem hx
 have hj':j < I.length:=by rw [← toN_len];exact hj
 have e:=toN_at I j hj'
 rw [List.getElem?_eq_getElem hj] at e
 rw [Option.some.inj e]
 exact h j hj'
theorem bgF_snoc (x:Nat):∀ (xs:List Nat) (m:Nat),bgF m (xs ++ [x]) = mx (bgF m xs) (fR x):=by
 intro xs
 induction xs with
 | nil=>intro m;rfl
 | cons y ys ih=>intro m;exact ih _
theorem ssV_snoc (k:Int) (x:Nat):∀ (xs:List Nat) (s:Nat),ssV k s (xs ++ [x]) = sqV k (ssV k s xs) x:=by
 intro xs
 induction xs with
 | nil=>intro m;rfl
 | cons y ys ih=>intro m;exact ih _
theorem bgK_list (I:List Int):∀ j,j≤I.length→bgK I j = bgF 0 ((toN I).take j):=by
 intro j
 induction j with
 | zero=>intro _;rfl
 | succ j ih =>
  intro hj
  rw [toN_take I j (by omega),bgF_snoc,← ih (by omega)]
  rfl
theorem bgK_all (I:List Int):bgK I I.length = bgF 0 (toN I):=by
 rw [bgK_list I _ (Nat.le_refl _),List.take_of_length_le (by rw [toN_len];exact Nat.le_refl _)]
theorem dtK_list (k:Int) (I:List Int):∀ j,j≤I.length→dtK (tL k I) (tL k I) j = ssV k 0 ((toN I).take j):=by
 intro j
 induction j with
 | zero=>intro _;rfl
 | succ j ih =>
  intro hj
  rw [toN_take I j (by omega),ssV_snoc,← ih (by omega)]
  show aV (dtK (tL k I) (tL k I) j) (mV (atB (tL k I) j) (atB (tL k I) j)) = _
  rw [show atB (tL k I) j = xV (atB I j) (-k) from mkL_at _ _ j (by omega)]
  rfl
theorem dtK_all (k:Int) (I:List Int):dtK (tL k I) (tL k I) I.length = ssV k 0 (toN I):=by
 rw [dtK_list k I _ (Nat.le_refl _),List.take_of_length_le (by rw [toN_len];exact Nat.le_refl _)]
theorem nmV_nrV (I:List Int):nmV I = nrV (toN I):=by
 unfold nmV nrV
 rw [dtK_all,bgK_all]
end Go.Proofs.YtcbcmlaogehimaaGreatDoor
namespace Go.Proofs.YtcbcmlaogehimaaGreatDoor
open Go.RowKit
attribute [local go_sem ↓] Go.wp_at_zero Go.wp_at_succ
theorem OwnB.least {base base':Nat} {w:World} {v:Value} {S:List Nat} (h:OwnB base w v S) (hb:base'≤base):OwnB base' w v S:=by
 refine ⟨⟨h.1.1,?_⟩,h.2⟩
 rcases h.1.2 with e | ⟨g,cap,cur,hv,hg,rest⟩
 ·exact .inl e
 ·exact .inr ⟨g,cap,cur,hv,Nat.le_trans hb hg,rest⟩
theorem OwnB.putM {base:Nat} {w:World} {v:Value} {S:List Nat} (h:OwnB base w v S) {b:Nat} {x y z:Value} (_hx:BoxM w b x y z) (hb:b < base) (u u' u'':Value):OwnB base (((w.setCell ⟨b,0,none⟩ u).setCell ⟨b,1,none⟩ u').setCell ⟨b,2,none⟩ u'') v S:=by
 refine ⟨⟨h.1.1,?_⟩,h.2⟩
 rcases h.1.2 with e | ⟨g,cap,cur,hv,hg,hh,rest⟩
 ·exact .inl e
 ·refine .inr ⟨g,cap,cur,hv,hg,?_,rest⟩
  have ne:g ≠ b:=by omega
  rw [Below.heap_setCell _ ⟨b,2,none⟩ u'' g ne,Below.heap_setCell _ ⟨b,1,none⟩ u' g ne,Below.heap_setCell _ ⟨b,0,none⟩ u g ne]
  exact hh
end Go.Proofs.YtcbcmlaogehimaaGreatDoor
namespace Go.Proofs.YtcbcmlaogehimaaGreatDoor
open Go.RowKit
attribute [local go_sem ↓] Go.wp_at_zero Go.wp_at_succ
theorem sub1_of (r c n cap p q m d i k x y z ba bb:Nat) (fl:Int) (ao bo:Option Addr) (w:World) (hX:BoxM w ba (.int .i64 r) (.int .i64 c) (.slice ao n cap)) (hY:BoxM w bb (.int .i64 p) (.int .i64 q) (.slice bo m d))
  (C1:∀ w',Below w.heap.size w w'→Calls Tryz.prog 133 #[.agg #[.int .i64 r,.int .i64 c,.slice ao n cap],.int .i64 i,.int .i64 k] w' fun e w''=>e = .returned (.int .u64 (x:Nat))∧Below w'.heap.size w' w'')
  (C2:∀ w',Below w.heap.size w w'→Calls Tryz.prog 133 #[.agg #[.int .i64 p,.int .i64 q,.slice bo m d],.int .i64 i,.int .i64 k] w' fun e w''=>e = .returned (.int .u64 (y:Nat))∧Below w'.heap.size w' w'')
  (C3:∀ w',Below w.heap.size w w'→Calls Tryz.prog 182 #[.int .u64 x,.int .u64 y] w' fun e w''=>e = .returned (.tuple #[.int .u64 (z:Nat),.int .u8 fl])∧Below w'.heap.size w' w'') :
  Calls Tryz.prog 181 #[.int .i64 i,.int .i64 k,.pointer (some ⟨ba,0,none⟩),.pointer (some ⟨bb,0,none⟩)] w fun e w'=>e = .returned (.int .u64 (z:Nat))∧Below w.heap.size w w':=by
 have K1:=hide C1;have K2:=hide C2;have K3:=hide C3
 have HK:=hide (fun w' (h:Below w.heap.size w w')=>(show Below w.heap.size w w'∧(w'.cell? ⟨ba,0,none⟩ = some (.int .i64 r)∧w'.cell? ⟨ba,1,none⟩ = some (.int .i64 c)∧w'.cell? ⟨ba,2,none⟩ = some (.slice ao n cap))∧(w'.cell? ⟨bb,0,none⟩ = some (.int .i64 p)∧w'.cell? ⟨bb,1,none⟩ = some (.int .i64 q)∧w'.cell? ⟨bb,2,none⟩ = some (.slice bo m d)) from
  ⟨h,⟨(hX.all h).c0,(hX.all h).c1,(hX.all h).c2⟩,(hY.all h).c0,(hY.all h).c1,(hY.all h).c2⟩))
 clear C1 C2 C3 hX hY
 go_enter Tryz.func181,Tryz.ntmps181
 go_wp2_with fail
 go_region_held3 (fun w'=>Below w.heap.size w w'∧(w'.cell? ⟨ba,0,none⟩ = some (.int .i64 r)∧w'.cell? ⟨ba,1,none⟩ = some (.int .i64 c)∧w'.cell? ⟨ba,2,none⟩ = some (.slice ao n cap))∧(w'.cell? ⟨bb,0,none⟩ = some (.int .i64 p)∧w'.cell? ⟨bb,1,none⟩ = some (.int .i64 q)∧w'.cell? ⟨bb,2,none⟩ = some (.slice bo m d)))
  (first | exact uH HK _ (Below.refl _ _).drew | exact uH HK _ (by assumption) | fail "KK")
  (first | (go_at_call_of 133 (Value.agg #[.int .i64 r,.int .i64 c,.slice ao n cap]);refine (uH K1 _ (And.left (by assumption))).mono ?_;rintro e w1 ⟨rfl,hb1⟩;have hB1:Below w.heap.size w w1:=Below.trans (And.left (by assumption)) (hb1.mono (Below.size (And.left (by assumption))));clear hb1 K1) | (go_at_call_of 133 (Value.agg #[.int .i64 p,.int .i64 q,.slice bo m d]);refine (uH K2 _ (And.left (by assumption))).mono ?_;rintro e w2 ⟨rfl,hb2⟩;have hB2:Below w.heap.size w w2:=Below.trans (And.left (by assumption)) (hb2.mono (Below.size (And.left (by assumption))));clear hb2 K2) | (go_at_call 182;refine (uH K3 _ (And.left (by assumption))).mono ?_;rintro e w3 ⟨rfl,hb3⟩;have hB3:Below w.heap.size w w3:=Below.trans (And.left (by assumption)) (hb3.mono (Below.size (And.left (by assumption))));clear hb3) | fail "NO ARM")
 all_goals
  go_wp2
  go_ret
  exact ⟨rfl,And.left (by assumption)⟩
theorem msize_any (r c:Int) (ao:Option Addr) (n cap:Nat) (w:World) :
  Calls Tryz.prog 180 #[.agg #[.int .i64 r,.int .i64 c,.slice ao n cap]] w fun e w'=>e = .returned (.agg #[.int .i64 r,.int .i64 c])∧Below w.heap.size w w':=by
 have b0:=below_alloc9 w (.cells #[.int .i64 r,.int .i64 c,.slice ao n cap] 24)
 have b1:=below_alloc9 (w.alloc (.cells #[.int .i64 r,.int .i64 c,.slice ao n cap] 24)) (.cells #[.int .i64 r,.int .i64 c] 167)
 have BP:=hide (b0.trans (b1.mono b0.size))
 clear b0 b1
 go_enter Tryz.func180,Tryz.ntmps180
 go_wp2
 exact bodyPost_ret (v:=.agg #[.int .i64 r,.int .i64 c]) (by simp [results,Tryz.results180,go_sem]) rfl ⟨rfl,uH BP⟩
end Go.Proofs.YtcbcmlaogehimaaGreatDoor
namespace Go.Proofs.YtcbcmlaogehimaaGreatDoor
open Go.RowKit
attribute [local go_sem ↓] Go.wp_at_zero Go.wp_at_succ
theorem RowB.three {w:World} {b g:Nat} {S:List Nat} (h:RowB w b S) (hg:b ≠ g) (u u' u'':Value):RowB (((w.setCell ⟨g,0,none⟩ u).setCell ⟨g,1,none⟩ u').setCell ⟨g,2,none⟩ u'') b S:=by
 unfold RowB
 rw [Below.heap_setCell _ ⟨g,2,none⟩ u'' b hg,Below.heap_setCell _ ⟨g,1,none⟩ u' b hg,Below.heap_setCell _ ⟨g,0,none⟩ u b hg]
 exact h
theorem rowB_neM {w:World} {g b:Nat} {S:List Nat} (h:RowB w g S) {x y z:Value} (hx:BoxM w b x y z):g ≠ b:=by
 intro e
 subst e
 unfold RowB at h
 unfold BoxM at hx
 rw [h] at hx
 simp at hx
theorem copy_run (W:World) (g n cap:Nat) (ao:Option Addr) (S:List Nat) (h:RowB W g (List.replicate n 0)) (hS:BitsAt W ao cap (mxL S)) (hl:S.length = n) :
  ∃ w',(∀ ty,(Builtin.copy_ #[22,22] ty #[.slice (some ⟨g,0,none⟩) n n,.slice ao n cap]).run Tryz.prog W = .ok (.int .i64 (n:Int)) w')∧RowB w' g S∧Below g W w':=by
 rcases Nat.eq_zero_or_pos n with e | e
 ·subst e
  obtain rfl:S = []:=List.eq_nil_of_length_eq_zero hl
  exact ⟨W,fun ty=>run_copy_none W _ _ ty 69 _ _ 0 0 0 cap Tryz.underlying22 (by kernel_rfl) rfl,h,Below.refl _ _⟩
 ·obtain ⟨b,off,rfl,hb,hc⟩:=hS.ne (by rw [mxL_len];omega)
  have hcs:∀ j v,(S.map bitV)[j]? = some v→W.cell? ((⟨b,off,none⟩:Addr).add j) = some v:=by
   intro j v hv
   rw [List.getElem?_map] at hv
   obtain ⟨x,hx,rfl⟩:=Option.map_eq_some_iff.1 hv
   have hj:j < S.length:=(List.getElem?_eq_some_iff.1 hx).1
   have:=hc j (by rw [mxL_len];exact hj)
   rw [mxL_at] at this
   rw [show (⟨b,off,none⟩:Addr).add j = ⟨b,off+j,none⟩ from by simp [Addr.add],this]
   rw [List.getD_eq_getElem?_getD,hx]
   rfl
  have hlen:(S.map bitV).length = n:=by rw [List.length_map,hl]
  have run:=fun ty=>run_copy_row Tryz.prog W 22 22 ty 69 g 0 n n ⟨b,off,none⟩ n cap ((List.replicate n 0).map bitV).toArray 69 (S.map bitV) Tryz.underlying22 (by kernel_rfl) h (by rw [hlen];exact (Nat.min_self n).symm) hcs (by rw [hlen];simp) (fun v hv=>by obtain ⟨x,_,rfl⟩:=List.mem_map.1 hv;rfl)
  refine ⟨_,fun ty=>(run ty).trans (by rw [hlen];rfl),?_,below_setRow (Below.refl _ _) (Nat.le_refl _) _⟩
  unfold RowB
  rw [setRow_heap W g _ _ 69 _ h]
  congr 3
  simp
end Go.Proofs.YtcbcmlaogehimaaGreatDoor
