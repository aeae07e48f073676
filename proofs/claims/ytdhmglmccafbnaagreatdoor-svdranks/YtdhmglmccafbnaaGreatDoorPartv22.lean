/- Part 22 of the texts. -/
import Derived.Test.YtdhmglmccafbnaaGreatDoorPartv06
import Derived.Lib.BitFns
import Derived.Test.YtdhmglmccafbnaaGreatDoorPartv03
import Derived.Test.YtdhmglmccafbnaaGreatDoorPartv05
import Derived.Test.YtdhmglmccafbnaaGreatDoorPartv07
import Derived.Test.YtdhmglmccafbnaaGreatDoorPartv21
import Derived.Deep.RegionLaw
import Derived.Test.YtdhmglmccafbnaaGreatDoorPartv11
import Derived.Test.YtdhmglmccafbnaaGreatDoorPartv19
import Derived.Test.YtdhmglmccafbnaaGreatDoorPartv04
import Derived.Maps.AppendAt
import Derived.OwnWalk
import Derived.Test.YtdhmglmccafbnaaGreatDoorPartv15
import Derived.Test.YtdhmglmccafbnaaGreatDoorPartv14
import Derived.Test.YtdhmglmccafbnaaGreatDoorPartv12
import Derived.Test.YtdhmglmccafbnaaGreatDoorPartv13
import Derived.Deep.Cut
import Derived.BigQuiet
import Derived.Test.YtdhmglmccafbnaaGreatDoorPartv01
import Derived.Maps.Own
import Derived.Maps.OwnOps
import Derived.Maps.OwnSet
import Derived.DeepKeys4
import Derived.Test.YtdhmglmccafbnaaGreatDoorPartv08
import Derived.WalkSmall
import Derived.Test.YtdhmglmccafbnaaGreatDoorPartv02
import Derived.Test.YtdhmglmccafbnaaGreatDoorPartv18
import Derived.Test.YtdhmglmccafbnaaGreatDoorPartv16
import Derived.Test.YtdhmglmccafbnaaGreatDoorPartv17
import Derived.Test.YtdhmglmccafbnaaGreatDoorPartv09
import Derived.Test.YtdhmglmccafbnaaGreatDoorPartv20
import Derived.Deep.RegionWith
import Derived.Deep.RegionHeld3
set_option maxHeartbeats 4000000
set_option maxRecDepth 20000
namespace Go.Proofs.YtdhmglmccafbnaaGreatDoor
open Go.RowKit
def IntsAt (w:World) (ao:Option Addr) (cap:Nat) (I:List Int):Prop :=
 I.length≤cap∧(∀ x ∈ I,-9223372036854775808≤x∧x≤9223372036854775807)∧(I = [] ∨ ∃ b off,ao = some ⟨b,off,none⟩∧b < w.heap.size∧∀ i,i < I.length→w.cell? ⟨b,off+i,none⟩ = some (.int .i64 (I[i]?.getD 0)))
theorem IntsAt.below {w w':World} {ao:Option Addr} {cap:Nat} {I:List Int} (h:IntsAt w ao cap I) (hb:Below w.heap.size w w'):IntsAt w' ao cap I:=by
 refine ⟨h.1,h.2.1,?_⟩
 rcases h.2.2 with h | ⟨b,off,h1,h2,h3⟩
 ·exact .inl h
 ·refine .inr ⟨b,off,h1,Nat.lt_of_lt_of_le h2 hb.size,fun i hi=>?_⟩
  rw [hb.cell (p:=⟨b,off+i,none⟩) h2]
  exact h3 i hi
theorem IntsAt.ne {w:World} {ao:Option Addr} {cap:Nat} {I:List Int} (h:IntsAt w ao cap I) (h0:0 < I.length):∃ b off,ao = some ⟨b,off,none⟩∧b < w.heap.size∧∀ i,i < I.length→w.cell? ⟨b,off+i,none⟩ = some (.int .i64 (I[i]?.getD 0)):=by
 rcases h.2.2 with e | e
 ·rw [e] at h0;simp at h0
 ·exact e
def atI (I:List Int) (j:Nat):Int:=I[j]?.getD 0
theorem IntsAt.wf {w:World} {ao:Option Addr} {cap:Nat} {I:List Int} (h:IntsAt w ao cap I) (j:Nat):-9223372036854775808≤atI I j∧atI I j≤9223372036854775807:=by
 unfold atI
 by_cases hi:j < I.length
 ·rw [List.getElem?_eq_getElem hi];exact h.2.1 _ (List.getElem_mem hi)
 ·rw [List.getElem?_eq_none (by omega)];simp
end Go.Proofs.YtdhmglmccafbnaaGreatDoor
namespace Go.Proofs.YtdhmglmccafbnaaGreatDoor
open Go.RowKit
attribute [local go_sem ↓] Go.wp_at_zero Go.wp_at_succ
theorem at_then {K:Act→World→Prop} {Q:Exit→Act→World→Prop} {a:Act} {w:World} (F:World→Prop) (h:F w) (k:∀ W,F W→Exit.then K Q .normal a W):Exit.then K Q .normal a w:=k w h
end Go.Proofs.YtdhmglmccafbnaaGreatDoor
namespace Go.Proofs.YtdhmglmccafbnaaGreatDoor
open Go.RowKit
attribute [local go_sem ↓] Go.wp_at_zero Go.wp_at_succ
def ckE (r c:Int) (I:List Int):Int:=if okB r c I.length = true then (if fnK I I.length = true then 0 else 4) else 1
theorem ccheck_any (r c:Int) (ao:Option Addr) (cap:Nat) (I:List Int) (w:World) (hI:BitsAt w ao cap I) (hn:I.length≤35184372088830) :
  Calls Tryz.prog 88 #[.agg #[.int .i64 r,.int .i64 c,.slice ao I.length cap]] w fun e w'=>e = .returned (.int .i64 (ckE r c I))∧Below w.heap.size w w':=by
 have HC:=hide (fun w'=>mcheck_any r c ao I.length cap w' hn)
 have b0:=below_alloc9 w (.cells #[.int .i64 r,.int .i64 c,.slice ao I.length cap] 25)
 have B0:=hide b0;have X0:=hide (BoxM.new w (.int .i64 r) (.int .i64 c) (.slice ao I.length cap));have HI:=hide hI
 clear b0 hI
 cases ho:okB r c I.length
 ·rw [ho] at HC
  have e:ckE r c I = 1:=by unfold ckE;rw [ho];rfl
  rw [e]
  rw [if_neg (by decide)] at HC
  clear e ho
  go_enter Tryz.func88,Tryz.ntmps88
  go_wp2_with fail
  refine (uH HC _).mono ?_
  rintro e w1 ⟨rfl,hb1⟩
  clear HC
  go_wp2
  go_ret
  exact ⟨rfl,(uH B0).trans (hb1.mono (uH B0).size)⟩
 ·rw [ho] at HC
  rw [if_pos rfl] at HC
  have e:ckE r c I = if fnK I I.length = true then 0 else 4:=by unfold ckE;rw [ho];rfl
  rw [e]
  clear e ho
  obtain ⟨fe,hfe⟩:∃ fe:Int,(if fnK I I.length = true then 0 else 4) = fe:=⟨_,rfl⟩
  rw [hfe]
  obtain ⟨n,hnn⟩:∃ n,I.length = n:=⟨_,rfl⟩
  have HN:=hide hnn
  rw [hnn] at HC B0 X0 hn hfe ⊢
  have FE:=hide hfe
  clear hnn hfe
  go_enter Tryz.func88,Tryz.ntmps88
  go_wp2_with fail
  refine (uH HC _).mono ?_
  rintro e w1 ⟨rfl,hb1⟩
  have B1:=hide ((uH B0).trans (hb1.mono (uH B0).size));have X1:=hide ((uH X0).all hb1)
  clear HC B0 X0 hb1
  have x2:=(uH X1).c2
  go_wp2_with fail
  go_loopw [13] (fun i wr=>∃ k:Nat,k≤n∧i = .int .i64 k∧Hid (Below w1.heap.size w1 wr)∧Hid (fnK I k = true)) (fun i _=>n - (intOf i).toNat)
  case atStart=>exact ⟨0,Nat.zero_le _,rfl,Below.refl _ _,rfl⟩
  case round =>
   clear x2
   obtain ⟨k,hk,rfl,hB,hF⟩:=hrel
   have x2:=((uH X1).all (uH hB)).c2
   by_cases hlt:k < n
   ·have hkI:(k:Int) < (n:Int):=by omega
    have BW:=hide ((uH B1).trans ((uH hB).mono (uH B1).size))
    obtain ⟨b,off,hao,hb,hc⟩:=((uH HI).below (uH BW)).ne (by rw [uH HN];omega)
    have hck:=hc k (by rw [uH HN];exact hlt)
    have x64:=(uH HI).lt k
    have CF:=hide (fun w'=>sfinite_any (atB I k) w' x64)
    have NX:=hide (show fnK I (k+1) = (fnK I k && fFin (atB I k)) from rfl)
    subst hao
    clear hc x64 hb
    cases hf:fFin (atB I k)
    ·rw [hf] at CF NX
     have e:fnK I n = false:=by
      cases h:fnK I n
      ·rfl
      ·have:=fnK_down I n (k+1) (by omega) h
       rw [uH NX,Bool.and_false] at this
       cases this
     have E4:=hide (show (4:Int) = fe from by rw [← uH FE,if_neg (by rw [e];decide)])
     clear e NX hf
     generalize atB I k = x at *
     go_wp2_with fail
     refine (uH CF _).mono ?_
     rintro e w3 ⟨rfl,hb3⟩
     have BE:=hide ((uH BW).trans (hb3.mono (uH BW).size))
     clear CF hb3 hck x2
     go_wp2
     go_ret
     exact ⟨ret_int (uH E4),uH BE⟩
    ·rw [hf] at CF NX
     rw [uH hF,Bool.true_and] at NX
     clear hf
     generalize atB I k = x at *
     go_wp2_with fail
     refine (uH CF _).mono ?_
     rintro e w3 ⟨rfl,hb3⟩
     have BE:=hide ((uH hB).trans (hb3.mono (uH hB).size))
     clear CF hb3 hck x2
     go_wp2
     go_round
     case rel=>exact ⟨k+1,by omega,by go_num,BE,NX⟩
     case measure=>simp [intOf];omega
   ·have hkk:k = n:=by omega
    subst hkk
    have E0:=hide (show (0:Int) = fe from by rw [← uH FE,if_pos (uH hF)])
    have BE:=hide ((uH B1).trans ((uH hB).mono (uH B1).size))
    go_wp2
    go_ret
    exact ⟨ret_int (uH E0),uH BE⟩
end Go.Proofs.YtdhmglmccafbnaaGreatDoor
namespace Go.Proofs.YtdhmglmccafbnaaGreatDoor
open Go.RowKit
attribute [local go_sem ↓] Go.wp_at_zero Go.wp_at_succ
def intV (x:Int):Value:=.int .i64 x
end Go.Proofs.YtdhmglmccafbnaaGreatDoor
namespace Go.Proofs.YtdhmglmccafbnaaGreatDoor
def roM (r c:Nat) (S:List Nat) (i k C s:Nat):List Nat:=mkM r c (fun p q=>if p = i then aV (mV C (elM c S i q)) (mV s (elM c S k q)) else if p = k then aV (mV C (elM c S k q)) (fN (mV s (elM c S i q))) else elM c S p q)
theorem el_ro (r c:Nat) (S:List Nat) (i k C s:Nat) {p q:Nat} (hp:p < r) (hq:q < c):elM c (roM r c S i k C s) p q = if p = i then aV (mV C (elM c S i q)) (mV s (elM c S k q)) else if p = k then aV (mV C (elM c S k q)) (fN (mV s (elM c S i q))) else elM c S p q:=el_mk r c _ hp hq
end Go.Proofs.YtdhmglmccafbnaaGreatDoor
namespace Go.Proofs.YtdhmglmccafbnaaGreatDoor
def finL (xs:List Nat):Bool:=fnK (mxL xs) xs.length
end Go.Proofs.YtdhmglmccafbnaaGreatDoor
namespace Go.Proofs.YtdhmglmccafbnaaGreatDoor
open Go.RowKit
attribute [local go_sem ↓] Go.wp_at_zero Go.wp_at_succ
theorem grown_trans14 {a w w':World} {o:Option Nat} (h:a.grownBy w o) (k:w.grownBy w' o):a.grownBy w' o :=
 ⟨k.os.trans h.os,k.tape.trans h.tape,k.output.trans h.output,Nat.le_trans h.size k.size,fun i hi hr=>(k.block i (Nat.lt_of_lt_of_le hi h.size) hr).trans (h.block i hi hr)⟩
theorem grown_below14 {w w':World} (h:Below w.heap.size w w') (o:Option Nat):w.grownBy w' o:=⟨h.os,h.tape,h.output,h.size,fun k hk _=>h.block k hk⟩
theorem grown_set14 (w:World) (g j:Nat) (v:Value):w.grownBy (w.setCell ⟨g,j,none⟩ v) (some g):=by
 have h:=(Below.refl w.heap.size w)
 refine ⟨rfl,rfl,rfl,?_,fun k _ hr=>Below.heap_setCell w ⟨g,j,none⟩ v k (fun e=>hr (by rw [e]))⟩
 simp [World.setCell]
end Go.Proofs.YtdhmglmccafbnaaGreatDoor
