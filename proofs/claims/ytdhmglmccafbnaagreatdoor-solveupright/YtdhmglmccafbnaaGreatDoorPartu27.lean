/- Part 27 of the texts. -/
import Derived.Test.YtdhmglmccafbnaaGreatDoorPartu06
import Derived.Lib.BitFns
import Derived.Test.YtdhmglmccafbnaaGreatDoorPartu01
import Derived.Test.YtdhmglmccafbnaaGreatDoorPartu26
import Derived.Test.YtdhmglmccafbnaaGreatDoorPartu05
import Derived.Test.YtdhmglmccafbnaaGreatDoorPartu07
import Derived.Test.YtdhmglmccafbnaaGreatDoorPartu25
import Derived.Test.YtdhmglmccafbnaaGreatDoorPartu12
import Derived.Test.YtdhmglmccafbnaaGreatDoorPartu22
import Derived.Test.YtdhmglmccafbnaaGreatDoorPartu13
import Derived.Deep.Cut
import Derived.BigQuiet
set_option maxHeartbeats 4000000
set_option maxRecDepth 20000
namespace Go.Proofs.YtdhmglmccafbnaaGreatDoor
open Go.RowKit
def elems (s:Nat):List Nat:=(List.range 6).filter (fun c=>s.testBit c)
def top (s:Nat):Nat:=(elems s).getLast?.getD 0
end Go.Proofs.YtdhmglmccafbnaaGreatDoor
namespace Go.Proofs.YtdhmglmccafbnaaGreatDoor
def sumRows (a:Nat→Nat→Int) (t:Nat→Int):Nat→Nat→Int
 | 0=>fun _=>0
 | k+1=>fun c=>1 * sumRows a t k c+t k * a k c
def factN:Nat→Nat
 | 0=>1
 | n+1=>(n+1) * factN n
end Go.Proofs.YtdhmglmccafbnaaGreatDoor
namespace Go.Proofs.YtdhmglmccafbnaaGreatDoor
def N80:Nat:=80
def B80:Nat:=4294967296 ^ N80
def NB (k:Nat):Nat:=factN k * B80 ^ k
end Go.Proofs.YtdhmglmccafbnaaGreatDoor
namespace Go.Proofs.YtdhmglmccafbnaaGreatDoor
open Go.RowKit
attribute [local go_sem ↓] Go.wp_at_zero Go.wp_at_succ
def ckE (r c:Int) (I:List Int):Int:=if okB r c I.length = true then (if fnK I I.length = true then 0 else 4) else 1
theorem ccheck_any (r c:Int) (ao:Option Addr) (cap:Nat) (I:List Int) (w:World) (hI:BitsAt w ao cap I) (hn:I.length≤35184372088830) :
  Calls Tryz.prog 88 #[.agg #[.int .i64 r,.int .i64 c,.slice ao I.length cap]] w fun e w'=>e = .returned (.int .i64 (ckE r c I))∧Below w.heap.size w w':=by
 have HC:=hide (fun w'=>mcheck_any r c ao I.length cap w' hn)
 have b0:=below_alloc9 w (.cells #[.int .i64 r,.int .i64 c,.slice ao I.length cap] 25)
 have B0:=hide b0;have X0:=hide (BoxM.new w (.int .i64 r) (.int .i64 c) (.slice ao I.length cap));have HI:=hide hI
 clear b0 hI
 cases ho:okB r c I.length
 ·rw [ho] at HC
  have e:ckE r c I = 1:=by unfold ckE;rw [ho];rfl
  rw [e]
  rw [if_neg (by decide)] at HC
  clear e ho
  go_enter Tryz.func88,Tryz.ntmps88
  go_wp2_with fail
  refine (uH HC _).mono ?_
  rintro e w1 ⟨rfl,hb1⟩
  clear HC
  go_wp2
  go_ret
  exact ⟨rfl,(uH B0).trans (hb1.mono (uH B0).size)⟩
 ·rw [ho] at HC
  rw [if_pos rfl] at HC
  have e:ckE r c I = if fnK I I.length = true then 0 else 4:=by unfold ckE;rw [ho];rfl
  rw [e]
  clear e ho
  obtain ⟨fe,hfe⟩:∃ fe:Int,(if fnK I I.length = true then 0 else 4) = fe:=⟨_,rfl⟩
  rw [hfe]
  obtain ⟨n,hnn⟩:∃ n,I.length = n:=⟨_,rfl⟩
  have HN:=hide hnn
  rw [hnn] at HC B0 X0 hn hfe ⊢
  have FE:=hide hfe
  clear hnn hfe
  go_enter Tryz.func88,Tryz.ntmps88
  go_wp2_with fail
  refine (uH HC _).mono ?_
  rintro e w1 ⟨rfl,hb1⟩
  have B1:=hide ((uH B0).trans (hb1.mono (uH B0).size));have X1:=hide ((uH X0).all hb1)
  clear HC B0 X0 hb1
  have x2:=(uH X1).c2
  go_wp2_with fail
  go_loopw [13] (fun i wr=>∃ k:Nat,k≤n∧i = .int .i64 k∧Hid (Below w1.heap.size w1 wr)∧Hid (fnK I k = true)) (fun i _=>n - (intOf i).toNat)
  case atStart=>exact ⟨0,Nat.zero_le _,rfl,Below.refl _ _,rfl⟩
  case round =>
   clear x2
   obtain ⟨k,hk,rfl,hB,hF⟩:=hrel
   have x2:=((uH X1).all (uH hB)).c2
   by_cases hlt:k < n
   ·have hkI:(k:Int) < (n:Int):=by omega
    have BW:=hide ((uH B1).trans ((uH hB).mono (uH B1).size))
    obtain ⟨b,off,hao,hb,hc⟩:=((uH HI).below (uH BW)).ne (by rw [uH HN];omega)
    have hck:=hc k (by rw [uH HN];exact hlt)
    have x64:=(uH HI).lt k
    have CF:=hide (fun w'=>sfinite_any (atB I k) w' x64)
    have NX:=hide (show fnK I (k+1) = (fnK I k && fFin (atB I k)) from rfl)
    subst hao
    clear hc x64 hb
    cases hf:fFin (atB I k)
    ·rw [hf] at CF NX
     have e:fnK I n = false:=by
      cases h:fnK I n
      ·rfl
      ·have:=fnK_down I n (k+1) (by omega) h
       rw [uH NX,Bool.and_false] at this
       cases this
     have E4:=hide (show (4:Int) = fe from by rw [← uH FE,if_neg (by rw [e];decide)])
     clear e NX hf
     generalize atB I k = x at *
     go_wp2_with fail
     refine (uH CF _).mono ?_
     rintro e w3 ⟨rfl,hb3⟩
     have BE:=hide ((uH BW).trans (hb3.mono (uH BW).size))
     clear CF hb3 hck x2
     go_wp2
     go_ret
     exact ⟨ret_int (uH E4),uH BE⟩
    ·rw [hf] at CF NX
     rw [uH hF,Bool.true_and] at NX
     clear hf
     generalize atB I k = x at *
     go_wp2_with fail
     refine (uH CF _).mono ?_
     rintro e w3 ⟨rfl,hb3⟩
     have BE:=hide ((uH hB).trans (hb3.mono (uH hB).size))
     clear CF hb3 hck x2
     go_wp2
     go_round
     case rel=>exact ⟨k+1,by omega,by go_num,BE,NX⟩
     case measure=>simp [intOf];omega
   ·have hkk:k = n:=by omega
    subst hkk
    have E0:=hide (show (0:Int) = fe from by rw [← uH FE,if_pos (uH hF)])
    have BE:=hide ((uH B1).trans ((uH hB).mono (uH B1).size))
    go_wp2
    go_ret
    exact ⟨ret_int (uH E0),uH BE⟩
end Go.Proofs.YtdhmglmccafbnaaGreatDoor
namespace Go.Proofs.YtdhmglmccafbnaaGreatDoor
open Go.RowKit
attribute [local go_sem ↓] Go.wp_at_zero Go.wp_at_succ
theorem boxes1D (w:World) (r c:Int) (ao:Option Addr) (n cap:Nat):BoxM ((w.alloc (.cells #[.int .i64 r,.int .i64 c,.slice ao n cap] 25)).alloc (.cells #[.bool false,.slice none 0 0,.int .i64 0] 41)) w.heap.size (.int .i64 r) (.int .i64 c) (.slice ao n cap)∧Box3 ((w.alloc (.cells #[.int .i64 r,.int .i64 c,.slice ao n cap] 25)).alloc (.cells #[.bool false,.slice none 0 0,.int .i64 0] 41)) (w.heap.size+1) (.bool false) (.slice none 0 0) (.int .i64 0)∧Below w.heap.size w ((w.alloc (.cells #[.int .i64 r,.int .i64 c,.slice ao n cap] 25)).alloc (.cells #[.bool false,.slice none 0 0,.int .i64 0] 41)):=by
 have b0:=below_alloc9 w (.cells #[.int .i64 r,.int .i64 c,.slice ao n cap] 25)
 have s0:=size_alloc9 w (.cells #[.int .i64 r,.int .i64 c,.slice ao n cap] 25)
 have x0:=BoxM.new w (.int .i64 r) (.int .i64 c) (.slice ao n cap)
 generalize w.alloc (.cells #[.int .i64 r,.int .i64 c,.slice ao n cap] 25) = w0 at *
 have b1:=below_alloc9 w0 (.cells #[.bool false,.slice none 0 0,.int .i64 0] 41)
 have x1:=Box3.new w0 (.bool false) (.slice none 0 0) (.int .i64 0)
 rw [s0] at x1
 exact ⟨x0.all b1,x1,b0.trans (b1.mono b0.size)⟩
def Bx3D (w W:World) (r c p q s d:Int) (ao bo co:Option Addr) (na nb nc ca cb cc:Nat):Prop :=
 BoxM W w.heap.size (.int .i64 r) (.int .i64 c) (.slice ao na ca)∧BoxM W (w.heap.size+1) (.int .i64 p) (.int .i64 q) (.slice bo nb cb)∧BoxM W (w.heap.size+1+1) (.int .i64 s) (.int .i64 d) (.slice co nc cc)∧Box3 W (w.heap.size+1+1+1) (.bool false) (.slice none 0 0) (.int .i64 0)∧Below w.heap.size w W
theorem Bx3D.all {w W W':World} {r c p q s d:Int} {ao bo co:Option Addr} {na nb nc ca cb cc:Nat} (h:Bx3D w W r c p q s d ao bo co na nb nc ca cb cc) (hb:Below W.heap.size W W'):Bx3D w W' r c p q s d ao bo co na nb nc ca cb cc :=
 ⟨h.1.all hb,h.2.1.all hb,h.2.2.1.all hb,h.2.2.2.1.all hb,h.2.2.2.2.trans (hb.mono h.2.2.2.2.size)⟩
theorem Bx3D.start (w:World) (r c p q s d:Int) (ao bo co:Option Addr) (na nb nc ca cb cc:Nat):Bx3D w ((((w.alloc (.cells #[.int .i64 r,.int .i64 c,.slice ao na ca] 25)).alloc (.cells #[.int .i64 p,.int .i64 q,.slice bo nb cb] 25)).alloc (.cells #[.int .i64 s,.int .i64 d,.slice co nc cc] 25)).alloc (.cells #[.bool false,.slice none 0 0,.int .i64 0] 41)) r c p q s d ao bo co na nb nc ca cb cc:=by
 have b0:=below_alloc9 w (.cells #[.int .i64 r,.int .i64 c,.slice ao na ca] 25)
 have s0:=size_alloc9 w (.cells #[.int .i64 r,.int .i64 c,.slice ao na ca] 25)
 have x0:=BoxM.new w (.int .i64 r) (.int .i64 c) (.slice ao na ca)
 generalize w.alloc (.cells #[.int .i64 r,.int .i64 c,.slice ao na ca] 25) = w0 at *
 have b1:=below_alloc9 w0 (.cells #[.int .i64 p,.int .i64 q,.slice bo nb cb] 25)
 have s1:=size_alloc9 w0 (.cells #[.int .i64 p,.int .i64 q,.slice bo nb cb] 25)
 have x1:=BoxM.new w0 (.int .i64 p) (.int .i64 q) (.slice bo nb cb)
 generalize w0.alloc (.cells #[.int .i64 p,.int .i64 q,.slice bo nb cb] 25) = w1 at *
 have b2:=below_alloc9 w1 (.cells #[.int .i64 s,.int .i64 d,.slice co nc cc] 25)
 have s2:=size_alloc9 w1 (.cells #[.int .i64 s,.int .i64 d,.slice co nc cc] 25)
 have x2:=BoxM.new w1 (.int .i64 s) (.int .i64 d) (.slice co nc cc)
 generalize w1.alloc (.cells #[.int .i64 s,.int .i64 d,.slice co nc cc] 25) = w2 at *
 have b3:=below_alloc9 w2 (.cells #[.bool false,.slice none 0 0,.int .i64 0] 41)
 have x3:=Box3.new w2 (.bool false) (.slice none 0 0) (.int .i64 0)
 rw [s2,s1,s0] at x3
 rw [s1,s0] at x2
 rw [s0] at x1
 have bb:=(b0.trans (b1.mono b0.size)).trans (b2.mono (Nat.le_trans b0.size b1.size))
 exact ⟨((x0.all b1).all b2).all b3,(x1.all b2).all b3,x2.all b3,x3,bb.trans (b3.mono bb.size)⟩
end Go.Proofs.YtdhmglmccafbnaaGreatDoor
namespace Go.Proofs.YtdhmglmccafbnaaGreatDoor
open Go.RowKit
attribute [local go_sem ↓] Go.wp_at_zero Go.wp_at_succ
theorem BoxM.oth3 {w:World} {b:Nat} {x y z:Value} (h:BoxM w b x y z) {g:Nat} (hg:b ≠ g) (u u' u'':Value):BoxM (((w.setCell ⟨g,0,none⟩ u).setCell ⟨g,1,none⟩ u').setCell ⟨g,2,none⟩ u'') b x y z :=
 ((h.other (p:=⟨g,0,none⟩) hg u).other (p:=⟨g,1,none⟩) hg u').other (p:=⟨g,2,none⟩) hg u''
end Go.Proofs.YtdhmglmccafbnaaGreatDoor
namespace Go.Proofs.YtdhmglmccafbnaaGreatDoor
open Go.RowKit
theorem fZ_lvl (b:Nat) (hf:fFin b = true):Lvl (-1074) 2098 (fZ b):=⟨fZ_lt b hf,by decide,by decide,by decide⟩
theorem up_lvl (b:Nat) (hf:fFin b = true):Lvl (-2148) 4200 (fZ b * 2 ^ 1074):=⟨up_ltV (j:=2098) (k:=1074) (V:=4200) (by decide) (fZ_lt b hf),by decide,by decide,by decide⟩
theorem dt_lvl (n:Nat) (hn:n≤8) (x y:Nat→Nat) (hx:∀ j,j < n→fFin (x j) = true) (hy:∀ j,j < n→fFin (y j) = true):Lvl (-2148) 4200 (smI (fun j=>fZ (x j) * fZ (y j)) n) :=
 (dtZ_lvl n hn x y hx hy).more (by decide) (by decide) (by decide)
theorem pr_lvl (a b:Nat) (ha:fFin a = true) (hb:fFin b = true):Lvl (-2148) 4200 (fZ a * fZ b) :=
 (show Lvl (-2148) 4196 (fZ a * fZ b) from ⟨mul_ltV (j:=2098) (k:=2098) (V:=4196) (by decide) (fZ_lt a ha) (fZ_lt b hb),by decide,by decide,by decide⟩).more (by decide) (by decide) (by decide)
theorem lack_lvl (n c:Nat) (A X B:List Nat) (i k:Nat) (hn:n≤6) (fA:∀ x ∈ A,fFin x = true) (fX:∀ x ∈ X,fFin x = true) (fB:∀ x ∈ B,fFin x = true):Lvl (-2148) 4200 (smI (fun j=>fZ (elM n A i j) * fZ (elM c X j k)) n - fZ (elM c B i k) * 2 ^ 1074) :=
 ⟨lack_lt n c A X B i k (by omega) fA fX fB,by decide,by decide,by decide⟩
end Go.Proofs.YtdhmglmccafbnaaGreatDoor
