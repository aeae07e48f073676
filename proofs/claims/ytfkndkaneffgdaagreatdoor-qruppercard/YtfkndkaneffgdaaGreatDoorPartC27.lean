/- Part 27 of the texts. -/
import Derived.Test.YtfkndkaneffgdaaGreatDoorPartC26
import Derived.Test.YtfkndkaneffgdaaGreatDoorPartC04
import Derived.Test.YtfkndkaneffgdaaGreatDoorPartC25
import Derived.Test.YtfkndkaneffgdaaGreatDoorPartC23
import Derived.Deep.RegionLaw
import Derived.Test.YtfkndkaneffgdaaGreatDoorPartC13
import Derived.Test.YtfkndkaneffgdaaGreatDoorPartC24
import Derived.Test.YtfkndkaneffgdaaGreatDoorPartC21
import Derived.Test.YtfkndkaneffgdaaGreatDoorPartC19
import Derived.Test.YtfkndkaneffgdaaGreatDoorPartC16
import Derived.Test.YtfkndkaneffgdaaGreatDoorPartC14
import Derived.Test.YtfkndkaneffgdaaGreatDoorPartC12
import Derived.Test.YtfkndkaneffgdaaGreatDoorPartC11
import Derived.Deep.Cut
import Derived.BigQuiet
import Derived.Test.YtfkndkaneffgdaaGreatDoorPartC05
import Derived.Test.YtfkndkaneffgdaaGreatDoorPartC02
import Derived.Maps.AppendAt
import Derived.Test.YtfkndkaneffgdaaGreatDoorPartC08
import Derived.Lib.BitFns
import Derived.Test.YtfkndkaneffgdaaGreatDoorPartC07
import Derived.Test.YtfkndkaneffgdaaGreatDoorPartC06
import Derived.Test.YtfkndkaneffgdaaGreatDoorPartC01
import Derived.Maps.Own
import Derived.Maps.OwnOps
import Derived.Maps.OwnSet
import Derived.DeepKeys4
import Derived.WalkSmall
import Derived.OwnWalk
import Derived.Deep.AppendLies
namespace Go.Proofs.YtfkndkaneffgdaaGreatDoor
open Go.RowKit
set_option maxRecDepth 20000 in
theorem cfPart1 (args:Array Value) (w:World):(callFunc 60 args).run Tryz.prog w = .ok (.enter 60 args) w:=by
 simp only [callFunc,go_sem]
 rfl
set_option maxRecDepth 20000 in
theorem cfEye1 (args:Array Value) (w:World):(callFunc 77 args).run Tryz.prog w = .ok (.enter 77 args) w:=by
 simp only [callFunc,go_sem]
 rfl
theorem mPart_ok (r c cap i k a b:Nat) (ao:Option Addr) (S:List Nat) (w:World) (h:Mx w ao cap r c S) (hi:i+a≤r) (hk:k+b≤c) :
  Calls Tryz.prog 31 #[.agg #[.int .i64 r,.int .i64 c,.slice ao S.length cap],.int .i64 i,.int .i64 k,.int .i64 a,.int .i64 b] w fun e w'=>∃ v,e = .returned (.tuple #[v,.int .i64 0])∧NewM w.heap.size w' a b (paM c S i k a b) v∧Below w.heap.size w w':=by
 have h6:=h.2.2.1
 have c6:=h.2.2.2
 refine mpart_of r c ao S.length cap i k a b a b (paM c S i k a b) w (by have:=h.small;omega) (mx_ok h) (fun w'=>?_) (fun w'=>?_) ?_
 ·have:=lies_any i a r w' (by omega) (by omega)
  rwa [decide_eq_true (by omega)] at this
 ·have:=lies_any k b c w' (by omega) (by omega)
  rwa [decide_eq_true (by omega)] at this
 ·intro w1 hB hA ci ck
  refine build_any 60 _ a b _ w1 cfPart1 (by omega) (by omega) (fun x y _ _=>h.el_lt _ _) ?_
  intro w' x y hb hx hy
  have hb':Below w.heap.size w w':=hB.trans (hb.mono hB.size)
  refine part1_of r c S.length cap x y i k _ w.heap.size (w.heap.size+1) (w.heap.size+1+1) ao w' (by omega) (by omega) (hA.all hb) (cell_keep ci hb) (cell_keep ck hb) ?_
  rw [show (i:Int)+(x:Int) = ((i+x:Nat):Int) by simp,show (k:Int)+(y:Int) = ((k+y:Nat):Int) by simp]
  exact mat_any r c cap (i+x) (k+y) ao S w' (h.below hb') (by omega) (by omega)
theorem mEye_ok (n:Nat) (w:World) (hn:n≤6) :
  Calls Tryz.prog 45 #[.int .i64 n] w fun e w'=>∃ v,e = .returned (.tuple #[v,.int .i64 0])∧NewM w.heap.size w' n n (eyM n) v∧Below w.heap.size w w' :=
 meye_of n n n _ w (decide_eq_true (by omega)) (fun w1 _=>build_any 77 #[] n n _ w1 cfEye1 hn hn (fun i k _ _=>by split <;> decide) (fun w' i k _ _ _=>eye1_any i k w'))
end Go.Proofs.YtfkndkaneffgdaaGreatDoor
namespace Go.Proofs.YtfkndkaneffgdaaGreatDoor
open Go.RowKit
attribute [local go_sem ↓] Go.wp_at_zero Go.wp_at_succ
set_option maxRecDepth 20000 in
set_option maxHeartbeats 2000000 in
theorem rat_of (r c n cap b off i k q x:Nat) (w:World) (hq:(i:Int) * (c:Int) = (q:Int)) (hlt:q+k < n) (hn:n≤36)
  (hx:w.cell? ⟨b,off+(q+k),none⟩ = some (.int .u64 (x:Nat))) :
  Calls Tryz.prog 15 #[.agg #[.int .i64 r,.int .i64 c,.slice (some ⟨b,off,none⟩) n cap],.int .i64 i,.int .i64 k] w fun e w'=>e = .returned (.int .u64 (x:Nat))∧Below w.heap.size w w':=by
 have hb0:=hide (below_alloc9 w (.cells #[.int .i64 r,.int .i64 c,.slice (some ⟨b,off,none⟩) n cap] 24))
 have cx:=cell_keep hx (uH hb0)
 clear hx
 have hkI:(q:Int)+(k:Int) < (n:Int):=by omega
 go_enter Tryz.func15,Tryz.ntmps15
 go_wp2
 go_ret
 exact ⟨rfl,uH hb0⟩
theorem rat_any (r c cap i k:Nat) (ao:Option Addr) (S:List Nat) (w:World) (h:Mx w ao cap r c S) (hi:i < r) (hk:k < c) :
  Calls Tryz.prog 15 #[.agg #[.int .i64 r,.int .i64 c,.slice ao S.length cap],.int .i64 i,.int .i64 k] w fun e w'=>e = .returned (.int .u64 (elM c S i k:Nat))∧Below w.heap.size w w':=by
 obtain ⟨b,off,rfl,h2,h3,h4⟩:=h.cells hi hk
 exact rat_of r c S.length cap b off i k (i * c) _ w (cast_mul10 i c) h4 h.small h3
end Go.Proofs.YtfkndkaneffgdaaGreatDoor
namespace Go.Proofs.YtfkndkaneffgdaaGreatDoor
open Go.RowKit
structure Nm where
 neg:Bool
 ao:Option Addr
 cap:Nat
 L:List Nat
structure Rw where
 ao:Option Addr
 cap:Nat
 R:List Nm
def Nm.nil:Nm:=⟨false,none,0,[]⟩
def Rw.nil:Rw:=⟨none,0,[]⟩
def nmAt (R:List Nm) (k:Nat):Nm:=R[k]?.getD Nm.nil
def rwAt (M:List Rw) (i:Nat):Rw:=M[i]?.getD Rw.nil
end Go.Proofs.YtfkndkaneffgdaaGreatDoor
namespace Go.Proofs.YtfkndkaneffgdaaGreatDoor
open Go.RowKit
attribute [local go_sem ↓] Go.wp_at_zero Go.wp_at_succ
def ckE (r c:Int) (I:List Int):Int:=if okB r c I.length = true then (if fnK I I.length = true then 0 else 4) else 1
set_option maxRecDepth 20000 in
set_option maxHeartbeats 4000000 in
theorem ccheck_any (r c:Int) (ao:Option Addr) (cap:Nat) (I:List Int) (w:World) (hI:BitsAt w ao cap I) (hn:I.length≤35184372088830) :
  Calls Tryz.prog 21 #[.agg #[.int .i64 r,.int .i64 c,.slice ao I.length cap]] w fun e w'=>e = .returned (.int .i64 (ckE r c I))∧Below w.heap.size w w':=by
 have HC:=hide (fun w'=>mcheck_any r c ao I.length cap w' hn)
 have b0:=below_alloc9 w (.cells #[.int .i64 r,.int .i64 c,.slice ao I.length cap] 24)
 have B0:=hide b0;have X0:=hide (BoxM.new w (.int .i64 r) (.int .i64 c) (.slice ao I.length cap));have HI:=hide hI
 clear b0 hI
 cases ho:okB r c I.length
 ·rw [ho] at HC
  have e:ckE r c I = 1:=by unfold ckE;rw [ho];rfl
  rw [e]
  rw [if_neg (by decide)] at HC
  clear e ho
  go_enter Tryz.func21,Tryz.ntmps21
  go_wp2_with fail
  refine (uH HC _).mono ?_
  rintro e w1 ⟨rfl,hb1⟩
  clear HC
  go_wp2
  go_ret
  exact ⟨rfl,(uH B0).trans (hb1.mono (uH B0).size)⟩
 ·rw [ho] at HC
  rw [if_pos rfl] at HC
  have e:ckE r c I = if fnK I I.length = true then 0 else 4:=by unfold ckE;rw [ho];rfl
  rw [e]
  clear e ho
  obtain ⟨fe,hfe⟩:∃ fe:Int,(if fnK I I.length = true then 0 else 4) = fe:=⟨_,rfl⟩
  rw [hfe]
  obtain ⟨n,hnn⟩:∃ n,I.length = n:=⟨_,rfl⟩
  have HN:=hide hnn
  rw [hnn] at HC B0 X0 hn hfe ⊢
  have FE:=hide hfe
  clear hnn hfe
  go_enter Tryz.func21,Tryz.ntmps21
  go_wp2_with fail
  refine (uH HC _).mono ?_
  rintro e w1 ⟨rfl,hb1⟩
  have B1:=hide ((uH B0).trans (hb1.mono (uH B0).size));have X1:=hide ((uH X0).all hb1)
  clear HC B0 X0 hb1
  have x2:=(uH X1).c2
  go_wp2_with fail
  go_loopw [13] (fun i wr=>∃ k:Nat,k≤n∧i = .int .i64 k∧Hid (Below w1.heap.size w1 wr)∧Hid (fnK I k = true)) (fun i _=>n - (intOf i).toNat)
  case atStart=>exact ⟨0,Nat.zero_le _,rfl,Below.refl _ _,rfl⟩
  case round =>
   clear x2
   obtain ⟨k,hk,rfl,hB,hF⟩:=hrel
   have x2:=((uH X1).all (uH hB)).c2
   by_cases hlt:k < n
   ·have hkI:(k:Int) < (n:Int):=by omega
    have BW:=hide ((uH B1).trans ((uH hB).mono (uH B1).size))
    obtain ⟨b,off,hao,hb,hc⟩:=((uH HI).below (uH BW)).ne (by rw [uH HN];omega)
    have hck:=hc k (by rw [uH HN];exact hlt)
    have x64:=(uH HI).lt k
    have CF:=hide (fun w'=>sfinite_any (atB I k) w' x64)
    have NX:=hide (show fnK I (k+1) = (fnK I k && fFin (atB I k)) from rfl)
    subst hao
    clear hc x64 hb
    cases hf:fFin (atB I k)
    ·rw [hf] at CF NX
     have e:fnK I n = false:=by
      cases h:fnK I n
      ·rfl
      ·have:=fnK_down I n (k+1) (by omega) h
       rw [uH NX,Bool.and_false] at this
       cases this
     have E4:=hide (show (4:Int) = fe from by rw [← uH FE,if_neg (by rw [e];decide)])
     clear e NX hf
     generalize atB I k = x at *
     go_wp2_with fail
     refine (uH CF _).mono ?_
     rintro e w3 ⟨rfl,hb3⟩
     have BE:=hide ((uH BW).trans (hb3.mono (uH BW).size))
     clear CF hb3 hck x2
     go_wp2
     go_ret
     exact ⟨ret_int (uH E4),uH BE⟩
    ·rw [hf] at CF NX
     rw [uH hF,Bool.true_and] at NX
     clear hf
     generalize atB I k = x at *
     go_wp2_with fail
     refine (uH CF _).mono ?_
     rintro e w3 ⟨rfl,hb3⟩
     have BE:=hide ((uH hB).trans (hb3.mono (uH hB).size))
     clear CF hb3 hck x2
     go_wp2
     go_round
     case rel=>exact ⟨k+1,by omega,by go_num,BE,NX⟩
     case measure=>simp [intOf];omega
   ·have hkk:k = n:=by omega
    subst hkk
    have E0:=hide (show (0:Int) = fe from by rw [← uH FE,if_pos (uH hF)])
    have BE:=hide ((uH B1).trans ((uH hB).mono (uH B1).size))
    go_wp2
    go_ret
    exact ⟨ret_int (uH E0),uH BE⟩
end Go.Proofs.YtfkndkaneffgdaaGreatDoor
namespace Go.Proofs.YtfkndkaneffgdaaGreatDoor
def ngt (xs:List Nat):Bool:=xs.all (fun x=>decide (fK x = 0))
def ldS:List Nat→Bool
 | []=>false
 | x :: xs=>if fK x = 0 then ldS xs else fS x
def hmB (a:Nat) (xs:List Nat):Nat:=if ldS (a :: xs) = true then nrV (a :: xs) else fN (nrV (a :: xs))
def hmD (a:Nat) (xs:List Nat):Nat:=aV a (fN (hmB a xs))
def mrB:List Nat→Nat
 | []=>0
 | a :: xs=>if ngt xs = true then a else hmB a xs
def mrT:List Nat→Nat
 | []=>0
 | a :: xs=>if ngt xs = true then 0 else dV (aV (hmB a xs) (fN a)) (hmB a xs)
def mrV:List Nat→List Nat
 | []=>[]
 | a :: xs=>4607182418800017408 :: xs.map (fun x=>if ngt xs = true then 0 else dV x (hmD a xs))
def mrK:List Nat→Bool
 | []=>true
 | a :: xs=>ngt xs || (fFin (hmB a xs) && fFin (hmD a xs))
theorem toN_mxL (xs:List Nat):toN (mxL xs) = xs:=by
 unfold toN mxL
 rw [List.map_map]
 exact List.map_id'' (fun x=>by simp) xs
theorem nrV_lt (xs:List Nat):nrV xs < 18446744073709551616:=by
 have:=nmV_lt (mxL xs)
 rwa [nmV_nrV,toN_mxL] at this
theorem hmB_lt (a:Nat) (xs:List Nat):hmB a xs < 18446744073709551616:=by
 unfold hmB
 split
 ·exact nrV_lt _
 ·exact fN_lt _ (nrV_lt _)
theorem hmD_lt (a:Nat) (xs:List Nat) (ha:a < 18446744073709551616):hmD a xs < 18446744073709551616:=aV_lt _ _ ha (fN_lt _ (hmB_lt _ _))
theorem mrB_lt (xs:List Nat) (h:∀ x ∈ xs,x < 18446744073709551616):mrB xs < 18446744073709551616:=by
 match xs with
 | []=>decide
 | a :: xs =>
  show (if ngt xs = true then a else hmB a xs) < _
  split
  ·exact h a List.mem_cons_self
  ·exact hmB_lt _ _
theorem mrT_lt (xs:List Nat):mrT xs < 18446744073709551616:=by
 match xs with
 | []=>decide
 | a :: xs =>
  show (if ngt xs = true then 0 else dV (aV (hmB a xs) (fN a)) (hmB a xs)) < _
  split
  ·decide
  ·exact dV_lt _ _
theorem mrV_len (xs:List Nat):(mrV xs).length = xs.length:=by
 match xs with
 | []=>rfl
 | a :: xs=>simp [mrV]
theorem ngt_true {xs:List Nat} (h:ngt xs = true):∀ x ∈ xs,fK x = 0:=fun x hx=>of_decide_eq_true (List.all_eq_true.1 h x hx)
end Go.Proofs.YtfkndkaneffgdaaGreatDoor
