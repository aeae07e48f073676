/- Part 34 of the texts. -/
import Derived.Test.YtnnfjeieennffaaGreatDoorPartf33
import Derived.Test.YtnnfjeieennffaaGreatDoorPartf01
import Derived.Test.YtnnfjeieennffaaGreatDoorPartf29
namespace Go.Proofs.YtnnfjeieennffaaGreatDoor
open Go.RowKit
def IsLv (w:World) (v:Value) (lo z:Int):Prop:=IsDy w v (oM z) (oE z lo)
theorem IsLv.below {w w':World} {v:Value} {lo z:Int} (h:IsLv w v lo z) (hb:Below w.heap.size w w'):IsLv w' v lo z:=IsDy.below h hb
theorem IsLv.lower {w:World} {v:Value} {lo z:Int} (h:IsLv w v lo z) (k:Nat):IsLv w v (lo - k) (z * 2 ^ k):=by
 unfold IsLv
 have s:=oM_scale z k (lo - k)
 rw [show lo - (k:Int)+k = lo by omega] at s
 rw [s.1,s.2]
 exact h
theorem rvalueN (b:Nat) (w:World) (h:b < 18446744073709551616) (hf:fFin b = true) :
  Calls Tryz.prog 58 #[.int .u64 b] w fun r w'=>∃ u,r = .returned u∧IsLv w' u (-1074) (fZ b)∧Below w.heap.size w w':=by
 obtain ⟨d1,d2⟩:=fZ_level b h hf
 unfold IsLv
 rw [d1,d2]
 exact rvalue_any b w h
theorem fZ_ne {b:Nat} (h:fZ b ≠ 0):fK b ≠ 0:=fun e=>h (by
 have:=fZ_abs b
 rw [(fK_zero b).1 e,rv_zero] at this
 omega)
theorem fD_few (b:Nat) (h:b < 18446744073709551616) (hf:fFin b = true):(oM (fZ b)).natAbs < 9007199254740992∧-1074≤oE (fZ b) (-1074)∧oE (fZ b) (-1074)≤1024:=by
 by_cases h0:fZ b = 0
 ·rw [h0,oM_zero,oE_zero];decide
 ·obtain ⟨d1,d2⟩:=fZ_level b h hf
  obtain ⟨z1,z2,z3,z4,z5,z6,z7,z8,z9⟩:=sc_facts b h hf (fZ_ne h0)
  rw [d1,d2]
  exact ⟨z2,z5,z6⟩
theorem rmulV {a b:Nat} {w:World} {v u:Value} (ha:a < 18446744073709551616) (hb:b < 18446744073709551616) (fa:fFin a = true) (fb:fFin b = true) (hv:IsLv w v (-1074) (fZ a)) (hu:IsLv w u (-1074) (fZ b)) :
  Calls Tryz.prog 59 #[v,u] w fun r w'=>∃ q,r = .returned q∧IsLv w' q (-2148) (fZ a * fZ b)∧Below w.heap.size w w':=by
 obtain ⟨x1,x2,x3⟩:=fD_few a ha fa
 obtain ⟨y1,y2,y3⟩:=fD_few b hb fb
 have:=rmul7 hv hu (by omega) (by omega) (by omega) (by omega)
 unfold IsLv
 by_cases h0:fZ a = 0
 ·rw [h0] at this ⊢
  rw [oM_zero,Int.zero_mul,oM_zero,oE_zero] at this
  rw [Int.zero_mul,oM_zero,oE_zero]
  exact this
 by_cases h1:fZ b = 0
 ·rw [h1] at this ⊢
  rw [oM_zero,Int.mul_zero,oM_zero,oE_zero] at this
  rw [Int.mul_zero,oM_zero,oE_zero]
  exact this
 obtain ⟨m1,m2⟩:=mul_level7 (fZ a) (fZ b) (-1074) (-1074) h0 h1 (oE_ge _ _ h0) (oE_ge _ _ h1)
 rw [show (-1074:Int)+-1074 = -2148 by decide] at m2
 rw [m1,m2]
 exact this
theorem rscaleL {w:World} {v:Value} {lo:Int} {W:Nat} {z:Int} (n:Int) (hv:IsLv w v lo z) (h1:Lvl lo W z) (hn:-32768≤n∧n≤32768) :
  Calls Tryz.prog 24 #[v,.int .i64 n] w fun r w'=>∃ q,r = .returned q∧IsLv w' q (lo+n) z∧Below w.heap.size w w':=by
 unfold IsLv at *
 obtain ⟨na,ao,ca,A,rfl,a1,a2,a3,a4,a5⟩:=hv.right h1.right.2
 have x1:=dRt_in h1.right.1
 have:=rscale_any na ao ca A _ n w a1 a2 x1 hn
 rw [a3,oM_oM] at this
 by_cases h0:z = 0
 ·subst h0
  rw [oM_zero,oE_zero] at *
  exact this
 ·rw [oE_oM _ _ h0] at this
  have hx:oE z (lo+n) = oE z lo+n:=by rw [oE_ne _ _ h0,oE_ne _ _ h0];omega
  rw [hx]
  exact this
end Go.Proofs.YtnnfjeieennffaaGreatDoor
namespace Go.Proofs.YtnnfjeieennffaaGreatDoor
open Go.RowKit
attribute [local go_sem ↓] Go.wp_at_zero Go.wp_at_succ
def sqK (I:List Int):Nat→Int
 | 0=>0
 | k+1=>sqK I k+fZ (atB I k) * fZ (atB I k)
end Go.Proofs.YtnnfjeieennffaaGreatDoor
namespace Go.Proofs.YtnnfjeieennffaaGreatDoor
open Go.RowKit
def toN (I:List Int):List Nat:=I.map Int.toNat
theorem toN_len (I:List Int):(toN I).length = I.length:=by simp [toN]
theorem toN_at (I:List Int) (j:Nat) (hj:j < I.length):(toN I)[j]? = some (atB I j):=by simp [toN,atB,hj]
theorem toN_take (I:List Int) (j:Nat) (hj:j < I.length):(toN I).take (j+1) = (toN I).take j ++ [atB I j]:=by
 rw [List.take_add_one,toN_at I j hj]
 rfl
theorem toN_all (I:List Int) (P:Nat→Prop) (h:∀ j,j < I.length→P (atB I j)):∀ x ∈ toN I,P x:=by
 intro x hx
 obtain ⟨j,hj,rfl⟩:=List.getElem_of_mem hx
 have hj':j < I.length:=by rw [← toN_len];exact hj
 have e:=toN_at I j hj'
 rw [List.getElem?_eq_getElem hj] at e
 rw [Option.some.inj e]
 exact h j hj'
theorem bgF_snoc (x:Nat):∀ (xs:List Nat) (m:Nat),bgF m (xs ++ [x]) = mx (bgF m xs) (fR x):=by
 intro xs
 induction xs with
 | nil=>intro m;rfl
 | cons y ys ih=>intro m;exact ih _
theorem ssV_snoc (k:Int) (x:Nat):∀ (xs:List Nat) (s:Nat),ssV k s (xs ++ [x]) = sqV k (ssV k s xs) x:=by
 intro xs
 induction xs with
 | nil=>intro m;rfl
 | cons y ys ih=>intro m;exact ih _
theorem bgK_list (I:List Int):∀ j,j≤I.length→bgK I j = bgF 0 ((toN I).take j):=by
 intro j
 induction j with
 | zero=>intro _;rfl
 | succ j ih =>
  intro hj
  rw [toN_take I j (by omega),bgF_snoc,← ih (by omega)]
  rfl
theorem bgK_all (I:List Int):bgK I I.length = bgF 0 (toN I):=by
 rw [bgK_list I _ (Nat.le_refl _),List.take_of_length_le (by rw [toN_len];exact Nat.le_refl _)]
theorem dtK_list (k:Int) (I:List Int):∀ j,j≤I.length→dtK (tL k I) (tL k I) j = ssV k 0 ((toN I).take j):=by
 intro j
 induction j with
 | zero=>intro _;rfl
 | succ j ih =>
  intro hj
  rw [toN_take I j (by omega),ssV_snoc,← ih (by omega)]
  show aV (dtK (tL k I) (tL k I) j) (mV (atB (tL k I) j) (atB (tL k I) j)) = _
  rw [show atB (tL k I) j = xV (atB I j) (-k) from mkL_at _ _ j (by omega)]
  rfl
theorem dtK_all (k:Int) (I:List Int):dtK (tL k I) (tL k I) I.length = ssV k 0 (toN I):=by
 rw [dtK_list k I _ (Nat.le_refl _),List.take_of_length_le (by rw [toN_len];exact Nat.le_refl _)]
theorem nmV_nrV (I:List Int):nmV I = nrV (toN I):=by
 unfold nmV nrV
 rw [dtK_all,bgK_all]
end Go.Proofs.YtnnfjeieennffaaGreatDoor
namespace Go.Proofs.YtnnfjeieennffaaGreatDoor
open Go.RowKit
attribute [local go_sem ↓] Go.wp_at_zero Go.wp_at_succ
theorem raddL {w:World} {v u:Value} {lo:Int} {W:Nat} {z1 z2:Int} (hv:IsLv w v lo z1) (hu:IsLv w u lo z2) (h1:Lvl lo W z1) (h2:Lvl lo W z2) :
  Calls Tryz.prog 22 #[v,u] w fun r w'=>∃ q,r = .returned q∧IsLv w' q lo (z1+z2)∧Below w.heap.size w w':=raddN hv hu h1 h2
end Go.Proofs.YtnnfjeieennffaaGreatDoor
namespace Go.Proofs.YtnnfjeieennffaaGreatDoor
open Go.RowKit
def smI (f:Nat→Int):Nat→Int
 | 0=>0
 | n+1=>smI f n+f n
end Go.Proofs.YtnnfjeieennffaaGreatDoor
