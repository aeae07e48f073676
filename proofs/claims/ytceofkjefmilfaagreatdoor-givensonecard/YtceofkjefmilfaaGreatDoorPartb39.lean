/- Part 39 of the texts. -/
import Derived.Test.YtceofkjefmilfaaGreatDoorPartb38
import Derived.Test.YtceofkjefmilfaaGreatDoorPartb37
import Derived.Test.YtceofkjefmilfaaGreatDoorPartb35
import Derived.Test.YtceofkjefmilfaaGreatDoorPartb29
import Derived.Test.YtceofkjefmilfaaGreatDoorChecked
import Derived.Test.YtceofkjefmilfaaGreatDoorPartb02
import Derived.ProofKit
import Derived.SizedLaws
import Derived.Lib.SmallJoins
import Derived.Test.YtceofkjefmilfaaGreatDoorRows
import Derived.Test.YtceofkjefmilfaaGreatDoorPartb11
import Derived.Lib.LaidTab
import Derived.OpenShut
import Derived.Deep.DeepHandedRow
/- GivensOne by what givens.Turn answers. -/
namespace Go.Proofs.YtceofkjefmilfaaGreatDoor
open Go.RowKit

theorem tame_two {f g : Nat} (hf : f < 18446744073709551616) (hg : g < 18446744073709551616) (h : tmK 400 [(f : Int), (g : Int)] 2 = true) : TameO f ∧ TameO g := by
  have h0 : tmB 400 (atB [(f : Int), (g : Int)] 0) = true := tmK_at 400 _ 2 0 (by omega) h
  have h1 : tmB 400 (atB [(f : Int), (g : Int)] 1) = true := tmK_at 400 _ 2 1 (by omega) h
  exact ⟨TameO.of hf h0, TameO.of hg h1⟩
theorem sqK_two (c s : Nat) : sqK [(c : Int), (s : Int)] 2 = fZ c * fZ c + fZ s * fZ s := by
  show (0 + fZ (atB [(c : Int), (s : Int)] 0) * fZ (atB [(c : Int), (s : Int)] 0)) + fZ (atB [(c : Int), (s : Int)] 1) * fZ (atB [(c : Int), (s : Int)] 1) = _
  rw [Int.zero_add]
  rfl

theorem lvl_pow {lo : Int} {W k : Nat} (h : k < W) (h1 : -16384 ≤ lo) (h2 : lo + W ≤ 16384) (h3 : W ≤ 16384) : Lvl lo W (2 ^ k) := by
  refine ⟨?_, h1, h2, h3⟩
  rw [Int.natAbs_pow]
  exact Nat.pow_lt_pow_right (by decide) h
theorem lvl_one : Lvl (-2148) 4203 (2 ^ 2148) := lvl_pow (k := 2148) (by decide) (by decide) (by decide) (by decide)
theorem near_one {w : World} {v u : Value} {c s : Nat} (q : 281474976710656 * ab (fQ c * fQ c + fQ s * fQ s - 1) ≤ 1) (h1 : IsLv w v (-2148) (sqK [(c : Int), (s : Int)] 2)) (h2 : IsLv w u (-2148) (2 ^ 2148)) (hl : Lvl (-2148) 4203 (sqK [(c : Int), (s : Int)] 2)) :
    Calls Tryz.prog 20 #[v, u, .int .i64 48] w fun e w' => e = .returned (.bool true) ∧ Below w.heap.size w w' := by
  have hi := one_int q
  rw [← sqK_two] at hi
  have l2 := lvl_one
  generalize (2 : Int) ^ 2148 = T at *
  generalize sqK [(c : Int), (s : Int)] 2 = z at *
  have := near_any 48 h1 h2 hl l2 (by decide) (by decide) (by decide) (by decide)
  rw [decide_eq_true hi] at this
  exact this

/-- GivensOne, by what givens.Turn answers. -/
theorem givensOne_by (f g : Nat) (w : World) (hf : f < 18446744073709551616) (hg : g < 18446744073709551616)
    (CT : ∀ w' a b, Below w.heap.size w w' → a < 18446744073709551616 → b < 18446744073709551616 → fFin a = true → fFin b = true → Calls Tryz.prog 8 #[.int .u64 (a : Nat), .int .u64 (b : Nat)] w' fun e w'' => e = .returned (.tuple #[.int .u64 (gvC a b : Nat), .int .u64 (gvS a b : Nat), .int .u64 (gvR a b : Nat), .int .i64 0]) ∧ Below w'.heap.size w' w'')
    (CA : ∀ w', Below w.heap.size w w' → Calls Tryz.prog 10 #[] w' fun e w'' => e = .returned (.bool true) ∧ Below w'.heap.size w' w'') :
    Calls Tryz.prog 5 #[.int .u64 f, .int .u64 g] w fun e w' => e = .returned (.bool true) ∧ Below w.heap.size w w' := by
  have C1 := fun w' ao (_hb : Below w.heap.size w w') (h : BitsAt w' ao 2 [(f : Int), (g : Int)]) => r9tame_any ao 2 [(f : Int), (g : Int)] 400 w' h (by simp) (by omega)
  simp only [List.length_cons, List.length_nil, Nat.zero_add] at C1
  cases ht : tmK 400 [(f : Int), (g : Int)] (1 + 1)
  · rw [ht] at C1
    exact givensOne_no f g w hf hg C1 CA
  · rw [ht] at C1
    obtain ⟨tf, tg⟩ := tame_two hf hg ht
    obtain ⟨q1, q2, q3, q4, q5, q6, q7, q8, q9⟩ := gv_facts tf tg
    have F1 := fun w' => rfinite_any (gvC f g) w' q4
    have F2 := fun w' => rfinite_any (gvS f g) w' q5
    rw [q1] at F1
    rw [q2] at F2
    have hfn : fnK [(gvC f g : Int), (gvS f g : Int)] 2 = true := by
      show (true && fFin (atB [(gvC f g : Int), (gvS f g : Int)] 0) && fFin (atB [(gvC f g : Int), (gvS f g : Int)] 1)) = true
      rw [show atB [(gvC f g : Int), (gvS f g : Int)] 0 = gvC f g from rfl, show atB [(gvC f g : Int), (gvS f g : Int)] 1 = gvS f g from rfl, q1, q2]
      rfl
    refine givensOne_ok f g (gvC f g) (gvS f g) (gvR f g) (-2148) (sqK [(gvC f g : Int), (gvS f g : Int)] 2) (2 ^ 2148) w hf hg q4 q5 C1 (fun w' hb => CT w' f g hb hf hg tf.2.1 tg.2.1) F1 F2 (fun w' ao h => r9squares_any ao 2 [(gvC f g : Int), (gvS f g : Int)] w' h (by simp) hfn) (fun w' B v h => rone11 w' B v h) (fun w' v u h1 h2 => ?_) CA
    exact near_one q7 h1 h2 (sqK_lvl [(gvC f g : Int), (gvS f g : Int)] 2 (by omega) hfn 2 (Nat.le_refl _))

end Go.Proofs.YtceofkjefmilfaaGreatDoor

/- The laws GivensTurns, GivensOne, GivensRight, with the program's own Turn. -/
namespace Go.Proofs.YtceofkjefmilfaaGreatDoor
open Go.RowKit

theorem ct12 (w : World) (hT : Tab w) : ∀ w' a b, Below w.heap.size w w' → a < 18446744073709551616 → b < 18446744073709551616 → fFin a = true → fFin b = true → Calls Tryz.prog 8 #[.int .u64 (a : Nat), .int .u64 (b : Nat)] w' fun e w'' => e = .returned (.tuple #[.int .u64 (gvC a b : Nat), .int .u64 (gvS a b : Nat), .int .u64 (gvR a b : Nat), .int .i64 0]) ∧ Below w'.heap.size w' w'' :=
  fun w' a b hb ha hb' fa fb => gturn_ok a b w' ha hb' fa fb (hT.all hb)

theorem ca12 (w : World) (hT : Tab w) : ∀ w', Below w.heap.size w w' → Calls Tryz.prog 10 #[] w' fun e w'' => e = .returned (.bool true) ∧ Below w'.heap.size w' w'' := fun w' hb => by
  refine awake12_of (gvC 4613937818241073152 4616189618054758400) (gvS 4613937818241073152 4616189618054758400) w' (fun w'' hb2 => ?_)
  have := ct12 w hT w'' 4613937818241073152 4616189618054758400 (hb.trans (hb2.mono hb.size)) (by decide) (by decide) fin_345.1 fin_345.2
  rw [gvR_345] at this
  exact this

theorem givensOne_walk (f g : Nat) (w : World) (hf : f < 18446744073709551616) (hg : g < 18446744073709551616) (hT : Tab w) :
    Calls Tryz.prog 5 #[.int .u64 f, .int .u64 g] w fun e w' => e = .returned (.bool true) ∧ Below w.heap.size w w' :=
  givensOne_by f g w hf hg (ct12 w hT) (ca12 w hT)

end Go.Proofs.YtceofkjefmilfaaGreatDoor

/- A struct of a sign and limbs that came in, opened. -/
namespace Go.Proofs.YtceofkjefmilfaaGreatDoor
open Go.ChangeShapes Go.WideShapes Go.ChangeAt Go.RowKit Go.Joins

theorem Tryz.own : ownKnob Tryz.prog.godebug = none := by kernel_rfl
end Go.Proofs.YtceofkjefmilfaaGreatDoor

/- A dyadic number that came in, opened; the library's table, as the row lays it. -/
namespace Go.Proofs.YtceofkjefmilfaaGreatDoor
open Go.ChangeShapes Go.WideShapes Go.ChangeAt Go.RowKit Go.Joins
theorem Tryz.tabName : Tryz.prog.globalNamed "math/bits.deBruijn32tab" = some 1 := by kernel_rfl
theorem Tryz.tabType : (Tryz.prog.globals[1]?).map (·.type) = some 164 := by kernel_rfl
theorem Tryz.tabCells : Tryz.prog.cellsOf 164 = 32 := by kernel_rfl
theorem Tryz.byteCells : Tryz.prog.cellsOf 5 = 1 := by kernel_rfl

theorem tab_getD : ∀ j, j < Lib.deBruijn32tab.length → (List.map Int.ofNat Lib.deBruijn32tab).getD j 0 = ((Lib.deBruijn32tab.getD j 0 : Nat) : Int) := by decide

/-- What the rows' list gives: the table's cells. -/
theorem tab_of_laid {W : World} (h : laidMetH Tryz.prog [("math/bits.deBruijn32tab", Rows.laid_math_bits_deBruijn32tab)] W) : Tab W := by
  have ht := Lib.tabIs_of_head (zs := Lib.deBruijn32tab.map Int.ofNat) (rest := []) Tryz.tabName Tryz.tabType Tryz.underlying164 Tryz.underlying5 Tryz.byteCells Tryz.tabCells h
  intro j hj
  have := ht.cell Tryz.tabName j (by simpa using hj)
  rw [this]
  congr 2
  exact tab_getD j hj

end Go.Proofs.YtceofkjefmilfaaGreatDoor

/- Bits that came in. -/
namespace Go.Proofs.YtceofkjefmilfaaGreatDoor
open Go.ChangeShapes Go.WideShapes Go.ChangeAt Go.RowKit

theorem nat_of_u64 {n : Int} (h : (Lit.int .u64 n).wf = true) : ∃ m : Nat, n = (m : Int) ∧ m < 18446744073709551616 := by
  simp [Lit.wf, IntKind.min, IntKind.max, IntKind.signed, IntKind.bits] at h
  exact ⟨n.toNat, by omega, by omega⟩

end Go.Proofs.YtceofkjefmilfaaGreatDoor

