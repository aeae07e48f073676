/- Contract of spoil: it writes into the one row that it is handed, and nowhere else. -/
import Derived.Test.YtiebegjgaflfiaaR2
import Derived.RegionTactic
import Derived.BigRegion
namespace Go.Proofs.Ytiebegjgaflfiaa
open Go.RowKit

theorem bits_nat (a b : Int) : ∃ y : Nat, y < 4294967296 ∧ bits BinOp.xor IntKind.u32 a b = (y : Int) := by
  refine ⟨(bits BinOp.xor IntKind.u32 a b).toNat, ?_, ?_⟩
  all_goals
    have h : 0 ≤ bits BinOp.xor IntKind.u32 a b ∧ bits BinOp.xor IntKind.u32 a b < 4294967296 := by
      simp only [bits, IntKind.wrap, IntKind.signed, IntKind.bits]
      simp
      omega
    omega

set_option maxHeartbeats 1000000 in
theorem spoil_any (neg : Bool) (g n cap base : Nat) (S : List Nat) (w : World) (h : w.ownsRow base 48 1 (.slice (some ⟨g, 0, none⟩) n cap) n (S.map limbV)) (hf : Fits S) (hn : n ≤ 35184372088830) :
    Calls Try.prog 16 #[.agg #[.bool neg, .slice (some ⟨g, 0, none⟩) n cap]] w fun e w' => e = .returned (.tuple #[]) ∧ w.grownBy w' (some g) := by
  have hg : g < w.heap.size := (h.lt g rfl).2
  have hgb := (h.lt g rfl).1
  have hSl : S.length = n := by have := h.1; simpa using this
  go_enter Try.func16, Try.ntmps16
  go_wp2
  go_loopw [2] (fun i wr => ∃ (k : Nat) (X : List Nat), k ≤ n ∧ i = .int .i64 k ∧ X.length = n ∧ Fits X ∧ wr.ownsRow base 48 1 (.slice (some ⟨g, 0, none⟩) n cap) n (X.map limbV) ∧ w.grownBy wr (some g) ∧ wr.cell? ⟨w.heap.size, 1, none⟩ = some (.slice (some ⟨g, 0, none⟩) n cap))
    (fun i _ => n - (intOf i).toNat)
  case atStart => exact ⟨0, S, Nat.zero_le _, rfl, hSl, hf, h.alloc _, World.grownBy_alloc _ _ _, by simp [go_sem]⟩
  case round =>
    obtain ⟨k, X, hk, rfl, hXl, hXf, hown, hgr, hbox⟩ := hrel
    by_cases hlt : k < n
    · have hc := hown.cellAt k (by omega)
      rw [List.getElem?_map, List.getElem?_eq_getElem (by omega)] at hc
      simp only [Option.map_some, limbV] at hc
      have hx : X[k] < 4294967296 := hXf _ (List.getElem_mem _)
      generalize X[k] = x at *
      have hfr := hown.frozenAt k
      have hki : (k : Int) < (n : Int) := by omega
      have hne : w.heap.size ≠ g := by omega
      have OWN := hide hown
      have GR := hide hgr
      clear hown hgr h
      go_wp2
      go_region
      obtain ⟨y, hy, hye⟩ := bits_nat (if IntKind.u32.signed = true then -1 else IntKind.u32.max) (x : Int)
      rw [hye]
      have st := (unhide OWN).stored k (.int .u32 (y : Int))
      have OW2 : Hid ((wr.setCell ⟨g, k, none⟩ (.int .u32 (y : Int))).ownsRow base 48 1 (.slice (some ⟨g, 0, none⟩) n cap) n ((X.set k y).map limbV)) := by
        have := st.1
        rw [show (X.set k y).map limbV = (X.map limbV).set k (.int .u32 (y : Int)) by simp [List.map_set, limbV]]
        exact this
      have GR2 : Hid (w.grownBy (wr.setCell ⟨g, k, none⟩ (.int .u32 (y : Int))).drew (some g)) := by
        have g1 := unhide GR
        have g2 := st.2
        exact ⟨g2.os.trans g1.os, g2.tape.trans g1.tape, g2.output.trans g1.output, Nat.le_trans g1.size g2.size, fun j hj hne => (g2.block j (Nat.lt_of_lt_of_le hj g1.size) hne).trans (g1.block j hj hne)⟩
      clear hye st
      go_wp2
      go_roundw
      case rel => exact ⟨k + 1, X.set k y, by omega, by go_num, by simpa using hXl, hXf.set _ _ hy, unhide OW2, unhide GR2, by rw [show ((wr.setCell ⟨g, k, none⟩ (.int .u32 (y : Int))).drew).cell? ⟨w.heap.size, 1, none⟩ = (wr.setCell ⟨g, k, none⟩ (.int .u32 (y : Int))).cell? ⟨w.heap.size, 1, none⟩ from rfl, cell_setCell_other _ _ _ _ (by simpa using hne)]; exact hbox⟩
      case measure => simp [intOf]; omega
    · clear h
      go_wp2
      go_end0
      exact ⟨rfl, hgr⟩

end Go.Proofs.Ytiebegjgaflfiaa
