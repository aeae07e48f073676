/- Contracts of what only reads: trim, Same, compareLimbs, More. -/
import Derived.Test.YtiebegjgaflfiaaW1
import Derived.Test.YtiebegjgaflfiaaNum
namespace Go.Proofs.Ytiebegjgaflfiaa
open Go.RowKit

theorem quiet_eq {P : Program} {f : FuncId} {args : Array Value} {w : World} {n : Nat} {v : Value}
    (h : Calls P f args (w.drewN n) fun e w' => e = .returned v ∧ w.drewN n = w') : Calls P f args (w.drewN n) fun e w'' => e = .returned v ∧ ∃ m, w'' = w.drewN m :=
  h.mono fun _ _ ⟨he, hm⟩ => ⟨he, n, hm.symm⟩

/-- What trim answers: a beginning of L, with no 0 on top, of the same value. -/
def Trimmed (ao : Option Addr) (cap : Nat) (L : List Nat) (v : Value) : Prop :=
  ∃ ao' cap' L', v = .slice ao' L'.length cap' ∧ Canon L' ∧ val L' = val L ∧ L'.length ≤ L.length ∧ (∀ w, LimbsAt w ao cap L → LimbsAt w ao' cap' L') ∧ (∀ B, NewAt B ao L → NewAt B ao' L')

theorem NewAt.take {B : Nat} {ao : Option Addr} {L : List Nat} (h : NewAt B ao L) (n : Nat) : NewAt B ao (L.take n) := by
  rcases h with h | h
  · left; simp [h]
  · exact .inr h

set_option maxHeartbeats 400000 in
theorem trim_any (ao : Option Addr) (cap : Nat) (L : List Nat) (w : World) (h : LimbsAt w ao cap L) (hl : L.length ≤ 35184372088832) :
    Calls Try.prog 49 #[.slice ao L.length cap] w fun e w' => ∃ v, e = .returned v ∧ Trimmed ao cap L v ∧ w = w' := by
  have key : ∀ k, k < L.length → val (L.take (L.length - k)) = val L → L[L.length - k - 1]?.getD 0 ≠ 0 → Trimmed ao cap L (.slice ao (L.length - k) cap) := by
    intro k hk hv hx
    refine ⟨ao, cap, L.take (L.length - k), ?_, ?_, hv, by simp, fun w h => h.take _, fun B h => h.take _⟩
    · rw [List.length_take, Nat.min_eq_left (by omega)]
    · right
      rw [List.length_take, Nat.min_eq_left (by omega), List.getElem?_take, if_pos (by omega)]
      exact hx
  have key0 : val (L.take 0) = val L → Trimmed ao cap L (.slice none 0 0) := by
    intro hv
    exact ⟨none, 0, [], rfl, .inl rfl, by simpa using hv, by simp, fun _ _ => LimbsAt.nil _ _ _, fun _ _ => .inl rfl⟩
  have K := hide key
  have K0 := hide key0
  clear key key0
  rcases h.2.2 with h0 | ⟨b, off, rfl, hb, hc⟩
  · subst h0
    clear K
    go_enter Try.func49, Try.ntmps49
    go_wp2
    refine wp_loop_rounds 1 ?_
    rw [rounds_succ]
    go_wp2
    go_ret
    exact ⟨_, rfl, unhide K0 rfl, rfl⟩
  · have hcap := h.1
    go_enter Try.func49, Try.ntmps49
    go_wp2
    go_loop [7] (fun i => ∃ k : Nat, k ≤ L.length ∧ i = .int .i64 k ∧ Hid (val (L.take (L.length - k)) = val L)) (fun i => L.length - (intOf i).toNat)
    case atStart => exact ⟨0, Nat.zero_le _, rfl, by unfold Hid; simp⟩
    case round =>
      obtain ⟨k, hk, rfl, hv⟩ := hrel
      by_cases hlt : k < L.length
      · have hc1 := hc (L.length - k - 1) (by omega)
        clear hc
        by_cases hx0 : L[L.length - k - 1]?.getD 0 = 0
        · have hp := val_take_pred L (L.length - k) hx0
          have hp' : Hid (val (L.take (L.length - (k + 1))) = val L) := by
            unfold Hid; rw [show L.length - (k + 1) = L.length - k - 1 by omega, hp]; exact hv.out
          rw [hx0] at hc1
          clear hx0 hp hv K K0 h
          go_wp2
          go_round
          case rel => exact ⟨k + 1, by omega, by go_num, hp'⟩
          case measure => simp [intOf]; omega
        · have hT := unhide K k hlt hv.out hx0
          have HT := hide hT
          clear hT K K0 h hv
          have hx1 : (((L[L.length - k - 1]?.getD 0 : Nat) : Int) != 0) = true := by rw [bne_iff_ne]; omega
          generalize L[L.length - k - 1]?.getD 0 = x at *
          generalize hn : L.length = n at *
          clear hn
          go_wp2
          go_ret
          exact ⟨_, rfl, unhide HT, rfl⟩
      · have hT := unhide K0 (by rw [← hv.out, show L.length - k = 0 by omega])
        have HT := hide hT
        clear hT K K0 h hv hc
        go_wp2
        go_ret
        exact ⟨_, rfl, unhide HT, rfl⟩

end Go.Proofs.Ytiebegjgaflfiaa
