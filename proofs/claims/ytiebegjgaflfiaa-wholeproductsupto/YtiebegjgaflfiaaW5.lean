/- Contracts of what makes rows of limbs: addLimbs. -/
import Derived.Test.YtiebegjgaflfiaaW3
import Derived.Test.YtiebegjgaflfiaaMem
import Derived.Outline
import Derived.Deep.RegionWith
namespace Go.Proofs.Ytiebegjgaflfiaa
open Go.RowKit

theorem Try.info48 : (Try.prog.info? 48).map (fun i => (i.zero, i.size, i.bytes)) = some (some (.int .u32 0), 1, 4) := by kernel_rfl

theorem int_eq {k : IntKind} {a b : Int} (h : a = b) : Value.int k a = .int k b := by rw [h]

/-- limbAt, what it finds under a name. -/
theorem limbAt_x (ao : Option Addr) (cap : Nat) (L : List Nat) (i : Int) (k x : Nat) (w : World) (h : LimbsAt w ao cap L) (hl : L.length ≤ 35184372088830) (hk : i = (k : Int)) (hx : Hid (L[k]?.getD 0 = x)) :
    Calls Try.prog 53 #[.slice ao L.length cap, .int .i64 i] w fun e w' => e = .returned (.int .u64 (x : Int)) ∧ w = w' := by
  have := limbAt_any ao cap L i k w h hl hk
  rwa [hx.out] at this

set_option maxHeartbeats 400000 in
theorem addLimbs_any (ao bo : Option Addr) (ca cb : Nat) (A B : List Nat) (w : World) (hA : LimbsAt w ao ca A) (hB : LimbsAt w bo cb B) (la : A.length ≤ 35184372088830) (lb : B.length ≤ 35184372088830) :
    Calls Try.prog 50 #[.slice ao A.length ca, .slice bo B.length cb] w fun e w' => ∃ ao' cap' L', e = .returned (.slice ao' L'.length cap') ∧ LimbsAt w' ao' cap' L' ∧ NewAt w.heap.size ao' L' ∧ L'.length = max A.length B.length + 1 ∧ val L' = val A + val B ∧ Below w.heap.size w w' := by
  obtain ⟨i0, hi, hz0, hz1, hz2⟩ := info_parts Try.info48
  obtain ⟨n, hn⟩ : ∃ n, n = max A.length B.length + 1 := ⟨_, rfl⟩
  have n1 : A.length + 1 ≤ n := by omega
  have n2 : B.length + 1 ≤ n := by omega
  have n3 : n ≤ 35184372088831 := by omega
  have HN := hide hn
  clear hn
  go_enter Try.func50, Try.ntmps50
  go_wp2_with (at_make; have hn := unhide HN; refine wpList_make_full _ rfl _ _ 22 rfl w.heap.size 48 i0 (.int .u32 0) 1 Try.underlying22 hi hz0 hz1 .i64 .i64 _ _ n rfl rfl (by omega) (by omega) (by rw [hz2]; omega) (by unfold maxLen; omega) (Nat.le_refl _) ?_; clear hn; intro w1 hown hgrow)
  all_goals
    have hrow := RowAt.made hown
    have hb1 : Below w.heap.size w w1 := (Below.refl _ _).grown hgrow (Nat.le_refl _) (fun k h => by simp at h)
    have hs1 : w.heap.size < w1.heap.size := hrow.lt
    clear hown hgrow
    go_wp2
    go_loopw [6, 17] (fun c i wr => ∃ (k : Nat) (S : List Nat) (y : Nat), k ≤ n ∧ i = .int .i64 k ∧ c = .int .u64 y ∧ y ≤ 1 ∧ RowAt wr w.heap.size S ∧ S.length = n ∧ Fits S ∧ Below w.heap.size w wr ∧ Hid (val (S.take k) + 4294967296 ^ k * y = val (A.take k) + val (B.take k)))
      (fun _ i _ => n - (intOf i).toNat)
    case atStart => exact ⟨0, List.replicate n 0, 0, Nat.zero_le _, rfl, rfl, by omega, hrow, by simp, Fits.zeros _, hb1, by unfold Hid; simp [val]⟩
    case round =>
      obtain ⟨k, S, y, hk, rfl, rfl, hy, hr, hsl, hf, hbel, hv⟩ := hrel
      by_cases hlt : k < n
      · obtain ⟨xa, hxa⟩ : ∃ x, A[k]?.getD 0 = x := ⟨_, rfl⟩
        obtain ⟨xb, hxb⟩ : ∃ x, B[k]?.getD 0 = x := ⟨_, rfl⟩
        have ba : xa < 4294967296 := by rw [← hxa]; exact hA.lt k
        have bb : xb < 4294967296 := by rw [← hxb]; exact hB.lt k
        have cA := hA.below hbel
        have cB := hB.below hbel
        have hst := add_step A B S k y xa xb (by omega) hxa hxb hv.out
        have HST := hide hst
        have HXA := hide hxa
        have HXB := hide hxb
        have hcell := hr.cell k (by omega)
        have hfree := hr.free k
        have HR := hide hr
        clear hst hxa hxb hv hr
        generalize hS : S[k]?.getD 0 = sk at *
        clear hS
        go_wp2_with (first | (go_at_call_of 53 (Value.slice ao A.length ca); refine (limbAt_x ao ca A _ k xa _ cA la rfl HXA).mono ?_; rintro e w' ⟨rfl, rfl⟩) | (go_at_call_of 53 (Value.slice bo B.length cb); refine (limbAt_x bo cb B _ k xb _ cB lb rfl HXB).mono ?_; rintro e w' ⟨rfl, rfl⟩))
        have ec : (((y + (xa + xb)) % 4294967296 : Nat) : Int) = ((y : Int) + ((xa : Int) + (xb : Int))) % 4294967296 := by omega
        have hr' := (unhide HR).set k ((y + (xa + xb)) % 4294967296)
        rw [ec] at hr'
        go_roundw
        case rel => exact ⟨k + 1, S.set k ((y + (xa + xb)) % 4294967296), (y + (xa + xb)) / 4294967296, by omega, by go_num, int_eq (by omega), by omega, hr', by simpa using hsl, hf.set _ _ (by omega), hbel.setCell (by simp) _, HST⟩
        case measure => simp [intOf]; omega
      · have hend := add_end A B S n y hA.2.1 hB.2.1 n1 n2 hsl (by rw [show n = k by omega]; exact hv.out)
        have HEND := hide hend
        have HR := hide hr
        have HV := hide hv
        clear hend hr hv
        go_wp2
        go_ret
        have hN := unhide HN
        refine ⟨some ⟨w.heap.size, 0, none⟩, n, S, by rw [hsl]; rfl, (unhide HR).limbs hf n (by omega), .inr ⟨_, _, rfl, Nat.le_refl _⟩, by rw [hsl]; exact hN, unhide HEND, hbel⟩

end Go.Proofs.Ytiebegjgaflfiaa
