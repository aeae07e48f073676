/- Part 5 of the texts. -/
import Derived.Test.YtlbggedahpnjgaaDoorPart02
import Derived.Test.YtlbggedahpnjgaaDoorPart01
import Derived.Test.YtlbggedahpnjgaaDoorPart04
import Derived.Outline
import Derived.Deep.RegionWith
/- Numbers and stores elsewhere. -/
namespace Go.Proofs.YtlbggedahpnjgaaDoor
open Go.RowKit

theorem cell_setCell_other (w : World) (a p : Addr) (u : Value) (h : a.block ≠ p.block) : (w.setCell p u).cell? a = w.cell? a :=
  World.cell?_of_block (Below.heap_setCell w p u a.block h)

theorem LimbsAt.store {w : World} {ao : Option Addr} {cap B : Nat} {L : List Nat} (h : LimbsAt w ao cap L) (hn : NewAt B ao L) {p : Addr} (hp : p.block < B) (u : Value) : LimbsAt (w.setCell p u) ao cap L := by
  refine ⟨h.1, h.2.1, ?_⟩
  rcases h.2.2 with h0 | ⟨b, off, h1, h2, h3⟩
  · exact .inl h0
  · rcases hn with h0 | ⟨b', off', h1', h2'⟩
    · exact .inl h0
    · rw [h1] at h1'
      simp only [Option.some.injEq, Addr.mk.injEq] at h1'
      obtain ⟨rfl, rfl, _⟩ := h1'
      refine .inr ⟨b, off, h1, by simpa [World.setCell] using h2, fun i hi => ?_⟩
      rw [cell_setCell_other w _ p u (by simp; omega)]
      exact h3 i hi

/-- What a function of one number answers through its result's box: the number, in the world behind the two stores. -/
theorem IsNum.stored {B B' : Nat} {w : World} {n : Bool} {ao : Option Addr} {cap : Nat} {L : List Nat} {x : Int} (h : LimbsAt w ao cap L ∧ NewAt B ao L ∧ Canon L ∧ n = decide (x < 0) ∧ val L = x.natAbs ∧ L.length ≤ 35184372088832) {p q : Addr} (hp : p.block < B) (hq : q.block < B) (hB : B' ≤ B) (u u' : Value) :
    IsNum B' ((w.setCell p u).setCell q u') (.agg #[.bool n, .slice ao L.length cap]) x :=
  ⟨n, ao, cap, L, rfl, (h.1.store h.2.1 hp u).store h.2.1 hq u', h.2.1.mono hB, h.2.2⟩

end Go.Proofs.YtlbggedahpnjgaaDoor

/- Contracts of what makes rows of limbs: addLimbs. -/
namespace Go.Proofs.YtlbggedahpnjgaaDoor
open Go.RowKit

theorem Tryd.info87 : (Tryd.prog.info? 87).map (fun i => (i.zero, i.size, i.bytes)) = some (some (.int .u32 0), 1, 4) := by kernel_rfl

theorem int_eq {k : IntKind} {a b : Int} (h : a = b) : Value.int k a = .int k b := by rw [h]

/-- limbAt, what it finds under a name. -/
theorem limbAt_x (ao : Option Addr) (cap : Nat) (L : List Nat) (i : Int) (k x : Nat) (w : World) (h : LimbsAt w ao cap L) (hl : L.length ≤ 35184372088830) (hk : i = (k : Int)) (hx : Hid (L[k]?.getD 0 = x)) :
    Calls Tryd.prog 89 #[.slice ao L.length cap, .int .i64 i] w fun e w' => e = .returned (.int .u64 (x : Int)) ∧ w = w' := by
  have := limbAt_any ao cap L i k w h hl hk
  rwa [hx.out] at this

set_option maxRecDepth 20000 in
set_option maxHeartbeats 400000 in
theorem addLimbs_any (ao bo : Option Addr) (ca cb : Nat) (A B : List Nat) (w : World) (hA : LimbsAt w ao ca A) (hB : LimbsAt w bo cb B) (la : A.length ≤ 35184372088830) (lb : B.length ≤ 35184372088830) :
    Calls Tryd.prog 91 #[.slice ao A.length ca, .slice bo B.length cb] w fun e w' => ∃ ao' cap' L', e = .returned (.slice ao' L'.length cap') ∧ LimbsAt w' ao' cap' L' ∧ NewAt w.heap.size ao' L' ∧ L'.length = max A.length B.length + 1 ∧ val L' = val A + val B ∧ Below w.heap.size w w' := by
  obtain ⟨i0, hi, hz0, hz1, hz2⟩ := info_parts Tryd.info87
  obtain ⟨n, hn⟩ : ∃ n, n = max A.length B.length + 1 := ⟨_, rfl⟩
  have n1 : A.length + 1 ≤ n := by omega
  have n2 : B.length + 1 ≤ n := by omega
  have n3 : n ≤ 35184372088831 := by omega
  have HN := hide hn
  clear hn
  go_enter Tryd.func91, Tryd.ntmps91
  go_wp2_with (at_make; have hn := unhide HN; refine wpList_make_full _ rfl _ _ 49 rfl w.heap.size 87 i0 (.int .u32 0) 1 Tryd.underlying49 hi hz0 hz1 .i64 .i64 _ _ n rfl rfl (by omega) (by omega) (by rw [hz2]; omega) (by unfold maxLen; omega) (Nat.le_refl _) ?_; clear hn; intro w1 hown hgrow)
  all_goals
    have hrow := RowAt.made hown
    have hb1 : Below w.heap.size w w1 := (Below.refl _ _).grown hgrow (Nat.le_refl _) (fun k h => by simp at h)
    have hs1 : w.heap.size < w1.heap.size := hrow.lt
    clear hown hgrow
    go_wp2
    go_loopw [6, 17] (fun c i wr => ∃ (k : Nat) (S : List Nat) (y : Nat), k ≤ n ∧ i = .int .i64 k ∧ c = .int .u64 y ∧ y ≤ 1 ∧ RowAt wr w.heap.size S ∧ S.length = n ∧ Fits S ∧ Below w.heap.size w wr ∧ Hid (val (S.take k) + 4294967296 ^ k * y = val (A.take k) + val (B.take k)))
      (fun _ i _ => n - (intOf i).toNat)
    case atStart => exact ⟨0, List.replicate n 0, 0, Nat.zero_le _, rfl, rfl, by omega, hrow, by simp, Fits.zeros _, hb1, by unfold Hid; simp [val]⟩
    case round =>
      obtain ⟨k, S, y, hk, rfl, rfl, hy, hr, hsl, hf, hbel, hv⟩ := hrel
      by_cases hlt : k < n
      · obtain ⟨xa, hxa⟩ : ∃ x, A[k]?.getD 0 = x := ⟨_, rfl⟩
        obtain ⟨xb, hxb⟩ : ∃ x, B[k]?.getD 0 = x := ⟨_, rfl⟩
        have ba : xa < 4294967296 := by rw [← hxa]; exact hA.lt k
        have bb : xb < 4294967296 := by rw [← hxb]; exact hB.lt k
        have cA := hA.below hbel
        have cB := hB.below hbel
        have hst := add_step A B S k y xa xb (by omega) hxa hxb hv.out
        have HST := hide hst
        have HXA := hide hxa
        have HXB := hide hxb
        have hcell := hr.cell k (by omega)
        have hfree := hr.free k
        have HR := hide hr
        clear hst hxa hxb hv hr
        generalize hS : S[k]?.getD 0 = sk at *
        clear hS
        go_wp2_with (first | (go_at_call_of 89 (Value.slice ao A.length ca); refine (limbAt_x ao ca A _ k xa _ cA la rfl HXA).mono ?_; rintro e w' ⟨rfl, rfl⟩) | (go_at_call_of 89 (Value.slice bo B.length cb); refine (limbAt_x bo cb B _ k xb _ cB lb rfl HXB).mono ?_; rintro e w' ⟨rfl, rfl⟩))
        have ec : (((y + (xa + xb)) % 4294967296 : Nat) : Int) = ((y : Int) + ((xa : Int) + (xb : Int))) % 4294967296 := by omega
        have hr' := (unhide HR).set k ((y + (xa + xb)) % 4294967296)
        rw [ec] at hr'
        go_roundw
        case rel => exact ⟨k + 1, S.set k ((y + (xa + xb)) % 4294967296), (y + (xa + xb)) / 4294967296, by omega, by go_num, int_eq (by omega), by omega, hr', by simpa using hsl, hf.set _ _ (by omega), hbel.setCell (by simp) _, HST⟩
        case measure => simp [intOf]; omega
      · have hend := add_end A B S n y hA.2.1 hB.2.1 n1 n2 hsl (by rw [show n = k by omega]; exact hv.out)
        have HEND := hide hend
        have HR := hide hr
        have HV := hide hv
        clear hend hr hv
        go_wp2
        go_ret
        have hN := unhide HN
        refine ⟨some ⟨w.heap.size, 0, none⟩, n, S, by rw [hsl]; rfl, (unhide HR).limbs hf n (by omega), .inr ⟨_, _, rfl, Nat.le_refl _⟩, by rw [hsl]; exact hN, unhide HEND, hbel⟩

end Go.Proofs.YtlbggedahpnjgaaDoor

/- Contracts of the reference's More, Made. -/
namespace Go.Proofs.YtlbggedahpnjgaaDoor
open Go.RowKit

/-- As IsNum, of at most M limbs. -/
def IsNumM (M B : Nat) (w : World) (v : Value) (x : Int) : Prop :=
  ∃ neg ao cap L, v = .agg #[.bool neg, .slice ao L.length cap] ∧ LimbsAt w ao cap L ∧ NewAt B ao L ∧ Canon L ∧ neg = decide (x < 0) ∧ val L = x.natAbs ∧ L.length ≤ M
theorem IsNumM.num {M B : Nat} {w : World} {v : Value} {x : Int} (h : IsNumM M B w v x) (hM : M ≤ 35184372088832) : IsNum B w v x := by
  obtain ⟨neg, ao, cap, L, h1, h2, h3, h4, h5, h6, h7⟩ := h
  exact ⟨neg, ao, cap, L, h1, h2, h3, h4, h5, h6, by omega⟩
theorem IsNumM.below {M B : Nat} {w w' : World} {v : Value} {x : Int} (h : IsNumM M B w v x) (hb : Below w.heap.size w w') : IsNumM M B w' v x := by
  obtain ⟨neg, ao, cap, L, h1, h2, h3⟩ := h
  exact ⟨neg, ao, cap, L, h1, h2.below hb, h3⟩
theorem IsNumM.more {M M' B : Nat} {w : World} {v : Value} {x : Int} (h : IsNumM M B w v x) (hM : M ≤ M') : IsNumM M' B w v x := by
  obtain ⟨neg, ao, cap, L, h1, h2, h3, h4, h5, h6, h7⟩ := h
  exact ⟨neg, ao, cap, L, h1, h2, h3, h4, h5, h6, by omega⟩
theorem IsNumM.zero (M B : Nat) (w : World) (ao : Option Addr) (cap : Nat) : IsNumM M B w (.agg #[.bool false, .slice ao 0 cap]) 0 :=
  ⟨false, ao, cap, [], rfl, LimbsAt.nil _ _ _, .inl rfl, .inl rfl, rfl, rfl, by simp⟩
theorem sval_IsNum {n : Bool} {L : List Nat} {x : Int} (h : n = decide (x < 0)) (hv : val L = x.natAbs) : sval n L = x := by
  unfold sval
  rw [h]
  by_cases hx0 : x < 0
  · simp [hx0]; omega
  · simp [hx0]; omega
/-- A number of at most M limbs, in the world behind the two stores into the result's box. -/
theorem IsNumM.stored {M B B' : Nat} {w : World} {n : Bool} {ao : Option Addr} {cap : Nat} {L : List Nat} {x : Int} (h : LimbsAt w ao cap L ∧ NewAt B ao L ∧ Canon L ∧ n = decide (x < 0) ∧ val L = x.natAbs ∧ L.length ≤ M) {p q : Addr} (hp : p.block < B) (hq : q.block < B) (hB : B' ≤ B) (u u' : Value) :
    IsNumM M B' ((w.setCell p u).setCell q u') (.agg #[.bool n, .slice ao L.length cap]) x :=
  ⟨n, ao, cap, L, rfl, (h.1.store h.2.1 hp u).store h.2.1 hq u', h.2.1.mono hB, h.2.2⟩

end Go.Proofs.YtlbggedahpnjgaaDoor

/- Contracts of the reference's plus, minus. -/
namespace Go.Proofs.YtlbggedahpnjgaaDoor
open Go.RowKit

/-- What the call itself has gathered by append, as limbs. -/
theorem own_limbs {w : World} {base : Nat} {v : Value} {n : Nat} {S : List Nat} (h : w.ownsRow base 87 1 v n (S.map limbV)) (hf : Fits S) :
    ∃ ao cap, v = .slice ao S.length cap ∧ LimbsAt w ao cap S ∧ NewAt base ao S ∧ S.length = n := by
  have hl : S.length = n := by have := h.1; simpa using this
  rcases h.2 with ⟨hv, h0⟩ | ⟨g, cap, cur, hv, hg, hh, hc, hm, hs, ht⟩
  · have : S = [] := List.length_eq_zero_iff.1 (by omega)
    subst this
    exact ⟨none, 0, hv, LimbsAt.nil _ _ _, .inl rfl, hl⟩
  · refine ⟨some ⟨g, 0, none⟩, cap, by rw [hl]; exact hv, ⟨by omega, hf, .inr ⟨g, 0, rfl, (Array.getElem?_eq_some_iff.1 hh).1, fun i hi => ?_⟩⟩, .inr ⟨g, 0, rfl, hg⟩, hl⟩
    have hv' := h
    rw [hv] at hv'
    rw [Nat.zero_add, hv'.cellAt i (by omega)]
    simp [limbV, hi]

theorem own_snoc {w : World} {base : Nat} {v : Value} {n : Nat} {S : List Nat} {x : Nat} {d : Int} (h : w.ownsRow base 87 1 v (n + 1) (S.map limbV ++ [.int .u32 d])) (hd : d = (x : Int)) : w.ownsRow base 87 1 v (n + 1) ((S ++ [x]).map limbV) := by
  subst hd
  simpa [limbV] using h

end Go.Proofs.YtlbggedahpnjgaaDoor

/- Contract of the reference's minus. -/
namespace Go.Proofs.YtlbggedahpnjgaaDoor
open Go.RowKit

end Go.Proofs.YtlbggedahpnjgaaDoor

