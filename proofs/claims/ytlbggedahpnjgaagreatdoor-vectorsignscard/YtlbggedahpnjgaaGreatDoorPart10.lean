/- Part 10 of the texts. -/
import Derived.Test.YtlbggedahpnjgaaGreatDoorPart09
import Derived.Test.YtlbggedahpnjgaaGreatDoorPart05
import Derived.RegionTactic
import Derived.BigRegion
import Derived.Deep.AppendLies
import Derived.Test.YtlbggedahpnjgaaGreatDoorPart07
/- Contract of the reference's Half. -/
namespace Go.Proofs.YtlbggedahpnjgaaGreatDoor
open Go.RowKit
attribute [local go_sem ↓] Go.wp_at_zero Go.wp_at_succ

set_option maxHeartbeats 1000000 in
theorem half_any (na : Bool) (ao : Option Addr) (ca : Nat) (A : List Nat) (w : World) (hA : LimbsAt w ao ca A) (la : A.length ≤ 1073741824) :
    Calls Tryz.prog 85 #[.agg #[.bool na, .slice ao A.length ca]] w fun e w' => ∃ v, e = .returned v ∧ IsNumM A.length w.heap.size w' v (sg na (val A / 2)) ∧ Below w.heap.size w w' := by
  obtain ⟨i0, hi, hz0, hz1, hz2⟩ := info_parts Tryz.info87
  have hst : ∀ (S : List Nat) (k d0 d1 : Nat), k < S.length → A[k]?.getD 0 = d0 → A[k + 1]?.getD 0 = d1 → val (S.take k) = (val A / (4294967296 ^ 0 * 2 ^ 1)) % 4294967296 ^ k → val ((S.set k (((d1 % 2 * 4294967296 + d0) / 2) % 4294967296)).take (k + 1)) = (val A / (4294967296 ^ 0 * 2 ^ 1)) % 4294967296 ^ (k + 1) := by
    intro S k d0 d1 h1 h2 h3 h4
    rw [half_limb]
    exact down_step A S hA.2.1 k 0 1 d0 d1 (by omega) h1 h2 h3 h4
  have hen : ∀ (S : List Nat), S.length = A.length → val (S.take S.length) = (val A / (4294967296 ^ 0 * 2 ^ 1)) % 4294967296 ^ S.length → sval na S = sg na (val A / 2) := by
    intro S h1 h2
    have := down_end A S hA.2.1 0 1 (by omega) h2
    rw [sval_sg, this]
  have HST := hide hst
  have HEN := hide hen
  clear hst hen
  generalize sg na (val A / 2) = z at *
  go_enter Tryz.func85, Tryz.ntmps85
  go_wp2_with (at_make; refine wpList_make_full _ rfl _ _ 41 rfl (w.heap.size + 2) 87 i0 (.int .u32 0) 1 Tryz.underlying41 hi hz0 hz1 .i64 .i64 _ _ A.length rfl rfl (by omega) (by omega) (by rw [hz2]; omega) (by unfold maxLen; omega) (by simp) ?_; intro w1 hown hgrow)
  have hrow0 := RowAt.made hown
  have hrow : RowAt w1 (w.heap.size + 1 + 1) (List.replicate A.length 0) := by simpa using hrow0
  clear hrow0
  have hb0 : Below w.heap.size w ((w.alloc (.cells #[.bool na, .slice ao A.length ca] 43)).alloc (.cells #[.bool false, .slice none 0 0] 43)) := ((Below.refl _ _).alloc (Nat.le_refl _) _).alloc (by simp) _
  have hb1 : Below w.heap.size w w1 := hb0.grown hgrow (by simp; omega) (fun k h => by simp at h)
  have x0 : Box2 w1 w.heap.size (.bool na) (.slice ao A.length ca) := (hgrow.block w.heap.size (by simp; omega) (by simp)).trans ((Box2.new _ _ _).old _)
  have x1 : Box2 w1 (w.heap.size + 1) (.bool false) (.slice none 0 0) := by
    have h := Box2.new (w.alloc (.cells #[.bool na, .slice ao A.length ca] 43)) (.bool false) (.slice none 0 0)
    have h' : Box2 ((w.alloc (.cells #[.bool na, .slice ao A.length ca] 43)).alloc (.cells #[.bool false, .slice none 0 0] 43)) (w.heap.size + 1) (.bool false) (.slice none 0 0) := by simpa using h
    exact (hgrow.block (w.heap.size + 1) (by simp) (by simp)).trans h'
  clear hown hgrow hb0
  go_loopw [4] (fun c wr => ∃ (i : Nat) (S : List Nat), i ≤ A.length ∧ c = .int .i64 i ∧ RowAt wr (w.heap.size + 1 + 1) S ∧ Box2 wr w.heap.size (.bool na) (.slice ao A.length ca) ∧ Box2 wr (w.heap.size + 1) (.bool false) (.slice none 0 0) ∧ S.length = A.length ∧ Fits S ∧ Below w.heap.size w wr ∧ Hid (val (S.take i) = (val A / (4294967296 ^ 0 * 2 ^ 1)) % 4294967296 ^ i))
    (fun c _ => A.length - (intOf c).toNat)
  case atStart => exact ⟨0, List.replicate A.length 0, Nat.zero_le _, rfl, hrow, x0, x1, by simp, Fits.zeros _, hb1, by unfold Hid; simp [val, Nat.mod_one]⟩
  case round =>
    obtain ⟨i, S, hi1, rfl, hr', z0, z1, hsl, hf, hbel, hv⟩ := hrel
    have p0 := z0.c0; have p1 := z0.c1
    by_cases hlt : i < A.length
    · obtain ⟨d0, hd0⟩ : ∃ x, A[i]?.getD 0 = x := ⟨_, rfl⟩
      obtain ⟨d1, hd1⟩ : ∃ x, A[i + 1]?.getD 0 = x := ⟨_, rfl⟩
      have b0 : d0 < 4294967296 := by rw [← hd0]; exact hA.lt _
      have b1' : d1 < 4294967296 := by rw [← hd1]; exact hA.lt _
      have cA := (hA.below hbel).below ((Below.refl _ _).drew)
      have dS := hr'.cell i (by omega)
      have fS := hr'.free i
      generalize hsi : S[i]?.getD 0 = s at *
      have HST1 := hide (unhide HST S i d0 d1 (by omega) hd0 hd1 hv.out)
      have HD0 := hide hd0
      have HD1 := hide hd1
      have HR := hide hr'; have Z0 := hide z0; have Z1 := hide z1; have BEL := hide hbel; have CA := hide cA
      clear hd0 hd1 hr' hv hsi HST HEN x0 x1 hrow hb1 z0 z1 hbel cA hA
      have hltI : (i : Int) < (A.length : Int) := by omega
      have hwi : IntKind.i64.wrap ((i : Int) + 1) = (i : Int) + 1 := by
        simp only [IntKind.wrap, IntKind.signed, IntKind.bits]
        simp
        omega
      have hK : ∀ w', w' = wr.drew ∨ (∃ u, w' = (wr.drew).setCell ⟨w.heap.size + 1 + 1, i, none⟩ u) → (w' = wr.drew ∨ (∃ u, w' = (wr.drew).setCell ⟨w.heap.size + 1 + 1, i, none⟩ u)) ∧ w'.cell? ⟨w.heap.size, 1, none⟩ = some (.slice ao A.length ca) := fun w' h => by
        refine ⟨h, ?_⟩
        rcases h with rfl | ⟨u, rfl⟩
        · exact (unhide Z0).drew.c1
        · exact ((unhide Z0).drew.other (by simp; omega) u).c1
      have HK := hide hK
      clear hK
      go_wp2
      go_region_held3 (fun w' => (w' = wr.drew ∨ (∃ u, w' = (wr.drew).setCell ⟨w.heap.size + 1 + 1, i, none⟩ u)) ∧ w'.cell? ⟨w.heap.size, 1, none⟩ = some (.slice ao A.length ca))
        (first | exact unhide HK _ (.inl rfl) | exact unhide HK _ (.inr ⟨_, rfl⟩))
        (first | (go_at_call 112; have hq := HD1; clear HD1; refine (limb_x ao ca A _ (i + 1) d1 _ (unhide CA) (by omega) (by omega) hq).mono ?_; rintro e w' ⟨rfl, rfl⟩; clear hq) | (go_at_call 112; refine (limb_x ao ca A _ i d0 _ (unhide CA) (by omega) rfl HD0).mono ?_; rintro e w' ⟨rfl, rfl⟩))
      have r1 := (unhide HR).set i (((d1 % 2 * 4294967296 + d0) / 2) % 4294967296)
      rw [show (((d1 % 2 * 4294967296 + d0) / 2 % 4294967296 : Nat) : Int) = ((d1 : Int) % 2 * 4294967296 + (d0 : Int)) / 2 by omega] at r1
      have hmod : ((d1 % 2 * 4294967296 + d0) / 2) % 4294967296 < 4294967296 := Nat.mod_lt _ (by decide)
      have R1 := hide r1
      have HM := hide hmod
      clear r1 hmod
      go_wp2
      go_roundw
      case rel => exact ⟨i + 1, S.set i (((d1 % 2 * 4294967296 + d0) / 2) % 4294967296), by omega, by go_num, (unhide R1 : _), (unhide Z0).other (by simp; omega) _, (unhide Z1).other (by simp) _, by simpa using hsl, hf.set _ _ (unhide HM), ((unhide BEL).setCell (by simp; omega) _).drew, unhide HST1⟩
      case measure => simp [intOf]; omega
    · have hii : i = A.length := by omega
      have hv' := unhide HEN S hsl (by rw [hsl, ← hii]; exact hv.out)
      have HR := hide (hr'.limbs hf A.length (by omega))
      have HV := hide hv'
      have Z1 := hide z1
      have BEL := hide hbel
      have hgt : ¬ (i : Int) < (A.length : Int) := by omega
      have HL := hide hsl
      have zlt := z1.lt
      have rlt := hr'.lt
      clear hv' hv hr' HST HEN x0 x1 hrow hb1 z1 hbel hA z0
      go_wp2_with fail
      have hN : NewAt (w.heap.size + 1 + 1) (some ⟨w.heap.size + 1 + 1, 0, none⟩) S := .inr ⟨_, _, rfl, Nat.le_refl _⟩
      have hcall := made_any (w.heap.size + 1 + 1) na (some ⟨w.heap.size + 1 + 1, 0, none⟩) A.length S wr (unhide HR) hN (by omega)
      rw [unhide HV, unhide HL] at hcall
      refine hcall.mono ?_
      rintro e w2 ⟨v, rfl, ⟨n2, a2, c2, L2, rfl, i1⟩, hb2⟩
      have X4 := (unhide Z1).below hb2 (unhide Z1).lt
      have y0 := X4.c0; have y1 := X4.c1; have f0 := X4.free 0; have f1 := X4.free 1
      have HB2 := hide ((unhide BEL).trans (hb2.mono (by omega)))
      have I1 := hide i1
      clear hcall X4 hb2 i1 hN
      go_wp2
      refine bodyPost_ret (v := .agg #[.bool n2, .slice a2 L2.length c2]) (by simp [results, Tryz.results85, go_sem, y0, y1]) rfl ⟨.agg #[.bool n2, .slice a2 L2.length c2], rfl, ?_, ?_⟩
      · exact IsNumM.stored (unhide I1) (by simp) (by simp) (by omega) _ _
      · exact ((unhide HB2).setCell (by simp) _).setCell (by simp) _

end Go.Proofs.YtlbggedahpnjgaaGreatDoor

/- Contract of told: where the answer is the document's, it says so. -/
namespace Go.Proofs.YtlbggedahpnjgaaGreatDoor
open Go.RowKit

end Go.Proofs.YtlbggedahpnjgaaGreatDoor

/- Contract of spoil: it writes into the one row that it is handed, and nowhere else. -/
namespace Go.Proofs.YtlbggedahpnjgaaGreatDoor
open Go.RowKit

theorem bits_nat (a b : Int) : ∃ y : Nat, y < 4294967296 ∧ bits BinOp.xor IntKind.u32 a b = (y : Int) := by
  refine ⟨(bits BinOp.xor IntKind.u32 a b).toNat, ?_, ?_⟩
  all_goals
    have h : 0 ≤ bits BinOp.xor IntKind.u32 a b ∧ bits BinOp.xor IntKind.u32 a b < 4294967296 := by
      simp only [bits, IntKind.wrap, IntKind.signed, IntKind.bits]
      simp
      omega
    omega

end Go.Proofs.YtlbggedahpnjgaaGreatDoor

/- Contract of copied. -/
namespace Go.Proofs.YtlbggedahpnjgaaGreatDoor
open Go.RowKit
attribute [local go_sem ↓] Go.wp_at_zero Go.wp_at_succ

theorem own_empty (W : World) (base g : Nat) (hs : W.heap.size = g) (hb : base ≤ g) : ((W.alloc (.cells #[] 87)).drew).ownsRow base 87 1 (.slice (some ⟨g, 0, none⟩) 0 0) 0 [] := by
  subst hs
  exact World.ownsRow_made W #[] 0 hb (by simp [maxLen]) (by simp)

theorem own_mono {w : World} {base base' : Nat} {v : Value} {n : Nat} {xs : List Value} (h : w.ownsRow base 87 1 v n xs) (hb : base' ≤ base) : w.ownsRow base' 87 1 v n xs := by
  refine ⟨h.1, ?_⟩
  rcases h.2 with h1 | ⟨g, cap, cur, h1, h2, h3⟩
  · exact .inl h1
  · exact .inr ⟨g, cap, cur, h1, by omega, h3⟩

end Go.Proofs.YtlbggedahpnjgaaGreatDoor

/- What stays where one row is written over; copied of any number. -/
namespace Go.Proofs.YtlbggedahpnjgaaGreatDoor
open Go.RowKit

theorem own_below {w w' : World} {base : Nat} {v : Value} {n : Nat} {xs : List Value} (h : w.ownsRow base 87 1 v n xs) (hb : Below w.heap.size w w') : w'.ownsRow base 87 1 v n xs := by
  refine ⟨h.1, ?_⟩
  rcases h.2 with h1 | ⟨g, cap, cur, h1, h2, h3, h4⟩
  · exact .inl h1
  · exact .inr ⟨g, cap, cur, h1, h2, by rw [hb.block g (Array.getElem?_eq_some_iff.1 h3).1]; exact h3, h4⟩

theorem own_grown {w w' : World} {base k : Nat} {v : Value} {n : Nat} {xs : List Value} (h : w.ownsRow base 87 1 v n xs) (hg : w.grownBy w' (some k)) (hne : v.ownBlock ≠ some k) : w'.ownsRow base 87 1 v n xs := h.kept hg (.inr hne)

theorem Box2.grown {w w' : World} {b k : Nat} {x y : Value} (h : Box2 w b x y) (hg : w.grownBy w' (some k)) (hne : b ≠ k) : Box2 w' b x y := (hg.block b h.lt (by simpa using hne)).trans h

theorem LimbsAt.grown {w w' : World} {ao : Option Addr} {cap k : Nat} {L : List Nat} (h : LimbsAt w ao cap L) (hg : w.grownBy w' (some k)) (hne : ∀ b off, ao = some ⟨b, off, none⟩ → L ≠ [] → b ≠ k) : LimbsAt w' ao cap L := by
  refine ⟨h.1, h.2.1, ?_⟩
  rcases h.2.2 with h0 | ⟨b, off, h1, h2, h3⟩
  · exact .inl h0
  · by_cases he : L = []
    · exact .inl he
    · have hb := hg.block b h2 (by have := hne b off h1 he; simpa using this)
      refine .inr ⟨b, off, h1, Nat.lt_of_lt_of_le h2 hg.size, fun i hi => ?_⟩
      rw [World.cell?_of_block (a := ⟨b, off + i, none⟩) hb]
      exact h3 i hi

theorem IsNum.grown {w w' : World} {B k : Nat} {v : Value} {x : Int} (h : IsNum B w v x) (hg : w.grownBy w' (some k)) (hk : k < B) : IsNum B w' v x := by
  obtain ⟨neg, ao, cap, L, h1, h2, h3, h4⟩ := h
  refine ⟨neg, ao, cap, L, h1, h2.grown hg ?_, h3, h4⟩
  intro b off e he
  rcases h3 with h0 | ⟨b', off', e', hb'⟩
  · exact absurd h0 he
  · rw [e] at e'
    simp only [Option.some.injEq, Addr.mk.injEq] at e'
    omega

theorem below_grown {w w' : World} {k B : Nat} (hg : w.grownBy w' (some k)) (hk : B ≤ k) (hB : B ≤ w.heap.size) : Below B w w' := (Below.refl _ _).grown hg hB (fun j hj => by simp at hj; omega)

/-- A row of the call's own, as limbs. -/
theorem own_at {w : World} {base g n c : Nat} {S : List Nat} (h : w.ownsRow base 87 1 (.slice (some ⟨g, 0, none⟩) n c) n (S.map limbV)) (hf : Fits S) : LimbsAt w (some ⟨g, 0, none⟩) c S ∧ S.length = n ∧ base ≤ g ∧ g < w.heap.size := by
  obtain ⟨ao, cap, e1, e2, e3, e4⟩ := own_limbs h hf
  simp only [Value.slice.injEq] at e1
  obtain ⟨rfl, _, rfl⟩ := e1
  exact ⟨e2, e4, h.lt g rfl⟩

/-- What told is asked of an operation's answer. -/
theorem told_op (na : Bool) (A : List Nat) (nb : Bool) (B : List Nat) (z : Int) :
    (chk2 na A nb B ≠ 0 → opErr (rightB na A && rightB nb B) z = chk2 na A nb B ∧ opNum (rightB na A && rightB nb B) z = 0) ∧ (chk2 na A nb B = 0 → opErr (rightB na A && rightB nb B) z = errOf z ∧ opNum (rightB na A && rightB nb B) z = numOf z) := by
  cases h : (rightB na A && rightB nb B)
  · simp [chk2, h, opErr_false, opNum_false]
  · simp [chk2, h, opErr_true, opNum_true]

end Go.Proofs.YtlbggedahpnjgaaGreatDoor

