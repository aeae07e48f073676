/- Part 9 of the texts. -/
import Derived.Test.YtfnnbkclnflpfaaGreatDoorPartS08
import Derived.Test.YtfnnbkclnflpfaaGreatDoorPartS05
import Derived.Test.YtfnnbkclnflpfaaGreatDoorPartS02
import Derived.RegionTactic
import Derived.BigRegion
import Derived.Deep.AppendLies
import Derived.Test.YtfnnbkclnflpfaaGreatDoorPartS07
/- Contract of the reference's Half. -/
namespace Go.Proofs.YtfnnbkclnflpfaaGreatDoor
open Go.RowKit
attribute [local go_sem ↓] Go.wp_at_zero Go.wp_at_succ

set_option maxHeartbeats 1000000 in
theorem half_any (na : Bool) (ao : Option Addr) (ca : Nat) (A : List Nat) (w : World) (hA : LimbsAt w ao ca A) (la : A.length ≤ 1073741824) :
    Calls Tryz.prog 93 #[.agg #[.bool na, .slice ao A.length ca]] w fun e w' => ∃ v, e = .returned v ∧ IsNumM A.length w.heap.size w' v (sg na (val A / 2)) ∧ Below w.heap.size w w' := by
  obtain ⟨i0, hi, hz0, hz1, hz2⟩ := info_parts Tryz.info70
  have hst : ∀ (S : List Nat) (k d0 d1 : Nat), k < S.length → A[k]?.getD 0 = d0 → A[k + 1]?.getD 0 = d1 → val (S.take k) = (val A / (4294967296 ^ 0 * 2 ^ 1)) % 4294967296 ^ k → val ((S.set k (((d1 % 2 * 4294967296 + d0) / 2) % 4294967296)).take (k + 1)) = (val A / (4294967296 ^ 0 * 2 ^ 1)) % 4294967296 ^ (k + 1) := by
    intro S k d0 d1 h1 h2 h3 h4
    rw [half_limb]
    exact down_step A S hA.2.1 k 0 1 d0 d1 (by omega) h1 h2 h3 h4
  have hen : ∀ (S : List Nat), S.length = A.length → val (S.take S.length) = (val A / (4294967296 ^ 0 * 2 ^ 1)) % 4294967296 ^ S.length → sval na S = sg na (val A / 2) := by
    intro S h1 h2
    have := down_end A S hA.2.1 0 1 (by omega) h2
    rw [sval_sg, this]
  have HST := hide hst
  have HEN := hide hen
  clear hst hen
  generalize sg na (val A / 2) = z at *
  go_enter Tryz.func93, Tryz.ntmps93
  go_wp2_with (at_make; refine wpList_make_full _ rfl _ _ 25 rfl (w.heap.size + 2) 70 i0 (.int .u32 0) 1 Tryz.underlying25 hi hz0 hz1 .i64 .i64 _ _ A.length rfl rfl (by omega) (by omega) (by rw [hz2]; omega) (by unfold maxLen; omega) (by simp) ?_; intro w1 hown hgrow)
  have hrow0 := RowAt.made hown
  have hrow : RowAt w1 (w.heap.size + 1 + 1) (List.replicate A.length 0) := by simpa using hrow0
  clear hrow0
  have hb0 : Below w.heap.size w ((w.alloc (.cells #[.bool na, .slice ao A.length ca] 27)).alloc (.cells #[.bool false, .slice none 0 0] 27)) := ((Below.refl _ _).alloc (Nat.le_refl _) _).alloc (by simp) _
  have hb1 : Below w.heap.size w w1 := hb0.grown hgrow (by simp; omega) (fun k h => by simp at h)
  have x0 : Box2 w1 w.heap.size (.bool na) (.slice ao A.length ca) := (hgrow.block w.heap.size (by simp; omega) (by simp)).trans ((Box2.new _ _ _).old _)
  have x1 : Box2 w1 (w.heap.size + 1) (.bool false) (.slice none 0 0) := by
    have h := Box2.new (w.alloc (.cells #[.bool na, .slice ao A.length ca] 27)) (.bool false) (.slice none 0 0)
    have h' : Box2 ((w.alloc (.cells #[.bool na, .slice ao A.length ca] 27)).alloc (.cells #[.bool false, .slice none 0 0] 27)) (w.heap.size + 1) (.bool false) (.slice none 0 0) := by simpa using h
    exact (hgrow.block (w.heap.size + 1) (by simp) (by simp)).trans h'
  clear hown hgrow hb0
  go_loopw [4] (fun c wr => ∃ (i : Nat) (S : List Nat), i ≤ A.length ∧ c = .int .i64 i ∧ RowAt wr (w.heap.size + 1 + 1) S ∧ Box2 wr w.heap.size (.bool na) (.slice ao A.length ca) ∧ Box2 wr (w.heap.size + 1) (.bool false) (.slice none 0 0) ∧ S.length = A.length ∧ Fits S ∧ Below w.heap.size w wr ∧ Hid (val (S.take i) = (val A / (4294967296 ^ 0 * 2 ^ 1)) % 4294967296 ^ i))
    (fun c _ => A.length - (intOf c).toNat)
  case atStart => exact ⟨0, List.replicate A.length 0, Nat.zero_le _, rfl, hrow, x0, x1, by simp, Fits.zeros _, hb1, by unfold Hid; simp [val, Nat.mod_one]⟩
  case round =>
    obtain ⟨i, S, hi1, rfl, hr', z0, z1, hsl, hf, hbel, hv⟩ := hrel
    have p0 := z0.c0; have p1 := z0.c1
    by_cases hlt : i < A.length
    · obtain ⟨d0, hd0⟩ : ∃ x, A[i]?.getD 0 = x := ⟨_, rfl⟩
      obtain ⟨d1, hd1⟩ : ∃ x, A[i + 1]?.getD 0 = x := ⟨_, rfl⟩
      have b0 : d0 < 4294967296 := by rw [← hd0]; exact hA.lt _
      have b1' : d1 < 4294967296 := by rw [← hd1]; exact hA.lt _
      have cA := (hA.below hbel).below ((Below.refl _ _).drew)
      have dS := hr'.cell i (by omega)
      have fS := hr'.free i
      generalize hsi : S[i]?.getD 0 = s at *
      have HST1 := hide (unhide HST S i d0 d1 (by omega) hd0 hd1 hv.out)
      have HD0 := hide hd0
      have HD1 := hide hd1
      have HR := hide hr'; have Z0 := hide z0; have Z1 := hide z1; have BEL := hide hbel; have CA := hide cA
      clear hd0 hd1 hr' hv hsi HST HEN x0 x1 hrow hb1 z0 z1 hbel cA hA
      have hltI : (i : Int) < (A.length : Int) := by omega
      have hwi : IntKind.i64.wrap ((i : Int) + 1) = (i : Int) + 1 := by
        simp only [IntKind.wrap, IntKind.signed, IntKind.bits]
        simp
        omega
      have hK : ∀ w', w' = wr.drew ∨ (∃ u, w' = (wr.drew).setCell ⟨w.heap.size + 1 + 1, i, none⟩ u) → (w' = wr.drew ∨ (∃ u, w' = (wr.drew).setCell ⟨w.heap.size + 1 + 1, i, none⟩ u)) ∧ w'.cell? ⟨w.heap.size, 1, none⟩ = some (.slice ao A.length ca) := fun w' h => by
        refine ⟨h, ?_⟩
        rcases h with rfl | ⟨u, rfl⟩
        · exact (unhide Z0).drew.c1
        · exact ((unhide Z0).drew.other (by simp; omega) u).c1
      have HK := hide hK
      clear hK
      go_wp2
      go_region_held3 (fun w' => (w' = wr.drew ∨ (∃ u, w' = (wr.drew).setCell ⟨w.heap.size + 1 + 1, i, none⟩ u)) ∧ w'.cell? ⟨w.heap.size, 1, none⟩ = some (.slice ao A.length ca))
        (first | exact unhide HK _ (.inl rfl) | exact unhide HK _ (.inr ⟨_, rfl⟩))
        (first | (go_at_call 134; have hq := HD1; clear HD1; refine (limb_x ao ca A _ (i + 1) d1 _ (unhide CA) (by omega) (by omega) hq).mono ?_; rintro e w' ⟨rfl, rfl⟩; clear hq) | (go_at_call 134; refine (limb_x ao ca A _ i d0 _ (unhide CA) (by omega) rfl HD0).mono ?_; rintro e w' ⟨rfl, rfl⟩))
      have r1 := (unhide HR).set i (((d1 % 2 * 4294967296 + d0) / 2) % 4294967296)
      rw [show (((d1 % 2 * 4294967296 + d0) / 2 % 4294967296 : Nat) : Int) = ((d1 : Int) % 2 * 4294967296 + (d0 : Int)) / 2 by omega] at r1
      have hmod : ((d1 % 2 * 4294967296 + d0) / 2) % 4294967296 < 4294967296 := Nat.mod_lt _ (by decide)
      have R1 := hide r1
      have HM := hide hmod
      clear r1 hmod
      go_wp2
      go_roundw
      case rel => exact ⟨i + 1, S.set i (((d1 % 2 * 4294967296 + d0) / 2) % 4294967296), by omega, by go_num, (unhide R1 : _), (unhide Z0).other (by simp; omega) _, (unhide Z1).other (by simp) _, by simpa using hsl, hf.set _ _ (unhide HM), ((unhide BEL).setCell (by simp; omega) _).drew, unhide HST1⟩
      case measure => simp [intOf]; omega
    · have hii : i = A.length := by omega
      have hv' := unhide HEN S hsl (by rw [hsl, ← hii]; exact hv.out)
      have HR := hide (hr'.limbs hf A.length (by omega))
      have HV := hide hv'
      have Z1 := hide z1
      have BEL := hide hbel
      have hgt : ¬ (i : Int) < (A.length : Int) := by omega
      have HL := hide hsl
      have zlt := z1.lt
      have rlt := hr'.lt
      clear hv' hv hr' HST HEN x0 x1 hrow hb1 z1 hbel hA z0
      go_wp2_with fail
      have hN : NewAt (w.heap.size + 1 + 1) (some ⟨w.heap.size + 1 + 1, 0, none⟩) S := .inr ⟨_, _, rfl, Nat.le_refl _⟩
      have hcall := made_any (w.heap.size + 1 + 1) na (some ⟨w.heap.size + 1 + 1, 0, none⟩) A.length S wr (unhide HR) hN (by omega)
      rw [unhide HV, unhide HL] at hcall
      refine hcall.mono ?_
      rintro e w2 ⟨v, rfl, ⟨n2, a2, c2, L2, rfl, i1⟩, hb2⟩
      have X4 := (unhide Z1).below hb2 (unhide Z1).lt
      have y0 := X4.c0; have y1 := X4.c1; have f0 := X4.free 0; have f1 := X4.free 1
      have HB2 := hide ((unhide BEL).trans (hb2.mono (by omega)))
      have I1 := hide i1
      clear hcall X4 hb2 i1 hN
      go_wp2
      refine bodyPost_ret (v := .agg #[.bool n2, .slice a2 L2.length c2]) (by simp [results, Tryz.results93, go_sem, y0, y1]) rfl ⟨.agg #[.bool n2, .slice a2 L2.length c2], rfl, ?_, ?_⟩
      · exact IsNumM.stored (unhide I1) (by simp) (by simp) (by omega) _ _
      · exact ((unhide HB2).setCell (by simp) _).setCell (by simp) _

end Go.Proofs.YtfnnbkclnflpfaaGreatDoor

/- Contract of spoil: it writes into the one row that it is handed, and nowhere else. -/
namespace Go.Proofs.YtfnnbkclnflpfaaGreatDoor
open Go.RowKit

theorem bits_nat (a b : Int) : ∃ y : Nat, y < 4294967296 ∧ bits BinOp.xor IntKind.u32 a b = (y : Int) := by
  refine ⟨(bits BinOp.xor IntKind.u32 a b).toNat, ?_, ?_⟩
  all_goals
    have h : 0 ≤ bits BinOp.xor IntKind.u32 a b ∧ bits BinOp.xor IntKind.u32 a b < 4294967296 := by
      simp only [bits, IntKind.wrap, IntKind.signed, IntKind.bits]
      simp
      omega
    omega

end Go.Proofs.YtfnnbkclnflpfaaGreatDoor

/- What stays where one row is written over; copied of any number. -/
namespace Go.Proofs.YtfnnbkclnflpfaaGreatDoor
open Go.RowKit
theorem Box2.grown {w w' : World} {b k : Nat} {x y : Value} (h : Box2 w b x y) (hg : w.grownBy w' (some k)) (hne : b ≠ k) : Box2 w' b x y := (hg.block b h.lt (by simpa using hne)).trans h

theorem LimbsAt.grown {w w' : World} {ao : Option Addr} {cap k : Nat} {L : List Nat} (h : LimbsAt w ao cap L) (hg : w.grownBy w' (some k)) (hne : ∀ b off, ao = some ⟨b, off, none⟩ → L ≠ [] → b ≠ k) : LimbsAt w' ao cap L := by
  refine ⟨h.1, h.2.1, ?_⟩
  rcases h.2.2 with h0 | ⟨b, off, h1, h2, h3⟩
  · exact .inl h0
  · by_cases he : L = []
    · exact .inl he
    · have hb := hg.block b h2 (by have := hne b off h1 he; simpa using this)
      refine .inr ⟨b, off, h1, Nat.lt_of_lt_of_le h2 hg.size, fun i hi => ?_⟩
      rw [World.cell?_of_block (a := ⟨b, off + i, none⟩) hb]
      exact h3 i hi

theorem IsNum.grown {w w' : World} {B k : Nat} {v : Value} {x : Int} (h : IsNum B w v x) (hg : w.grownBy w' (some k)) (hk : k < B) : IsNum B w' v x := by
  obtain ⟨neg, ao, cap, L, h1, h2, h3, h4⟩ := h
  refine ⟨neg, ao, cap, L, h1, h2.grown hg ?_, h3, h4⟩
  intro b off e he
  rcases h3 with h0 | ⟨b', off', e', hb'⟩
  · exact absurd h0 he
  · rw [e] at e'
    simp only [Option.some.injEq, Addr.mk.injEq] at e'
    omega

end Go.Proofs.YtfnnbkclnflpfaaGreatDoor

/- Plain facts for the reference's Shift. -/
namespace Go.Proofs.YtfnnbkclnflpfaaGreatDoor
open Go.RowKit

/-- A size times 2^m, without what is behind the point. -/
def shF (v : Nat) (m : Int) : Nat := if 0 ≤ m then v * 2 ^ m.toNat else v / 2 ^ (-m).toNat
theorem shV_shF (neg : Bool) (L : List Nat) (n : Int) : shV neg L n = sg neg (shF (val L) n) := rfl
theorem shF_zero (m : Int) : shF 0 m = 0 := by unfold shF; split <;> simp
theorem shF_end (v : Nat) : shF v 0 = v := by unfold shF; simp
theorem sg_sign (nn : Bool) (v : Nat) (m : Int) : sg (decide (sg nn v < 0)) (shF v m) = sg nn (shF v m) := by
  by_cases hv : v = 0
  · subst hv; rw [shF_zero]; unfold sg; simp
  · have : decide (sg nn v < 0) = nn := by unfold sg; cases nn <;> simp <;> omega
    rw [this]
theorem natAbs_sg (nn : Bool) (v : Nat) : (sg nn v).natAbs = v := by unfold sg; cases nn <;> simp

/-- What holds at the head of each of the four loops. -/
def ShI (w wr : World) (z m : Int) (nn : Bool) (a : Option Addr) (c : Nat) (L : List Nat) : Prop :=
  Box2 wr w.heap.size (.bool nn) (.slice a L.length c) ∧ Box2 wr (w.heap.size + 1) (.bool false) (.slice none 0 0) ∧ LimbsAt wr a c L ∧ Canon L ∧ (nn = true → L ≠ []) ∧ L.length + m.toNat ≤ 20000 ∧ sg nn (shF (val L) m) = z ∧ Below w.heap.size w wr

theorem Box2.put {w : World} {b : Nat} {x y : Value} (h : Box2 w b x y) (u u' : Value) : Box2 ((w.setCell ⟨b, 0, none⟩ u).setCell ⟨b, 1, none⟩ u') b u u' := by
  have h1 := heap_setCell_same w b 0 _ _ u h
  have h2 := heap_setCell_same (w.setCell ⟨b, 0, none⟩ u) b 1 _ _ u' h1
  unfold Box2
  rw [h2]
  simp

/-- The number that a step has made is stored into the variable. -/
theorem ShI.step {w w2 : World} {z m x : Int} {nn n0 n' : Bool} {a0 a' : Option Addr} {l0 c0 c' v M B : Nat} {L' : List Nat}
    (hb : Box2 w2 w.heap.size (.bool n0) (.slice a0 l0 c0)) (hr : Box2 w2 (w.heap.size + 1) (.bool false) (.slice none 0 0))
    (i : LimbsAt w2 a' c' L' ∧ NewAt B a' L' ∧ Canon L' ∧ n' = decide (x < 0) ∧ val L' = x.natAbs ∧ L'.length ≤ M) (hx : x = sg nn v) (hz : sg nn (shF v m) = z) (hl : M + m.toNat ≤ 20000) (hbel : Below w.heap.size w w2) :
    ShI w ((w2.setCell ⟨w.heap.size, 0, none⟩ (.bool n')).setCell ⟨w.heap.size, 1, none⟩ (.slice a' L'.length c')) z m n' a' c' L' := by
  obtain ⟨i1, i2, i3, i4, i5, i6⟩ := i
  subst hx
  rw [natAbs_sg] at i5
  refine ⟨hb.put _ _, (hr.other (by simp) _).other (by simp) _, i1.box hb _ _, i3, ?_, by omega, ?_, (hbel.setCell (by simp) _).setCell (by simp) _⟩
  · rintro e rfl
    rw [e] at i4
    simp [val] at i5
    have := of_decide_eq_true i4.symm
    rw [← i5] at this
    unfold sg at this
    simp at this
  · rw [i4, i5, sg_sign]; exact hz

theorem ShI.last {w wr : World} {z m : Int} {nn : Bool} {a : Option Addr} {c : Nat} {L : List Nat} (h : ShI w wr z m nn a c L) (he : m = 0 ∨ L = []) : IsNum 0 wr (.agg #[.bool nn, .slice a L.length c]) z := by
  obtain ⟨h1, h2, h3, h4, h5, h6, h7, h8⟩ := h
  by_cases h0 : L = []
  · subst h0
    have : nn = false := by cases nn <;> simp_all
    subst this
    simp only [val, shF_zero] at h7
    rw [← h7]
    exact IsNum.zero _ _ _ _
  · rcases he with rfl | he
    · rw [shF_end] at h7
      rw [← h7, ← sval_sg]
      exact IsNum.mk h3 (NewAt.zero h3) h4 h0 (by omega)
    · exact absurd he h0

theorem LimbsAt.drop1 {w : World} {b off c : Nat} {L : List Nat} (h : LimbsAt w (some ⟨b, off, none⟩) c L) : LimbsAt w (some ⟨b, off + 1, none⟩) (c - 1) (L.drop 1) := by
  refine ⟨by have := h.1; simp; omega, fun x hx => h.2.1 x (List.mem_of_mem_drop hx), ?_⟩
  rcases h.2.2 with h0 | ⟨b', off', h1, h2, h3⟩
  · left; simp [h0]
  · simp only [Option.some.injEq, Addr.mk.injEq, and_true] at h1
    obtain ⟨rfl, rfl⟩ := h1
    refine .inr ⟨b, off + 1, rfl, h2, fun i hi => ?_⟩
    simp at hi
    have := h3 (i + 1) (by omega)
    rw [show off + 1 + i = off + (i + 1) by omega, this, List.getElem?_drop, Nat.add_comm 1 i]

theorem made_drop (neg : Bool) (b off c : Nat) (L : List Nat) (w : World) (h : LimbsAt w (some ⟨b, off, none⟩) c L) (hl : L.length ≤ 30000) :
    Calls Tryz.prog 92 #[.bool neg, .slice (some ⟨b, off + 1, none⟩) (L.length - 1) (c - 1)] w fun e w' => ∃ v, e = .returned v ∧ IsNumM L.length 0 w' v (sg neg (val L / 4294967296)) ∧ Below w.heap.size w w' := by
  have := made_any 0 neg _ _ (L.drop 1) w h.drop1 (NewAt.zero h.drop1) (by simp; omega)
  rw [sval_sg, val_drop L h.2.1 1] at this
  simp only [List.length_drop, Nat.pow_one] at this
  exact this.mono fun e w' ⟨v, h1, h2, h3⟩ => ⟨v, h1, h2.more (by omega), h3⟩

theorem made_drop1 (neg : Bool) (b off : Nat) (L : List Nat) (w : World) (h : LimbsAt w (some ⟨b, off, none⟩) 1 L) :
    Calls Tryz.prog 92 #[.bool neg, .slice (some ⟨b, off, none⟩) 0 0] w fun e w' => ∃ v, e = .returned v ∧ IsNumM L.length 0 w' v (sg neg (val L / 4294967296)) ∧ Below w.heap.size w w' := by
  have := made_any 0 neg (some ⟨b, off, none⟩) 0 [] w (LimbsAt.nil _ _ _) (.inl rfl) (by simp)
  have hv : val L / 4294967296 = 0 := by
    have h1 := val_lt L h.2.1
    have h2 := Nat.pow_le_pow_right (n := 4294967296) (by decide) h.1
    exact Nat.div_eq_of_lt (by omega)
  rw [hv]
  rw [sval_sg] at this
  exact this.mono fun e w' ⟨v, h1, h2, h3⟩ => ⟨v, h1, h2.more (by simp), h3⟩

end Go.Proofs.YtfnnbkclnflpfaaGreatDoor

/- A right number that came in. -/
namespace Go.Proofs.YtfnnbkclnflpfaaGreatDoor
open Go.RowKit

/-- A right number that came in, as a number. -/
theorem right_num {B : Nat} {w : World} {neg : Bool} {ao : Option Addr} {cap : Nat} {L : List Nat} (h : LimbsAt w ao cap L) (hr : rightB neg L = true) (hn : NewAt B ao L) : IsNum B w (.agg #[.bool neg, .slice ao L.length cap]) (sval neg L) := by
  have hc := right_canon hr
  by_cases h0 : L = []
  · subst h0
    have : neg = false := by cases neg <;> simp_all
    subst this
    exact IsNum.zero _ _ _ _
  · exact IsNum.mk h hn hc.2.1 h0 (by omega)

end Go.Proofs.YtfnnbkclnflpfaaGreatDoor

