/- Part 2 of the texts. -/
import Derived.Test.YtfnnbkclnflpfaaGreatDoorPartS01
import Derived.Outline
import Derived.Deep.RegionWith
/- A row of limbs that the call itself made: its block, known whole. -/
namespace Go.Proofs.YtfnnbkclnflpfaaGreatDoor
open Go.RowKit

def limbV (x : Nat) : Value := .int .u32 (x : Int)

/-- Block g holds the limbs S, and nothing of it is frozen. -/
def RowAt (w : World) (g : Nat) (S : List Nat) : Prop := w.heap[g]? = some (.cells (S.map limbV).toArray 70 (0, 0))

theorem RowAt.cell {w : World} {g : Nat} {S : List Nat} (h : RowAt w g S) (j : Nat) (hj : j < S.length) : w.cell? ⟨g, j, none⟩ = some (.int .u32 ((S[j]?.getD 0 : Nat) : Int)) := by
  rw [cell_of_row w g j _ _ _ h]
  simp [limbV, hj]

theorem RowAt.free {w : World} {g : Nat} {S : List Nat} (h : RowAt w g S) (j : Nat) : w.frozen? ⟨g, j, none⟩ = false := frozen_of_row w g j _ _ h

theorem RowAt.set {w : World} {g : Nat} {S : List Nat} (h : RowAt w g S) (j x : Nat) : RowAt (w.setCell ⟨g, j, none⟩ (.int .u32 (x : Int))) g (S.set j x) := by
  unfold RowAt
  rw [heap_setCell_same w g j _ _ _ h]
  simp [List.map_set, limbV]

theorem RowAt.lt {w : World} {g : Nat} {S : List Nat} (h : RowAt w g S) : g < w.heap.size := (Array.getElem?_eq_some_iff.1 h).1

theorem RowAt.limbs {w : World} {g : Nat} {S : List Nat} (h : RowAt w g S) (hf : Fits S) (cap : Nat) (hc : S.length ≤ cap) : LimbsAt w (some ⟨g, 0, none⟩) cap S :=
  ⟨hc, hf, .inr ⟨g, 0, rfl, h.lt, fun i hi => by rw [Nat.zero_add]; exact h.cell i hi⟩⟩

theorem RowAt.below {w w' : World} {g : Nat} {S : List Nat} (h : RowAt w g S) {B : Nat} (hb : Below B w w') (hg : g < B) : RowAt w' g S := by
  unfold RowAt; rw [hb.block g hg]; exact h

theorem RowAt.drewN {w : World} {g : Nat} {S : List Nat} (h : RowAt w g S) (n : Nat) : RowAt (w.drewN n) g S := h

/-- Out of the law on 'make'. -/
theorem RowAt.made {w : World} {base g n : Nat} (h : w.ownsRow base 70 1 (.slice (some ⟨g, 0, none⟩) n n) n (madeCells (Value.int .u32 0).cells (n * 1)).toList) : RowAt w g (List.replicate n 0) := by
  rcases h.2 with ⟨h', _⟩ | ⟨g', cap', cur, h', _, hg, _, _, hs, htake⟩
  · simp at h'
  · simp only [Value.slice.injEq, Option.some.injEq, Addr.mk.injEq, and_true, true_and] at h'
    obtain ⟨rfl, rfl⟩ := h'
    unfold RowAt
    rw [hg]
    rw [List.take_of_length_le (by simp [hs])] at htake
    have : cur = ((List.replicate n 0).map limbV).toArray := by
      apply Array.toList_inj.1
      rw [htake]
      refine List.ext_getElem (by simp [madeCells]) fun i h1 h2 => ?_
      simp [madeCells, Value.cells, limbV, Nat.mod_one]
    rw [this]

end Go.Proofs.YtfnnbkclnflpfaaGreatDoor

/- Contracts of what makes rows of limbs: addLimbs. -/
namespace Go.Proofs.YtfnnbkclnflpfaaGreatDoor
open Go.RowKit

theorem Tryz.info70 : (Tryz.prog.info? 70).map (fun i => (i.zero, i.size, i.bytes)) = some (some (.int .u32 0), 1, 4) := by kernel_rfl

theorem int_eq {k : IntKind} {a b : Int} (h : a = b) : Value.int k a = .int k b := by rw [h]

/-- limbAt, what it finds under a name. -/
theorem limbAt_x (ao : Option Addr) (cap : Nat) (L : List Nat) (i : Int) (k x : Nat) (w : World) (h : LimbsAt w ao cap L) (hl : L.length ≤ 35184372088830) (hk : i = (k : Int)) (hx : Hid (L[k]?.getD 0 = x)) :
    Calls Tryz.prog 176 #[.slice ao L.length cap, .int .i64 i] w fun e w' => e = .returned (.int .u64 (x : Int)) ∧ w = w' := by
  have := limbAt_any ao cap L i k w h hl hk
  rwa [hx.out] at this

set_option maxRecDepth 20000 in
set_option maxHeartbeats 400000 in
theorem addLimbs_any (ao bo : Option Addr) (ca cb : Nat) (A B : List Nat) (w : World) (hA : LimbsAt w ao ca A) (hB : LimbsAt w bo cb B) (la : A.length ≤ 35184372088830) (lb : B.length ≤ 35184372088830) :
    Calls Tryz.prog 184 #[.slice ao A.length ca, .slice bo B.length cb] w fun e w' => ∃ ao' cap' L', e = .returned (.slice ao' L'.length cap') ∧ LimbsAt w' ao' cap' L' ∧ NewAt w.heap.size ao' L' ∧ L'.length = max A.length B.length + 1 ∧ val L' = val A + val B ∧ Below w.heap.size w w' := by
  obtain ⟨i0, hi, hz0, hz1, hz2⟩ := info_parts Tryz.info70
  obtain ⟨n, hn⟩ : ∃ n, n = max A.length B.length + 1 := ⟨_, rfl⟩
  have n1 : A.length + 1 ≤ n := by omega
  have n2 : B.length + 1 ≤ n := by omega
  have n3 : n ≤ 35184372088831 := by omega
  have HN := hide hn
  clear hn
  go_enter Tryz.func184, Tryz.ntmps184
  go_wp2_with (at_make; have hn := unhide HN; refine wpList_make_full _ rfl _ _ 25 rfl w.heap.size 70 i0 (.int .u32 0) 1 Tryz.underlying25 hi hz0 hz1 .i64 .i64 _ _ n rfl rfl (by omega) (by omega) (by rw [hz2]; omega) (by unfold maxLen; omega) (Nat.le_refl _) ?_; clear hn; intro w1 hown hgrow)
  all_goals
    have hrow := RowAt.made hown
    have hb1 : Below w.heap.size w w1 := (Below.refl _ _).grown hgrow (Nat.le_refl _) (fun k h => by simp at h)
    have hs1 : w.heap.size < w1.heap.size := hrow.lt
    clear hown hgrow
    go_wp2
    go_loopw [6, 17] (fun c i wr => ∃ (k : Nat) (S : List Nat) (y : Nat), k ≤ n ∧ i = .int .i64 k ∧ c = .int .u64 y ∧ y ≤ 1 ∧ RowAt wr w.heap.size S ∧ S.length = n ∧ Fits S ∧ Below w.heap.size w wr ∧ Hid (val (S.take k) + 4294967296 ^ k * y = val (A.take k) + val (B.take k)))
      (fun _ i _ => n - (intOf i).toNat)
    case atStart => exact ⟨0, List.replicate n 0, 0, Nat.zero_le _, rfl, rfl, by omega, hrow, by simp, Fits.zeros _, hb1, by unfold Hid; simp [val]⟩
    case round =>
      obtain ⟨k, S, y, hk, rfl, rfl, hy, hr, hsl, hf, hbel, hv⟩ := hrel
      by_cases hlt : k < n
      · obtain ⟨xa, hxa⟩ : ∃ x, A[k]?.getD 0 = x := ⟨_, rfl⟩
        obtain ⟨xb, hxb⟩ : ∃ x, B[k]?.getD 0 = x := ⟨_, rfl⟩
        have ba : xa < 4294967296 := by rw [← hxa]; exact hA.lt k
        have bb : xb < 4294967296 := by rw [← hxb]; exact hB.lt k
        have cA := hA.below hbel
        have cB := hB.below hbel
        have hst := add_step A B S k y xa xb (by omega) hxa hxb hv.out
        have HST := hide hst
        have HXA := hide hxa
        have HXB := hide hxb
        have hcell := hr.cell k (by omega)
        have hfree := hr.free k
        have HR := hide hr
        clear hst hxa hxb hv hr
        generalize hS : S[k]?.getD 0 = sk at *
        clear hS
        go_wp2_with (first | (go_at_call_of 176 (Value.slice ao A.length ca); refine (limbAt_x ao ca A _ k xa _ cA la rfl HXA).mono ?_; rintro e w' ⟨rfl, rfl⟩) | (go_at_call_of 176 (Value.slice bo B.length cb); refine (limbAt_x bo cb B _ k xb _ cB lb rfl HXB).mono ?_; rintro e w' ⟨rfl, rfl⟩))
        have ec : (((y + (xa + xb)) % 4294967296 : Nat) : Int) = ((y : Int) + ((xa : Int) + (xb : Int))) % 4294967296 := by omega
        have hr' := (unhide HR).set k ((y + (xa + xb)) % 4294967296)
        rw [ec] at hr'
        go_roundw
        case rel => exact ⟨k + 1, S.set k ((y + (xa + xb)) % 4294967296), (y + (xa + xb)) / 4294967296, by omega, by go_num, int_eq (by omega), by omega, hr', by simpa using hsl, hf.set _ _ (by omega), hbel.setCell (by simp) _, HST⟩
        case measure => simp [intOf]; omega
      · have hend := add_end A B S n y hA.2.1 hB.2.1 n1 n2 hsl (by rw [show n = k by omega]; exact hv.out)
        have HEND := hide hend
        have HR := hide hr
        have HV := hide hv
        clear hend hr hv
        go_wp2
        go_ret
        have hN := unhide HN
        refine ⟨some ⟨w.heap.size, 0, none⟩, n, S, by rw [hsl]; rfl, (unhide HR).limbs hf n (by omega), .inr ⟨_, _, rfl, Nat.le_refl _⟩, by rw [hsl]; exact hN, unhide HEND, hbel⟩

end Go.Proofs.YtfnnbkclnflpfaaGreatDoor

/- Plain mathematics, more: differences. -/
namespace Go.Proofs.YtfnnbkclnflpfaaGreatDoor

/-- One step of a difference: t is the limb that is left, c' the new borrow. -/
theorem sub_step (A B S : List Nat) (k c x y t c' : Nat) (hk : k < S.length) (hx : A[k]?.getD 0 = x) (hy : B[k]?.getD 0 = y) (ht : t + y + c = x + 4294967296 * c') (h : val (S.take k) + val (B.take k) = val (A.take k) + 4294967296 ^ k * c) :
    val ((S.set k t).take (k + 1)) + val (B.take (k + 1)) = val (A.take (k + 1)) + 4294967296 ^ (k + 1) * c' := by
  rw [val_set_take S k _ hk, val_take_succ A k, val_take_succ B k, hx, hy, Nat.pow_succ]
  have e : 4294967296 ^ k * (t + y + c) = 4294967296 ^ k * (x + 4294967296 * c') := by rw [ht]
  rw [Nat.mul_add, Nat.mul_add, Nat.mul_add, ← Nat.mul_assoc] at e
  omega

theorem sub_end (A B S : List Nat) (n c : Nat) (hS : Fits S) (hn : S.length = n) (ha : A.length = n) (hv : val B ≤ val A) (hB : val (B.take n) = val B) (h : val (S.take n) + val (B.take n) = val (A.take n) + 4294967296 ^ n * c) :
    val S = val A - val B := by
  rw [val_take_all S n (by omega), val_take_all A n (by omega), hB] at h
  have h1 := val_lt S hS
  rw [hn] at h1
  rcases Nat.eq_zero_or_pos c with hc | hc
  · subst hc; omega
  · have h4 := Nat.mul_le_mul_left (4294967296 ^ n) hc
    omega

/-- What is no more than A has no more limbs that count. -/
theorem take_le (A B : List Nat) (hA : Fits A) (hv : val B ≤ val A) : val (B.take A.length) = val B := by
  have h1 := val_split B A.length
  have h2 := val_lt A hA
  rcases Nat.eq_zero_or_pos (val (B.drop A.length)) with e | e
  · rw [e] at h1; omega
  · have h4 := Nat.mul_le_mul_left (4294967296 ^ A.length) e
    omega

end Go.Proofs.YtfnnbkclnflpfaaGreatDoor

/- Plain mathematics, more: lists that grow at their end. -/
namespace Go.Proofs.YtfnnbkclnflpfaaGreatDoor
theorem Fits.snoc {S : List Nat} (h : Fits S) {x : Nat} (hx : x < 4294967296) : Fits (S ++ [x]) := fun y hy => by
  rcases List.mem_append.1 hy with h1 | h1
  · exact h y h1
  · simp at h1; omega

end Go.Proofs.YtfnnbkclnflpfaaGreatDoor

/- Plain mathematics, more: products. -/
namespace Go.Proofs.YtfnnbkclnflpfaaGreatDoor

theorem val_set : ∀ (S : List Nat) (j t : Nat), j < S.length → val (S.set j t) + 4294967296 ^ j * (S[j]?.getD 0) = val S + 4294967296 ^ j * t
  | [], _, _, h => by simp at h
  | x :: r, 0, t, _ => by simp [val]; omega
  | x :: r, j + 1, t, h => by
    have ih := val_set r j t (by simpa using h)
    simp only [List.set_cons_succ, val, List.getElem?_cons_succ, Nat.pow_succ]
    have e1 : 4294967296 ^ j * 4294967296 * (r[j]?.getD 0) = 4294967296 * (4294967296 ^ j * (r[j]?.getD 0)) := by rw [Nat.mul_comm (4294967296 ^ j), Nat.mul_assoc]
    have e2 : 4294967296 ^ j * 4294967296 * t = 4294967296 * (4294967296 ^ j * t) := by rw [Nat.mul_comm (4294967296 ^ j), Nat.mul_assoc]
    rw [e1, e2]
    omega

theorem getD_set_ne (S : List Nat) (j k t : Nat) (h : k ≠ j) : (S.set j t)[k]?.getD 0 = S[k]?.getD 0 := by
  rw [List.getElem?_set_ne (by omega)]

theorem mul_lt (x y : Nat) (hx : x < 4294967296) (hy : y < 4294967296) : x * y ≤ 18446744065119617025 := by
  have := Nat.mul_le_mul (show x ≤ 4294967295 by omega) (show y ≤ 4294967295 by omega)
  simpa using this

theorem mul_ltI (x y : Nat) (hx : x < 4294967296) (hy : y < 4294967296) : (x : Int) * (y : Int) ≤ 18446744065119617025 ∧ (0 : Int) ≤ (x : Int) * (y : Int) := by
  have h := mul_lt x y hx hy
  have e : ((x * y : Nat) : Int) = (x : Int) * (y : Int) := Int.natCast_mul x y
  rw [← e]
  omega
theorem mul_casts (x y z q : Nat) : (((y + (x * z + q)) % 4294967296 : Nat) : Int) = ((y : Int) + ((x : Int) * (z : Int) + (q : Int))) % 4294967296 ∧ (((y + (x * z + q)) / 4294967296 : Nat) : Int) = ((y : Int) + ((x : Int) * (z : Int) + (q : Int))) / 4294967296 := by
  have e : ((x * z : Nat) : Int) = (x : Int) * (z : Int) := Int.natCast_mul x z
  rw [← e]
  omega

/-- One step of the inner loop. -/
theorem mul_step (B Q : List Nat) (V x i k c y q : Nat) (hk : i + k < Q.length) (hy : B[k]?.getD 0 = y) (hq : Q[i + k]?.getD 0 = q) (h : val Q + 4294967296 ^ (i + k) * c = V + 4294967296 ^ i * x * val (B.take k)) :
    val (Q.set (i + k) ((c + (x * y + q)) % 4294967296)) + 4294967296 ^ (i + (k + 1)) * ((c + (x * y + q)) / 4294967296) = V + 4294967296 ^ i * x * val (B.take (k + 1)) := by
  have h1 := val_set Q (i + k) ((c + (x * y + q)) % 4294967296) hk
  rw [hq] at h1
  have e := pow_step (4294967296 ^ (i + k)) 4294967296 (c + (x * y + q))
  rw [show 4294967296 ^ (i + (k + 1)) = 4294967296 ^ (i + k) * 4294967296 by rw [← Nat.add_assoc, Nat.pow_succ], val_take_succ B k, hy]
  have e2 : 4294967296 ^ i * x * (val (B.take k) + 4294967296 ^ k * y) = 4294967296 ^ i * x * val (B.take k) + 4294967296 ^ (i + k) * (x * y) := by
    rw [Nat.mul_add, Nat.pow_add]
    congr 1
    rw [Nat.mul_assoc, Nat.mul_assoc, ← Nat.mul_assoc x, Nat.mul_comm x, Nat.mul_assoc]
  rw [e2]
  have e3 : 4294967296 ^ (i + k) * (c + (x * y + q)) = 4294967296 ^ (i + k) * c + 4294967296 ^ (i + k) * (x * y) + 4294967296 ^ (i + k) * q := by rw [Nat.mul_add, Nat.mul_add]; omega
  omega

/-- The carry put on top. -/
theorem mul_top (A B Q : List Nat) (x i c : Nat) (hk : i + B.length < Q.length) (hx : A[i]?.getD 0 = x) (hq : Q[i + B.length]?.getD 0 = 0) (h : val Q + 4294967296 ^ (i + B.length) * c = val (A.take i) * val B + 4294967296 ^ i * x * val (B.take B.length)) :
    val (Q.set (i + B.length) c) = val (A.take (i + 1)) * val B := by
  have h1 := val_set Q (i + B.length) c hk
  rw [hq, Nat.mul_zero] at h1
  rw [List.take_length] at h
  rw [val_take_succ A i, hx, Nat.add_mul]
  omega

end Go.Proofs.YtfnnbkclnflpfaaGreatDoor

