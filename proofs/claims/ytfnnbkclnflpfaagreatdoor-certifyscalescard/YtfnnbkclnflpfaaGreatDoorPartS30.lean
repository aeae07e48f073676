/- Part 30 of the texts. -/
import Derived.Test.YtfnnbkclnflpfaaGreatDoorPartS26
import Derived.Deep.RegionWith
import Derived.Deep.RegionLaw
import Derived.Test.YtfnnbkclnflpfaaGreatDoorPartS05
import Derived.Test.YtfnnbkclnflpfaaGreatDoorPartS02
import Derived.Maps.AppendAt
import Derived.Test.YtfnnbkclnflpfaaGreatDoorPartS08
import Derived.Lib.BitFns
/- The reference of layer 10: Eye, In. -/
namespace Go.Proofs.YtfnnbkclnflpfaaGreatDoor
open Go.RowKit
attribute [local go_sem ↓] Go.wp_at_zero Go.wp_at_succ

/-- A matrix in a variable's box at g, the result's box at gr. -/
structure LpSt (w wr : World) (g gr p q : Nat) (mo : Option Addr) (mc : Nat) (S : List Nat) : Prop where
  bel : Below w.heap.size w wr
  box : BoxM wr g (.int .i64 p) (.int .i64 q) (.slice mo S.length mc)
  res : BoxM wr gr (.int .i64 0) (.int .i64 0) (.slice none 0 0)
  bits : BitsAt wr mo mc (mxL S)
  ne : gr ≠ g
  lo : w.heap.size ≤ g
theorem LpSt.all {w wr w' : World} {g gr p q : Nat} {mo : Option Addr} {mc : Nat} {S : List Nat} (h : LpSt w wr g gr p q mo mc S) (hb : Below wr.heap.size wr w') : LpSt w w' g gr p q mo mc S :=
  ⟨h.bel.trans (hb.mono h.bel.size), h.box.all hb, h.res.all hb, h.bits.below hb, h.ne, h.lo⟩
theorem LpSt.put {w wr : World} {g gr p q : Nat} {mo : Option Addr} {mc : Nat} {S : List Nat} (h : LpSt w wr g gr p q mo mc S) {no : Option Addr} {nc : Nat} {T : List Nat} (hT : BitsAt wr no nc (mxL T)) :
    LpSt w (((wr.setCell ⟨g, 0, none⟩ (.int .i64 p)).setCell ⟨g, 1, none⟩ (.int .i64 q)).setCell ⟨g, 2, none⟩ (.slice no T.length nc)) g gr p q no nc T :=
  ⟨below_putM h.bel h.lo _ _ _, h.box.put _ _ _, ((h.res.other (p := ⟨g, 0, none⟩) h.ne _).other (p := ⟨g, 1, none⟩) h.ne _).other (p := ⟨g, 2, none⟩) h.ne _, hT.putM h.box _ _ _, h.ne, h.lo⟩

theorem NewM.any {w : World} {r c : Nat} {S : List Nat} {ao : Option Addr} {cap : Nat} (h : BitsAt w ao cap (mxL S)) : NewM 0 w r c S (.agg #[.int .i64 r, .int .i64 c, .slice ao S.length cap]) := by
  refine ⟨ao, cap, rfl, ?_, h⟩
  rcases h.2.2 with e | ⟨b, off, e1, _, _⟩
  · exact .inl e
  · exact .inr ⟨b, off, e1, Nat.zero_le _⟩

end Go.Proofs.YtfnnbkclnflpfaaGreatDoor

/- The reference of layer 10: In, Copy, Stack, Beside. -/
namespace Go.Proofs.YtfnnbkclnflpfaaGreatDoor
open Go.RowKit
attribute [local go_sem ↓] Go.wp_at_zero Go.wp_at_succ
theorem OwnB.least {base base' : Nat} {w : World} {v : Value} {S : List Nat} (h : OwnB base w v S) (hb : base' ≤ base) : OwnB base' w v S := by
  refine ⟨⟨h.1.1, ?_⟩, h.2⟩
  rcases h.1.2 with e | ⟨g, cap, cur, hv, hg, rest⟩
  · exact .inl e
  · exact .inr ⟨g, cap, cur, hv, Nat.le_trans hb hg, rest⟩
/-- Stores into a box that lies elsewhere. -/
theorem OwnB.putM {base : Nat} {w : World} {v : Value} {S : List Nat} (h : OwnB base w v S) {b : Nat} {x y z : Value} (_hx : BoxM w b x y z) (hb : b < base) (u u' u'' : Value) : OwnB base (((w.setCell ⟨b, 0, none⟩ u).setCell ⟨b, 1, none⟩ u').setCell ⟨b, 2, none⟩ u'') v S := by
  refine ⟨⟨h.1.1, ?_⟩, h.2⟩
  rcases h.1.2 with e | ⟨g, cap, cur, hv, hg, hh, rest⟩
  · exact .inl e
  · refine .inr ⟨g, cap, cur, hv, hg, ?_, rest⟩
    have ne : g ≠ b := by omega
    rw [Below.heap_setCell _ ⟨b, 2, none⟩ u'' g ne, Below.heap_setCell _ ⟨b, 1, none⟩ u' g ne, Below.heap_setCell _ ⟨b, 0, none⟩ u g ne]
    exact hh

set_option maxRecDepth 20000 in
set_option maxHeartbeats 8000000 in
theorem rcopy_any (r c : Int) (ao : Option Addr) (cap : Nat) (I : List Int) (w : World) (h : BitsAt w ao cap I) (hl : I.length ≤ 17592186043904) :
    Calls Tryz.prog 31 #[.agg #[.int .i64 r, .int .i64 c, .slice ao I.length cap]] w fun e w' => ∃ po pc, e = .returned (.agg #[.int .i64 r, .int .i64 c, .slice po I.length pc]) ∧ OwnB w.heap.size w' (.slice po I.length pc) (natL I) ∧ Below w.heap.size w w' := by
  have b0 := below_alloc9 w (.cells #[.int .i64 r, .int .i64 c, .slice ao I.length cap] 24)
  have s0 := size_alloc9 w (.cells #[.int .i64 r, .int .i64 c, .slice ao I.length cap] 24)
  have b1 := below_alloc9 (w.alloc (.cells #[.int .i64 r, .int .i64 c, .slice ao I.length cap] 24)) (.cells #[.int .i64 0, .int .i64 0, .slice none 0 0] 24)
  have s1 := size_alloc9 (w.alloc (.cells #[.int .i64 r, .int .i64 c, .slice ao I.length cap] 24)) (.cells #[.int .i64 0, .int .i64 0, .slice none 0 0] 24)
  have bb := b0.trans (b1.mono b0.size)
  have bits := h.below bb
  have KB := hide (fun w1 => boxes2 w (.int .i64 r) (.int .i64 c) (.slice ao I.length cap) (.int .i64 0) (.int .i64 0) (.slice none 0 0) w1)
  rw [s0] at s1
  have KC := hide (fun w' (hb : Below (w.heap.size + 1 + 1) ((w.alloc (.cells #[.int .i64 r, .int .i64 c, .slice ao I.length cap] 24)).alloc (.cells #[.int .i64 0, .int .i64 0, .slice none 0 0] 24)) w') (hz : w'.heap.size = w.heap.size + 1 + 1) => (show ∃ po pc w'', (Builtin.append_ #[22, 22] 22 #[.slice (some ⟨w.heap.size + 1 + 1, 0, none⟩) 0 0, .slice ao I.length cap]).run Tryz.prog (w'.alloc (.cells #[] 52)) = .ok (.slice po I.length pc) w'' ∧ (OwnB (w.heap.size + 1 + 1) w'' (.slice po I.length pc) (natL I) ∧ Below (w.heap.size + 1 + 1) ((w.alloc (.cells #[.int .i64 r, .int .i64 c, .slice ao I.length cap] 24)).alloc (.cells #[.int .i64 0, .int .i64 0, .slice none 0 0] 24)) w'') from by
    have b2 := below_alloc9 w' (.cells #[] 52)
    have on := OwnB.nil w' (w.heap.size + 1 + 1) (by omega)
    have bt := (bits.below (by rw [s1]; exact hb)).below b2
    obtain ⟨po, pc, w1, run, own, gr⟩ := copy_bits _ (w.heap.size + 1 + 1) 22 ao cap I _ bt hl on.1 (by simp; omega)
    rw [hz] at run
    exact ⟨po, pc, w1, run, own, hb.trans ((b2.mono (by omega)).grown gr (by simp; omega) (fun g hg => by cases hg; omega))⟩))
  clear b0 b1 s0 s1 bb bits h
  obtain ⟨l, hl'⟩ : ∃ l, I.length = l := ⟨_, rfl⟩
  have HL := hide hl'
  rw [hl'] at KB KC hl ⊢
  clear hl'
  have HK := hide (fun w' (hb : Below (w.heap.size + 1 + 1) ((w.alloc (.cells #[.int .i64 r, .int .i64 c, .slice ao l cap] 24)).alloc (.cells #[.int .i64 0, .int .i64 0, .slice none 0 0] 24)) w') => (show w'.cell? ⟨w.heap.size, 0, none⟩ = some (.int .i64 r) ∧ w'.cell? ⟨w.heap.size, 1, none⟩ = some (.int .i64 c) ∧ w'.cell? ⟨w.heap.size, 2, none⟩ = some (.slice ao l cap) from
    ⟨(unhide KB w' hb).2.1.c0, (unhide KB w' hb).2.1.c1, (unhide KB w' hb).2.1.c2⟩))
  have HP := hide (fun w5 (u u' u'' : Value) (hb : Below (w.heap.size + 1 + 1) ((w.alloc (.cells #[.int .i64 r, .int .i64 c, .slice ao l cap] 24)).alloc (.cells #[.int .i64 0, .int .i64 0, .slice none 0 0] 24)) w5) => (show (((w5.setCell ⟨w.heap.size + 1, 0, none⟩ u).setCell ⟨w.heap.size + 1, 1, none⟩ u').setCell ⟨w.heap.size + 1, 2, none⟩ u'').cell? ⟨w.heap.size, 0, none⟩ = some (.int .i64 r) ∧ (((w5.setCell ⟨w.heap.size + 1, 0, none⟩ u).setCell ⟨w.heap.size + 1, 1, none⟩ u').setCell ⟨w.heap.size + 1, 2, none⟩ u'').cell? ⟨w.heap.size, 1, none⟩ = some (.int .i64 c) ∧ (((w5.setCell ⟨w.heap.size + 1, 0, none⟩ u).setCell ⟨w.heap.size + 1, 1, none⟩ u').setCell ⟨w.heap.size + 1, 2, none⟩ u'').cell? ⟨w.heap.size, 2, none⟩ = some (.slice ao l cap) from by
    have X := (unhide KB w5 hb).2.1
    have Y := ((X.other (p := ⟨w.heap.size + 1, 0, none⟩) (by show w.heap.size ≠ w.heap.size + 1; omega) u).other (p := ⟨w.heap.size + 1, 1, none⟩) (by show w.heap.size ≠ w.heap.size + 1; omega) u').other (p := ⟨w.heap.size + 1, 2, none⟩) (by show w.heap.size ≠ w.heap.size + 1; omega) u''
    exact ⟨Y.c0, Y.c1, Y.c2⟩))
  go_enter Tryz.func31, Tryz.ntmps31
  go_wp2_with fail
  go_region_held3 (fun w' => w'.cell? ⟨w.heap.size, 0, none⟩ = some (.int .i64 r) ∧ w'.cell? ⟨w.heap.size, 1, none⟩ = some (.int .i64 c) ∧ w'.cell? ⟨w.heap.size, 2, none⟩ = some (.slice ao l cap))
    (first | exact unhide HK _ (Below.refl _ _).drew | exact unhide HK _ (by assumption) | exact unhide HK _ ((Below.refl _ _).drew.alloc (by simp) _) | exact unhide HP _ _ _ _ (by assumption) | fail "KK")
    (first | (refine step_append_ex _ (by rfl) _ _ 22 (by rfl) _ _ _ _ (by rfl) (by rfl) (unhide KC _ (Below.refl _ _).drew (by first | rfl | simp)) ?_; rintro po pc w5 ⟨own5, bel5⟩; obtain ⟨B5, A5, X5⟩ := unhide KB w5 bel5; have u0 := X5.c0; have u1 := X5.c1; have u2 := X5.c2; have f0 := X5.free 0; have f1 := X5.free 1; have f2 := X5.free 2; have HO := hide own5; have HB := hide B5; have HX := hide X5; clear own5 A5 X5 B5) | fail "NO ARM")
  all_goals
    have XP := (unhide HX).put (.int .i64 r) (.int .i64 c) (.slice po l pc)
    have z0 := XP.c0; have z1 := XP.c1; have z2 := XP.c2
    have OP := hide ((unhide HO).putM (unhide HX) (by omega) (.int .i64 r) (.int .i64 c) (.slice po l pc))
    have BP := hide (below_putM (unhide HB) (b := w.heap.size + 1) (by omega) (.int .i64 r) (.int .i64 c) (.slice po l pc))
    clear XP HX HO HB
    go_wp2
    exact bodyPost_ret (v := .agg #[.int .i64 r, .int .i64 c, .slice po l pc]) (by simp [results, Tryz.results31, go_sem, z0, z1, z2]) rfl ⟨po, pc, rfl, (unhide OP).least (by omega), unhide BP⟩

end Go.Proofs.YtfnnbkclnflpfaaGreatDoor

/- Rows of numbers, as they lie in memory. -/
namespace Go.Proofs.YtfnnbkclnflpfaaGreatDoor
open Go.RowKit

/-- A number in memory: its sign, where its limbs lie, the limbs. -/
structure Nm where
  neg : Bool
  ao : Option Addr
  cap : Nat
  L : List Nat

/-- A row in memory: where its numbers lie, the numbers. -/
structure Rw where
  ao : Option Addr
  cap : Nat
  R : List Nm

def Nm.nil : Nm := ⟨false, none, 0, []⟩
def Rw.nil : Rw := ⟨none, 0, []⟩
def nmAt (R : List Nm) (k : Nat) : Nm := R[k]?.getD Nm.nil
def rwAt (M : List Rw) (i : Nat) : Rw := M[i]?.getD Rw.nil
def Nm.v (x : Nm) : Value := .agg #[.bool x.neg, .slice x.ao x.L.length x.cap]
def Rw.v (r : Rw) : Value := .slice r.ao r.R.length r.cap

/-- The numbers R lie at ao. -/
def NumsAt (w : World) (ao : Option Addr) (cap : Nat) (R : List Nm) : Prop :=
  R.length ≤ cap ∧ (∀ x ∈ R, LimbsAt w x.ao x.cap x.L) ∧ (R = [] ∨ ∃ b off, ao = some ⟨b, off, none⟩ ∧ b < w.heap.size ∧ ∀ k, k < R.length → w.cell? ⟨b, off + k * 2, none⟩ = some (.bool (nmAt R k).neg) ∧ w.cell? ⟨b, off + k * 2 + 1, none⟩ = some (.slice (nmAt R k).ao (nmAt R k).L.length (nmAt R k).cap))

/-- The rows M lie at ao. -/
def MatAt (w : World) (ao : Option Addr) (cap : Nat) (M : List Rw) : Prop :=
  M.length ≤ cap ∧ (∀ r ∈ M, NumsAt w r.ao r.cap r.R) ∧ (M = [] ∨ ∃ b off, ao = some ⟨b, off, none⟩ ∧ b < w.heap.size ∧ ∀ i, i < M.length → w.cell? ⟨b, off + i, none⟩ = some (rwAt M i).v)

theorem nmAt_mem {R : List Nm} {k : Nat} (h : k < R.length) : nmAt R k ∈ R := by
  unfold nmAt; rw [List.getElem?_eq_getElem h]; exact List.getElem_mem h
theorem rwAt_mem {M : List Rw} {i : Nat} (h : i < M.length) : rwAt M i ∈ M := by
  unfold rwAt; rw [List.getElem?_eq_getElem h]; exact List.getElem_mem h

theorem NumsAt.below {w w' : World} {ao : Option Addr} {cap : Nat} {R : List Nm} (h : NumsAt w ao cap R) (hb : Below w.heap.size w w') : NumsAt w' ao cap R := by
  refine ⟨h.1, fun x hx => (h.2.1 x hx).below hb, ?_⟩
  rcases h.2.2 with e | ⟨b, off, h1, h2, h3⟩
  · exact .inl e
  · refine .inr ⟨b, off, h1, Nat.lt_of_lt_of_le h2 hb.size, fun k hk => ?_⟩
    rw [hb.cell (p := ⟨b, off + k * 2, none⟩) h2, hb.cell (p := ⟨b, off + k * 2 + 1, none⟩) h2]
    exact h3 k hk

theorem MatAt.below {w w' : World} {ao : Option Addr} {cap : Nat} {M : List Rw} (h : MatAt w ao cap M) (hb : Below w.heap.size w w') : MatAt w' ao cap M := by
  refine ⟨h.1, fun r hr => (h.2.1 r hr).below hb, ?_⟩
  rcases h.2.2 with e | ⟨b, off, h1, h2, h3⟩
  · exact .inl e
  · refine .inr ⟨b, off, h1, Nat.lt_of_lt_of_le h2 hb.size, fun i hi => ?_⟩
    rw [hb.cell (p := ⟨b, off + i, none⟩) h2]
    exact h3 i hi

theorem NumsAt.limbs {w : World} {ao : Option Addr} {cap : Nat} {R : List Nm} (h : NumsAt w ao cap R) {k : Nat} (hk : k < R.length) : LimbsAt w (nmAt R k).ao (nmAt R k).cap (nmAt R k).L := h.2.1 _ (nmAt_mem hk)
theorem MatAt.nums {w : World} {ao : Option Addr} {cap : Nat} {M : List Rw} (h : MatAt w ao cap M) {i : Nat} (hi : i < M.length) : NumsAt w (rwAt M i).ao (rwAt M i).cap (rwAt M i).R := h.2.1 _ (rwAt_mem hi)

theorem NumsAt.ne {w : World} {ao : Option Addr} {cap : Nat} {R : List Nm} (h : NumsAt w ao cap R) (h0 : 0 < R.length) : ∃ b off, ao = some ⟨b, off, none⟩ ∧ b < w.heap.size ∧ ∀ k, k < R.length → w.cell? ⟨b, off + k * 2, none⟩ = some (.bool (nmAt R k).neg) ∧ w.cell? ⟨b, off + k * 2 + 1, none⟩ = some (.slice (nmAt R k).ao (nmAt R k).L.length (nmAt R k).cap) := by
  rcases h.2.2 with e | e
  · rw [e] at h0; simp at h0
  · exact e
theorem MatAt.ne {w : World} {ao : Option Addr} {cap : Nat} {M : List Rw} (h : MatAt w ao cap M) (h0 : 0 < M.length) : ∃ b off, ao = some ⟨b, off, none⟩ ∧ b < w.heap.size ∧ ∀ i, i < M.length → w.cell? ⟨b, off + i, none⟩ = some (.slice (rwAt M i).ao (rwAt M i).R.length (rwAt M i).cap) := by
  rcases h.2.2 with e | e
  · rw [e] at h0; simp at h0
  · exact e

/-- What the rows say. -/
def entry (M : List Rw) (i k : Nat) : Nm := nmAt (rwAt M i).R k
def width (M : List Rw) : Nat := (rwAt M 0).R.length

end Go.Proofs.YtfnnbkclnflpfaaGreatDoor

/- Rows of numbers, and rows of rows, that a call itself makes by appending. -/
namespace Go.Proofs.YtfnnbkclnflpfaaGreatDoor
open Go.RowKit

/-- The number's limbs don't lie in block g. -/
def Av (g : Option Nat) (x : Nm) : Prop := x.L = [] ∨ ∃ b off, x.ao = some ⟨b, off, none⟩ ∧ some b ≠ g
/-- Nothing of the row lies in block g. -/
def AvR (g : Option Nat) (r : Rw) : Prop := (r.R = [] ∨ ∃ b off, r.ao = some ⟨b, off, none⟩ ∧ some b ≠ g) ∧ ∀ x ∈ r.R, Av g x
def numCells (R : List Nm) : List Value := R.flatMap (fun x => [.bool x.neg, .slice x.ao x.L.length x.cap])

theorem Av.none (w : World) (x : Nm) (h : LimbsAt w x.ao x.cap x.L) : Av none x := by
  rcases h.2.2 with e | ⟨b, off, e, _⟩
  · exact .inl e
  · exact .inr ⟨b, off, e, by simp⟩
theorem Av.new {w : World} {x : Nm} (h : LimbsAt w x.ao x.cap x.L) {g : Nat} (hg : w.heap.size ≤ g) : Av (some g) x := by
  rcases h.2.2 with e | ⟨b, off, e, hb, _⟩
  · exact .inl e
  · exact .inr ⟨b, off, e, by intro e; cases e; omega⟩
theorem Av.old {B : Nat} {x : Nm} (h : NewAt B x.ao x.L) {g : Option Nat} (hg : ∀ m, g = some m → m < B) : Av g x := by
  rcases h with e | ⟨b, off, e, hb⟩
  · exact .inl e
  · exact .inr ⟨b, off, e, fun e => by have := hg b e.symm; omega⟩
theorem AvR.new {w : World} {r : Rw} (h : NumsAt w r.ao r.cap r.R) {g : Nat} (hg : w.heap.size ≤ g) : AvR (some g) r := by
  refine ⟨?_, fun x hx => Av.new (h.2.1 x hx) hg⟩
  rcases h.2.2 with e | ⟨b, off, e, hb, _⟩
  · exact .inl e
  · exact .inr ⟨b, off, e, by intro e; cases e; omega⟩
theorem AvR.none {w : World} {r : Rw} (h : NumsAt w r.ao r.cap r.R) : AvR none r := by
  refine ⟨?_, fun x hx => Av.none w x (h.2.1 x hx)⟩
  rcases h.2.2 with e | ⟨b, off, e, hb, _⟩
  · exact .inl e
  · exact .inr ⟨b, off, e, by simp⟩

theorem LimbsAt.grownAv {w w' : World} {x : Nm} {g : Option Nat} (h : LimbsAt w x.ao x.cap x.L) (ha : Av g x) (hg : w.grownBy w' g) : LimbsAt w' x.ao x.cap x.L := by
  refine ⟨h.1, h.2.1, ?_⟩
  rcases h.2.2 with e | ⟨b, off, e, hb, hc⟩
  · exact .inl e
  · rcases ha with e' | ⟨b', off', e', hne⟩
    · exact .inl e'
    · rw [e] at e'
      simp only [Option.some.injEq, Addr.mk.injEq] at e'
      obtain ⟨rfl, rfl, _⟩ := e'
      refine .inr ⟨b, off, e, Nat.lt_of_lt_of_le hb hg.size, fun i hi => ?_⟩
      rw [World.cell?_of_block (a := ⟨b, off + i, none⟩) (hg.block b hb hne)]
      exact hc i hi
theorem NumsAt.grownAv {w w' : World} {r : Rw} {g : Option Nat} (h : NumsAt w r.ao r.cap r.R) (ha : AvR g r) (hg : w.grownBy w' g) : NumsAt w' r.ao r.cap r.R := by
  refine ⟨h.1, fun x hx => (h.2.1 x hx).grownAv (ha.2 x hx) hg, ?_⟩
  rcases h.2.2 with e | ⟨b, off, e, hb, hc⟩
  · exact .inl e
  · rcases ha.1 with e' | ⟨b', off', e', hne⟩
    · exact .inl e'
    · rw [e] at e'
      simp only [Option.some.injEq, Addr.mk.injEq] at e'
      obtain ⟨rfl, rfl, _⟩ := e'
      refine .inr ⟨b, off, e, Nat.lt_of_lt_of_le hb hg.size, fun k hk => ?_⟩
      rw [World.cell?_of_block (a := ⟨b, off + k * 2, none⟩) (hg.block b hb hne), World.cell?_of_block (a := ⟨b, off + k * 2 + 1, none⟩) (hg.block b hb hne)]
      exact hc k hk

/-- v is a row of the call's own, of the numbers R. -/
def OwnNums (base : Nat) (w : World) (v : Value) (R : List Nm) : Prop := w.ownsRow base 27 2 v R.length (numCells R) ∧ ∀ x ∈ R, LimbsAt w x.ao x.cap x.L ∧ Av v.ownBlock x
/-- v is a row of the call's own, of the rows M. -/
def OwnRows (base : Nat) (w : World) (v : Value) (M : List Rw) : Prop := w.ownsRow base 87 1 v M.length (M.map Rw.v) ∧ ∀ r ∈ M, NumsAt w r.ao r.cap r.R ∧ AvR v.ownBlock r

theorem length_numCells (R : List Nm) : (numCells R).length = R.length * 2 := by
  induction R with
  | nil => rfl
  | cons x R ih => simp only [numCells, List.flatMap_cons, List.length_append, List.length_cons, List.length_nil] at ih ⊢; rw [show (List.flatMap (fun x => [Value.bool x.neg, Value.slice x.ao x.L.length x.cap]) R).length = R.length * 2 from ih]; omega
theorem numCells_get : ∀ (R : List Nm) (k : Nat), k < R.length → (numCells R)[k * 2]? = some (.bool (nmAt R k).neg) ∧ (numCells R)[k * 2 + 1]? = some (.slice (nmAt R k).ao (nmAt R k).L.length (nmAt R k).cap)
  | x :: R, 0, _ => by simp [numCells, nmAt]
  | x :: R, k + 1, h => by
    have := numCells_get R k (by simpa using h)
    have e : numCells (x :: R) = .bool x.neg :: .slice x.ao x.L.length x.cap :: numCells R := rfl
    rw [e, show (k + 1) * 2 = k * 2 + 1 + 1 by omega]
    simpa [nmAt] using this

theorem OwnNums.start (w : World) (base : Nat) (hb : base ≤ w.heap.size) : OwnNums base (w.alloc (.cells #[] 27)) (.slice (some ⟨w.heap.size, 0, none⟩) 0 0) [] :=
  ⟨World.ownsRow_made w #[] 0 hb (by simp [maxLen]) (by simp), by simp⟩
theorem OwnRows.start (w : World) (base : Nat) (hb : base ≤ w.heap.size) : OwnRows base (w.alloc (.cells #[] 87)) (.slice (some ⟨w.heap.size, 0, none⟩) 0 0) [] :=
  ⟨World.ownsRow_made w #[] 0 hb (by simp [maxLen]) (by simp), by simp⟩

theorem OwnNums.lt {base : Nat} {w : World} {v : Value} {R : List Nm} (h : OwnNums base w v R) : ∀ k, v.ownBlock = some k → base ≤ k ∧ k < w.heap.size := h.1.lt
theorem OwnRows.lt {base : Nat} {w : World} {v : Value} {M : List Rw} (h : OwnRows base w v M) : ∀ k, v.ownBlock = some k → base ≤ k ∧ k < w.heap.size := h.1.lt

/-- What grows leaves a row alone that lies elsewhere. -/
theorem ownsRow_grown {w w' : World} {base e size n : Nat} {v : Value} {xs : List Value} {g : Option Nat} (h : w.ownsRow base e size v n xs) (hg : w.grownBy w' g) (hne : ∀ k, v.ownBlock = some k → some k ≠ g) : w'.ownsRow base e size v n xs := by
  refine ⟨h.1, ?_⟩
  rcases h.2 with h | ⟨k, cap, cur, hv, hb, hh, hr⟩
  · exact .inl h
  · have hk : k < w.heap.size := (Array.getElem?_eq_some_iff.1 hh).1
    exact .inr ⟨k, cap, cur, hv, hb, (hg.block k hk (hne k (by rw [hv]; rfl))).trans hh, hr⟩
theorem OwnNums.below {base : Nat} {w w' : World} {v : Value} {R : List Nm} (h : OwnNums base w v R) (hb : Below w.heap.size w w') : OwnNums base w' v R :=
  ⟨ownsRow_grown h.1 ⟨hb.os, hb.tape, hb.output, hb.size, fun k hk _ => hb.block k hk⟩ (fun k _ => by simp : ∀ k, v.ownBlock = some k → some k ≠ none), fun x hx => ⟨((h.2 x hx).1).below hb, (h.2 x hx).2⟩⟩
theorem OwnRows.below {base : Nat} {w w' : World} {v : Value} {M : List Rw} (h : OwnRows base w v M) (hb : Below w.heap.size w w') : OwnRows base w' v M :=
  ⟨ownsRow_grown h.1 ⟨hb.os, hb.tape, hb.output, hb.size, fun k hk _ => hb.block k hk⟩ (fun k _ => by simp : ∀ k, v.ownBlock = some k → some k ≠ none), fun x hx => ⟨((h.2 x hx).1).below hb, (h.2 x hx).2⟩⟩
/-- .. and a row of rows, where another row grows that it does not use. -/
theorem OwnRows.grown {base : Nat} {w w' : World} {v : Value} {M : List Rw} {g : Option Nat} (h : OwnRows base w v M) (hg : w.grownBy w' g) (hne : ∀ k, v.ownBlock = some k → some k ≠ g) (hav : ∀ r ∈ M, AvR g r) : OwnRows base w' v M :=
  ⟨ownsRow_grown h.1 hg hne, fun r hr => ⟨((h.2 r hr).1).grownAv (hav r hr) hg, (h.2 r hr).2⟩⟩

/-- What is read there. -/
theorem OwnNums.nums {base : Nat} {w : World} {v : Value} {R : List Nm} (h : OwnNums base w v R) : ∃ ao cap, v = .slice ao R.length cap ∧ NumsAt w ao cap R ∧ NewAt base ao (R.map (fun _ => 0)) := by
  rcases h.1.2 with ⟨hv, h0⟩ | ⟨g, cap, cur, hv, hg, hh, hc, hm, hs, ht⟩
  · have : R = [] := List.length_eq_zero_iff.1 h0
    subst this
    exact ⟨none, 0, hv, ⟨by simp, by simp, .inl rfl⟩, .inl rfl⟩
  · refine ⟨some ⟨g, 0, none⟩, cap, hv, ⟨hc, fun x hx => (h.2 x hx).1, .inr ⟨g, 0, rfl, (Array.getElem?_eq_some_iff.1 hh).1, fun k hk => ?_⟩⟩, .inr ⟨g, 0, rfl, hg⟩⟩
    obtain ⟨q1, q2⟩ := numCells_get R k hk
    rw [← ht, List.getElem?_take] at q1 q2
    rw [if_pos (by omega)] at q1 q2
    rw [cell_of_row w g _ _ _ _ hh, cell_of_row w g _ _ _ _ hh, Nat.zero_add]
    simp only [Array.getElem?_toList] at q1 q2
    exact ⟨q1, q2⟩
theorem OwnRows.mat {base : Nat} {w : World} {v : Value} {M : List Rw} (h : OwnRows base w v M) : ∃ ao cap, v = .slice ao M.length cap ∧ MatAt w ao cap M ∧ NewAt base ao (M.map (fun _ => 0)) := by
  rcases h.1.2 with ⟨hv, h0⟩ | ⟨g, cap, cur, hv, hg, hh, hc, hm, hs, ht⟩
  · have : M = [] := List.length_eq_zero_iff.1 h0
    subst this
    exact ⟨none, 0, hv, ⟨by simp, by simp, .inl rfl⟩, .inl rfl⟩
  · refine ⟨some ⟨g, 0, none⟩, cap, hv, ⟨hc, fun x hx => (h.2 x hx).1, .inr ⟨g, 0, rfl, (Array.getElem?_eq_some_iff.1 hh).1, fun i hi => ?_⟩⟩, .inr ⟨g, 0, rfl, hg⟩⟩
    have q1 : (M.map Rw.v)[i]? = some (rwAt M i).v := by
      rw [List.getElem?_map]
      unfold rwAt
      rw [List.getElem?_eq_getElem hi]; rfl
    rw [← ht, List.getElem?_take, if_pos (by omega)] at q1
    rw [cell_of_row w g _ _ _ _ hh, Nat.zero_add]
    simpa using q1

end Go.Proofs.YtfnnbkclnflpfaaGreatDoor

/- Contracts of package exact's sets. -/
namespace Go.Proofs.YtfnnbkclnflpfaaGreatDoor
open Go.RowKit

/-- The places of a set of bits, rising. -/
def elems (s : Nat) : List Nat := (List.range 6).filter (fun c => s.testBit c)
def sz (s : Nat) : Nat := (elems s).length
def del (s c : Nat) : Nat := if s.testBit c then s - 2 ^ c else s
def ins (s c : Nat) : Nat := if s.testBit c then s else s + 2 ^ c
def abv (s c : Nat) : Nat := ((elems s).filter (fun d => decide (c < d))).length
def top (s : Nat) : Nat := (elems s).getLast?.getD 0

set_option maxHeartbeats 4000000 in
set_option maxRecDepth 100000 in
theorem onesCount64_any (s : Nat) (w : World) (h : s < 64) :
    Calls Tryz.prog 175 #[.int .u64 s] w fun e w' => e = .returned (.int .i64 (sz s)) ∧ w = w' := by
  go_enter Tryz.func175, Tryz.ntmps175
  go_wp2
  go_ret
  refine ⟨ret_int ?_, rfl⟩
  clear w
  revert h; revert s
  decide +kernel

set_option maxHeartbeats 4000000 in
theorem onesCount_any (s : Nat) (w : World) (h : s < 64) :
    Calls Tryz.prog 152 #[.int .u64 s] w fun e w' => e = .returned (.int .i64 (sz s)) ∧ w = w' := by
  go_enter Tryz.func152, Tryz.ntmps152
  go_wp2_with (go_at_call 175; refine (onesCount64_any s _ h).mono ?_; rintro e w' ⟨rfl, rfl⟩)
  go_ret
  exact ⟨rfl, rfl⟩

set_option maxHeartbeats 4000000 in
theorem size_any (s : Nat) (w : World) (h : s < 64) :
    Calls Tryz.prog 107 #[.int .u64 s] w fun e w' => e = .returned (.int .i64 (sz s)) ∧ w = w' := by
  go_enter Tryz.func107, Tryz.ntmps107
  go_wp2_with (go_at_call 152; refine (onesCount_any s _ h).mono ?_; rintro e w' ⟨rfl, rfl⟩)
  go_ret
  exact ⟨rfl, rfl⟩

set_option maxHeartbeats 4000000 in
theorem has_any (s c : Nat) (w : World) (h : s < 64) (hc : c < 6) :
    Calls Tryz.prog 150 #[.int .u64 s, .int .i64 c] w fun e w' => e = .returned (.bool (s.testBit c)) ∧ w = w' := by
  go_enter Tryz.func150, Tryz.ntmps150
  go_wp2
  go_ret
  refine ⟨ret_bool ?_, rfl⟩
  clear w
  revert hc; revert c; revert h; revert s
  decide +kernel

set_option maxHeartbeats 4000000 in
theorem with_any (s c : Nat) (w : World) (h : s < 64) (hc : c < 6) :
    Calls Tryz.prog 149 #[.int .u64 s, .int .i64 c] w fun e w' => e = .returned (.int .u64 (ins s c)) ∧ w = w' := by
  go_enter Tryz.func149, Tryz.ntmps149
  go_wp2
  go_ret
  refine ⟨ret_int ?_, rfl⟩
  clear w
  revert hc; revert c; revert h; revert s
  decide +kernel

set_option maxHeartbeats 4000000 in
theorem without_any (s c : Nat) (w : World) (h : s < 64) (hc : c < 6) :
    Calls Tryz.prog 173 #[.int .u64 s, .int .i64 c] w fun e w' => e = .returned (.int .u64 (del s c)) ∧ w = w' := by
  go_enter Tryz.func173, Tryz.ntmps173
  go_wp2
  go_ret
  refine ⟨ret_int ?_, rfl⟩
  clear w
  revert hc; revert c; revert h; revert s
  decide +kernel

theorem size_x (x : Int) (s : Nat) (w : World) (hx : x = (s : Int)) (h : s < 64) :
    Calls Tryz.prog 107 #[.int .u64 x] w fun e w' => e = .returned (.int .i64 (sz s)) ∧ w = w' := by
  subst hx; exact size_any s w h

theorem abv_eq : ∀ s, s < 64 → ∀ c, c < 6 → sz (s / 2 ^ (c + 1)) = abv s c ∧ s / 2 ^ (c + 1) < 64 := by decide +kernel

set_option maxHeartbeats 4000000 in
theorem above_any (s c : Nat) (w : World) (h : s < 64) (hc : c < 6) :
    Calls Tryz.prog 182 #[.int .u64 s, .int .i64 c] w fun e w' => e = .returned (.int .i64 (abv s c)) ∧ w = w' := by
  obtain ⟨a1, a2⟩ := abv_eq s h c hc
  rw [← a1]
  clear a1
  have C := hide (fun w => size_x ((s : Int) / 2 ^ (c + 1)) (s / 2 ^ (c + 1)) w (by rw [Int.natCast_ediv]; simp [Int.natCast_pow]) a2)
  clear a2
  generalize sz (s / 2 ^ (c + 1)) = n at *
  go_enter Tryz.func182, Tryz.ntmps182
  go_wp2_with fail
  refine (unhide C _).mono ?_
  rintro e w' ⟨rfl, rfl⟩
  go_wp2
  go_ret
  exact ⟨rfl, rfl⟩

theorem bitLen_top : ∀ s, s < 64 → 0 < s → Lib.bitLen s = top s + 1 ∧ top s < 6 := by decide +kernel

set_option maxHeartbeats 4000000 in
set_option maxRecDepth 100000 in
theorem len64_x (x : Int) (w : World) (h0 : 0 ≤ x) (h1 : x < 64) :
    Calls Tryz.prog 187 #[.int .u64 x] w fun e w' => e = .returned (.int .i64 (Lib.bitLen x.toNat)) ∧ w = w' := by
  have hi := fun w => Lib.run_index_len8tab (P := Tryz.prog) w 9 .u8 (x) Tryz.underlying9 (by omega) (by omega)
  have l1 := Lib.len8_eq ⟨(x).toNat, by omega⟩
  have l2 := Lib.bitLen_le8 ⟨(x).toNat, by omega⟩
  have hl0 : 0 ≤ Lib.len8 (x) := by simp only [Int.toNat_of_nonneg (show 0 ≤ x by omega)] at l1; rw [l1]; omega
  have hl8 : Lib.len8 (x) ≤ 8 := by simp only [Int.toNat_of_nonneg (show 0 ≤ x by omega)] at l1; rw [l1]; simp only at l2; omega
  have HE : Hid (Lib.len8 (x) = (Lib.bitLen (x).toNat : Int)) := by unfold Hid; simp only [Int.toNat_of_nonneg (show 0 ≤ x by omega)] at l1; exact l1
  clear l1 l2
  go_enter Tryz.func187, Tryz.ntmps187
  go_wp2
  go_ret
  refine ⟨ret_int ?_, rfl⟩
  rw [HE.out]
theorem len64_any (s : Nat) (w : World) (h : s < 64) :
    Calls Tryz.prog 187 #[.int .u64 s] w fun e w' => e = .returned (.int .i64 (Lib.bitLen s)) ∧ w = w' := by
  have := len64_x s w (by omega) (by omega)
  rwa [Int.toNat_natCast] at this

set_option maxHeartbeats 4000000 in
theorem slen_any (s : Nat) (w : World) (h : s < 64) :
    Calls Tryz.prog 181 #[.int .u64 s] w fun e w' => e = .returned (.int .i64 (Lib.bitLen s)) ∧ w = w' := by
  go_enter Tryz.func181, Tryz.ntmps181
  go_wp2_with (go_at_call 187; refine (len64_any s _ h).mono ?_; rintro e w' ⟨rfl, rfl⟩)
  go_ret
  exact ⟨rfl, rfl⟩

set_option maxHeartbeats 4000000 in
theorem last_any (s : Nat) (w : World) (h : s < 64) (h0 : 0 < s) :
    Calls Tryz.prog 170 #[.int .u64 s] w fun e w' => e = .returned (.int .i64 (top s)) ∧ w = w' := by
  obtain ⟨b1, b2⟩ := bitLen_top s h h0
  have C := hide (fun w => slen_any s w h)
  rw [b1] at C
  clear b1
  generalize top s = t at *
  go_enter Tryz.func170, Tryz.ntmps170
  go_wp2_with fail
  refine (unhide C _).mono ?_
  rintro e w' ⟨rfl, rfl⟩
  go_wp2
  go_ret
  refine ⟨ret_int ?_, rfl⟩
  simp

end Go.Proofs.YtfnnbkclnflpfaaGreatDoor

