/- Part 34 of the texts. -/
import Derived.Test.YtfnnbkclnflpfaaGreatDoorPartS33
import Derived.Maps.Own
import Derived.Maps.OwnOps
import Derived.Maps.OwnSet
import Derived.DeepKeys4
/- The ledger's map: whatever it holds is right. -/
namespace Go.Proofs.YtfnnbkclnflpfaaGreatDoor
open Go.RowKit
open Go.Maps

theorem laidOut : laidOutB Tryz.prog = true := by kernel_rfl
theorem rowPlaces : (129 : TypeId) < Tryz.prog.types.size := of_decide_eq_true (by kernel_rfl)
theorem deepPlaces : Tryz.prog.keyTypeAt (Tryz.prog.types.size + 1) 129 = true := by kernel_rfl
theorem widePlaces : (match Tryz.prog.underlying 129 with | some (.array _ _) | some (.struct _) => true | _ => false) = true := by rw [Tryz.underlying129]
set_option maxRecDepth 20000 in
theorem lawPlaces : Keyed Tryz.prog 129 := Keyed.of_law (deep_law_laid laidOut (m := 2) (by omega) rowPlaces (by kernel_rfl) widePlaces)
theorem cellsPlaces : Tryz.prog.cellsOf 129 = 2 := by kernel_rfl
theorem cellsSet : Tryz.prog.cellsOf 127 = 1 := by kernel_rfl

/-- Rows and columns, as a key. -/
def pkey (r c : Nat) : Value := .agg #[.int .u64 (r : Int), .int .u64 (c : Int)]

theorem pkey_inj {r c r' c' : Nat} (h : pkey r c = pkey r' c') : r = r' ∧ c = c' := by
  unfold pkey at h
  simp at h
  omega

set_option maxRecDepth 20000 in
theorem pkey_key (r c : Nat) (hr : r < 64) (hc : c < 64) : ∃ l, keyOf Tryz.prog 129 (pkey r c) = some l := by
  have w1 : (Lit.int .u64 (r : Int)).wf = true := WalkArith.wf_u64 (by omega)
  have w2 : (Lit.int .u64 (c : Int)).wf = true := WalkArith.wf_u64 (by omega)
  have hf : (pkey r c).formed Tryz.prog 129 = true := by simp [pkey, Value.formed, Tryz.underlying129, cellsPlaces]
  unfold keyOf
  rw [Tryz.underlying129]
  simp only
  rw [show Tryz.prog.keyType 129 = true from deepPlaces, hf]
  have hk : ∃ ls, Tryz.prog.keyLits (Tryz.prog.types.size + 1) 129 (pkey r c).cells.toList = some ls := by
    have hsz : ∃ m, Tryz.prog.types.size = m + 1 := ⟨Tryz.prog.types.size - 1, (Nat.sub_add_cancel (Nat.lt_of_le_of_lt (Nat.zero_le _) rowPlaces)).symm⟩
    obtain ⟨m, hm⟩ := hsz
    rw [hm]
    simp [Program.keyLits, Tryz.underlying129, Tryz.underlying127, pkey, Value.cells, cellsPlaces, cellsSet, w1, w2]
  obtain ⟨ls, hls⟩ := hk
  rw [hls]
  exact ⟨_, rfl⟩

/-- Block m is a map whose entries all are G's numbers. -/
def LedAt (w : World) (m : Nat) (G : Nat → Nat → Int) : Prop :=
  ∃ es clock, w.heap[m]? = some (.map es clock) ∧ ∀ e ∈ es.toList, ∃ r c, r < 64 ∧ c < 64 ∧ e.key = pkey r c ∧ IsNum 0 w e.val (G r c)

theorem LedAt.lt {w : World} {m : Nat} {G : Nat → Nat → Int} (h : LedAt w m G) : m < w.heap.size := by
  obtain ⟨es, clock, h1, _⟩ := h
  exact (Array.getElem?_eq_some_iff.1 h1).1
theorem LimbsAt.frm {w w' : World} {ao : Option Addr} {cap m : Nat} {L : List Nat} (h : LimbsAt w ao cap L) (hf : Fr w.heap.size (some m) w w') {es : Array MapEntry} {cl : Nat} (hm : w.heap[m]? = some (.map es cl)) : LimbsAt w' ao cap L := by
  refine ⟨h.1, h.2.1, ?_⟩
  rcases h.2.2 with h0 | ⟨c, off, h1, h2, h3⟩
  · exact .inl h0
  · by_cases hL : L = []
    · exact .inl hL
    have hc : c ≠ m := by
      rintro rfl
      have h4 := h3 0 (List.length_pos_iff.2 hL)
      simp [World.cell?, hm] at h4
    refine .inr ⟨c, off, h1, Nat.lt_of_lt_of_le h2 hf.size, fun i hi => ?_⟩
    rw [World.cell?_of_block (a := ⟨c, off + i, none⟩) (hf.block c h2 (fun e => hc (Option.some.inj e)))]
    exact h3 i hi
theorem IsNum.frm {B : Nat} {w w' : World} {v : Value} {x : Int} {m : Nat} (h : IsNum B w v x) (hf : Fr w.heap.size (some m) w w') {G : Nat → Nat → Int} (hm : LedAt w m G) : IsNum B w' v x := by
  obtain ⟨es, cl, hm, _⟩ := hm
  obtain ⟨neg, ao, cap, L, h1, h2, h3⟩ := h
  exact ⟨neg, ao, cap, L, h1, h2.frm hf hm, h3⟩
theorem LedAt.below {w w' : World} {m : Nat} {G : Nat → Nat → Int} (h : LedAt w m G) (hb : Below w.heap.size w w') : LedAt w' m G := by
  have hlt := h.lt
  obtain ⟨es, clock, h1, h2⟩ := h
  refine ⟨es, clock, (hb.block m hlt).trans h1, fun e he => ?_⟩
  obtain ⟨r, c, a1, a2, a3, a4⟩ := h2 e he
  exact ⟨r, c, a1, a2, a3, a4.below hb⟩
theorem LedAt.stb {w w' : World} {m Base : Nat} {G : Nat → Nat → Int} (h : LedAt w m G) (hb : Stb Base w w') : LedAt w' m G := by
  obtain ⟨es, clock, h1, h2⟩ := h
  refine ⟨es, clock, hb.keeps h1 (fun x a n c e => by cases e), fun e he => ?_⟩
  obtain ⟨r, c, a1, a2, a3, a4⟩ := h2 e he
  exact ⟨r, c, a1, a2, a3, a4.stb hb⟩
theorem LedAt.made (w : World) (G : Nat → Nat → Int) : LedAt (w.alloc (.map #[] 0)) w.heap.size G :=
  ⟨#[], 0, (MapKept.heap_alloc w _).1, by simp⟩

theorem LedAt.look {w : World} {m : Nat} {G : Nat → Nat → Int} (h : LedAt w m G) {r c : Nat} (hr : r < 64) (hc : c < 64) :
    (Instr.lookup 123 (.map (some m)) (pkey r c) true).run Tryz.prog w = .ok (.tuple #[.agg #[.bool false, .slice none 0 0], .bool false]) w ∨
    ∃ v, (Instr.lookup 123 (.map (some m)) (pkey r c) true).run Tryz.prog w = .ok (.tuple #[v, .bool true]) w ∧ IsNum 0 w v (G r c) := by
  obtain ⟨es, clock, h1, h2⟩ := h
  obtain ⟨l, hl⟩ := pkey_key r c hr hc
  have hks : ∀ e ∈ es.toList, ∃ l, keyOf Tryz.prog 129 e.key = some l := fun e he => by
    obtain ⟨r', c', a1, a2, a3, _⟩ := h2 e he
    rw [a3]; exact pkey_key r' c' a1 a2
  rcases lawPlaces.find w hl es.toList hks with ⟨f1, _⟩ | ⟨j, e0, f1, f2, f3⟩
  · left
    simp [Instr.lookup, run_underlying Tryz.underlying123, MapKept.run_getObj_map h1, lawPlaces.check w _ hl, f1, Result.andThen]
  · right
    refine ⟨e0.val, ?_, ?_⟩
    · simp [Instr.lookup, run_underlying Tryz.underlying123, MapKept.run_getObj_map h1, lawPlaces.check w _ hl, f1, Result.andThen]
    · obtain ⟨r', c', a1, a2, a3, a4⟩ := h2 e0 (List.mem_of_getElem? f2)
      rw [f3] at a3
      obtain ⟨rfl, rfl⟩ := pkey_inj a3
      exact a4

theorem LedAt.put {w : World} {m : Nat} {G : Nat → Nat → Int} (h : LedAt w m G) {r c : Nat} (hr : r < 64) (hc : c < 64) {v : Value} (hv : IsNum 0 w v (G r c)) :
    ∃ w', (Instr.mapUpdate 123 (.map (some m)) (pkey r c) v).run Tryz.prog w = .ok () w' ∧ LedAt w' m G ∧ Fr w.heap.size (some m) w w' := by
  have hL := h
  obtain ⟨es, clock, h1, h2⟩ := h
  obtain ⟨l, hl⟩ := pkey_key r c hr hc
  have hks : ∀ e ∈ es.toList, ∃ l, keyOf Tryz.prog 129 e.key = some l := fun e he => by
    obtain ⟨r', c', a1, a2, a3, _⟩ := h2 e he
    rw [a3]; exact pkey_key r' c' a1 a2
  have hfr : ∀ o, Fr w.heap.size (some m) w (ChangeMaps.setBlock w m o) := fun o =>
    ⟨rfl, rfl, rfl, by simp [ChangeMaps.setBlock], fun k _ hne => ChangeMaps.heap_setBlock_other h1 o (fun e => hne (by rw [e]))⟩
  rcases lawPlaces.find w hl es.toList hks with ⟨f1, _⟩ | ⟨j, e0, f1, f2, f3⟩
  · refine ⟨ChangeMaps.setBlock w m (.map (es.push ⟨pkey r c, v, clock⟩) (clock + 1)), ?_, ⟨_, _, ChangeMaps.heap_setBlock_same h1 _, ?_⟩, hfr _⟩
    · simp [Instr.mapUpdate, run_underlying Tryz.underlying123, MapKept.run_getObj_map h1, lawPlaces.check w false hl, f1, MapKept.run_setObj_map _ h1, Result.andThen, ChangeMaps.setBlock]
    · intro e he
      simp only [Array.toList_push, List.mem_append, List.mem_singleton] at he
      rcases he with he | rfl
      · obtain ⟨r', c', a1, a2, a3, a4⟩ := h2 e he
        exact ⟨r', c', a1, a2, a3, a4.frm (hfr _) hL⟩
      · exact ⟨r, c, hr, hc, rfl, hv.frm (hfr _) hL⟩
  · have hj : es[j]? = some e0 := by simpa using f2
    refine ⟨ChangeMaps.setBlock w m (.map (es.modify j (fun e' => { e' with key := pkey r c, val := v })) clock), ?_, ⟨_, _, ChangeMaps.heap_setBlock_same h1 _, ?_⟩, hfr _⟩
    · simp [Instr.mapUpdate, run_underlying Tryz.underlying123, MapKept.run_getObj_map h1, lawPlaces.check w false hl, f1, hj, f3, lawPlaces.stays w hl, MapKept.run_setObj_map _ h1, Result.andThen, ChangeMaps.setBlock]
    · intro e he
      rw [Array.toList_modify, ChangeMaps.modify_eq_set _ _ _ _ f2] at he
      obtain ⟨i, hi, ex⟩ := List.getElem_of_mem he
      rw [List.getElem_set] at ex
      split at ex
      · subst ex
        exact ⟨r, c, hr, hc, rfl, hv.frm (hfr _) hL⟩
      · have hi' : i < es.toList.length := by simpa using hi
        obtain ⟨r', c', a1, a2, a3, a4⟩ := h2 e (ex ▸ List.getElem_mem hi')
        exact ⟨r', c', a1, a2, a3, a4.frm (hfr _) hL⟩

end Go.Proofs.YtfnnbkclnflpfaaGreatDoor

/- Contract of the closure in ledger.minor. -/
namespace Go.Proofs.YtfnnbkclnflpfaaGreatDoor
open Go.RowKit
attribute [local go_sem ↓] Go.wp_at_zero Go.wp_at_succ

/-- Block b holds these cells. -/
def CellsAt (w : World) (b : Nat) (cs : Array Value) (t : TypeId) : Prop := w.heap[b]? = some (.cells cs t (0, 0))
theorem CellsAt.cell {w : World} {b : Nat} {cs : Array Value} {t : TypeId} (h : CellsAt w b cs t) (j : Nat) : w.cell? ⟨b, j, none⟩ = cs[j]? := cell_of_row w b j _ _ _ h
theorem CellsAt.free {w : World} {b : Nat} {cs : Array Value} {t : TypeId} (h : CellsAt w b cs t) (j : Nat) : w.frozen? ⟨b, j, none⟩ = false := frozen_of_row w b j _ _ h
theorem CellsAt.lt {w : World} {b : Nat} {cs : Array Value} {t : TypeId} (h : CellsAt w b cs t) : b < w.heap.size := (Array.getElem?_eq_some_iff.1 h).1
theorem CellsAt.below {w w' : World} {b : Nat} {cs : Array Value} {t : TypeId} (h : CellsAt w b cs t) (hb : Below w.heap.size w w') : CellsAt w' b cs t := (hb.block b h.lt).trans h
theorem CellsAt.fr {w w' : World} {b m : Nat} {cs : Array Value} {t : TypeId} (h : CellsAt w b cs t) (hf : Fr w.heap.size (some m) w w') (hne : b ≠ m) : CellsAt w' b cs t := (hf.block b h.lt (fun e => hne (Option.some.inj e))).trans h
theorem CellsAt.stb {w w' : World} {b Base : Nat} {cs : Array Value} {t : TypeId} (h : CellsAt w b cs t) (hs : Stb Base w w') (hn : ∀ x a n c, cs ≠ #[.bool x, .slice a n c]) : CellsAt w' b cs t :=
  hs.keeps h (fun x a n c e => by injection e with e1 _ _; exact hn x a n c e1)
theorem CellsAt.new (w : World) (cs : Array Value) (t : TypeId) : CellsAt (w.alloc (.cells cs t)) w.heap.size cs t := heap_alloc_new w _
theorem CellsAt.old {w : World} {b : Nat} {cs : Array Value} {t : TypeId} (h : CellsAt w b cs t) (o : Obj) : CellsAt (w.alloc o) b cs t := h.below ((Below.refl _ _).alloc (Nat.le_refl _) o)

set_option maxHeartbeats 4000000 in
theorem minor1_any (Base : Nat) (I : World → Prop) (ao : Option Addr) (n cap m : Nat) (lb pb sb r c t others : Nat) (x : Int)
    (hI : ∀ w, I w → CellsAt w lb #[.slice ao n cap, .map (some m)] 125 ∧ CellsAt w pb #[.int .u64 (r : Int), .int .u64 (c : Int)] 129 ∧ CellsAt w sb #[.int .i64 (t : Int)] 3 ∧ m < w.heap.size)
    (hst : ∀ w w', I w → Stb Base w w' → I w')
    (hr : r < 64) (ht : t < 6)
    (hcall : ∀ w, I w → Calls Tryz.prog 151 #[.agg #[.slice ao n cap, .map (some m)], .agg #[.int .u64 (del r t : Int), .int .u64 (others : Int)]] w fun e w' => ∃ v, e = .returned v ∧ IsNum 0 w' v x ∧ I w' ∧ Fr w.heap.size (some m) w w')
    (w : World) (hIw : I w) (hBase : Base ≤ w.heap.size) :
    Calls Tryz.prog 172 #[.int .u64 (others : Int), .pointer (some ⟨lb, 0, none⟩), .pointer (some ⟨pb, 0, none⟩), .pointer (some ⟨sb, 0, none⟩)] w fun e w' => ∃ v, e = .returned v ∧ IsNum 0 w' v x ∧ I w' ∧ Fr w.heap.size (some m) w w' := by
  have CW := hide (fun w => without_any r t w hr ht)
  have HI := hide hI; have HST := hide hst; have HC := hide hcall
  have I1 := hst _ (w.alloc (.cells #[.bool false, .slice none 0 0] 27)) hIw (.of ((Below.refl _ _).alloc (Nat.le_refl _) _))
  have hm := (hI w hIw).2.2.2
  have X0 := hide (Box2.new w (.bool false) (.slice none 0 0))
  have II := hide I1
  generalize del r t = dr at *
  clear hI hst hcall I1 hIw
  go_enter Tryz.func172, Tryz.ntmps172
  go_wp2_with fail
  refine at_world (fun W => W = w.alloc (.cells #[.bool false, .slice none 0 0] 27)) rfl ?_
  rintro W0 e0
  have s0 : W0.heap.size = w.heap.size + 1 := by rw [e0]; simp
  have b0 : Fr w.heap.size (some m) w W0 := by rw [e0]; exact (Fr.refl _ _ _).alloc (Nat.le_refl _) _
  rw [← e0] at X0 II
  clear e0
  have hK : ∀ w', Fr w.heap.size (some m) W0 w' → I w' → Fr w.heap.size (some m) W0 w' ∧ I w' ∧ w'.cell? ⟨lb, 0, none⟩ = some (.slice ao n cap) ∧ w'.cell? ⟨lb, 1, none⟩ = some (.map (some m)) ∧ w'.cell? ⟨pb, 0, none⟩ = some (.int .u64 (r : Int)) ∧ w'.cell? ⟨sb, 0, none⟩ = some (.int .i64 (t : Int)) := fun w' h1 h2 => by
    obtain ⟨q1, q2, q3, _⟩ := unhide HI w' h2
    exact ⟨h1, h2, q1.cell 0, q1.cell 1, q2.cell 0, q3.cell 0⟩
  have HK := hide hK
  have hI0 := unhide II
  have hId := hide (unhide HST _ W0.drew (unhide II) Stb.drewed)
  clear hK
  go_region_held3 (fun w' => Fr w.heap.size (some m) W0 w' ∧ I w' ∧ w'.cell? ⟨lb, 0, none⟩ = some (.slice ao n cap) ∧ w'.cell? ⟨lb, 1, none⟩ = some (.map (some m)) ∧ w'.cell? ⟨pb, 0, none⟩ = some (.int .u64 (r : Int)) ∧ w'.cell? ⟨sb, 0, none⟩ = some (.int .i64 (t : Int)))
    (first | assumption | exact unhide HK _ (Fr.refl _ _ _).drew (unhide hId) | exact unhide HK _ (by assumption) (by assumption) | exact unhide HKS _ _ | fail "KK")
    (first | (go_at_call 173; refine (unhide CW _).mono ?_; rintro e wx ⟨rfl, rfl⟩) | (go_at_call 151; refine (unhide HC _ (And.left (And.right (by assumption)))).mono ?_; rintro e wn ⟨v, rfl, ⟨n1, a1, c1, L1, rfl, i1⟩, hIn, hfn⟩; have hFn : Fr w.heap.size (some m) W0 wn := Fr.then (And.left (by assumption)) (by omega) hfn; have xb : Box2 wn w.heap.size (.bool false) (.slice none 0 0) := hfn.box (unhide X0).drew (by show w.heap.size < W0.heap.size; omega) (fun m' e => by cases e; omega); have y0 := xb.c0; have y1 := xb.c1; have f0 := xb.free 0; have f1 := xb.free 1; have IV := hide i1; have HKS := hide (fun u u' => unhide HK _ (hFn.put2 (g := w.heap.size) (by omega) u u') (unhide HST _ _ hIn (.put2 xb (by omega) u u'))); clear hfn i1) | fail "NO ARM")
  have N := hide ((show IsNum 0 wn (.agg #[.bool n1, .slice a1 L1.length c1]) x from ⟨n1, a1, c1, L1, rfl, unhide IV⟩).stb (Stb.put2 (Base := 0) xb (Nat.zero_le _) (.bool n1) (.slice a1 L1.length c1)))
  have S := unhide HKS (.bool n1) (.slice a1 L1.length c1)
  have SI := hide S.2.1
  have SF := hide (b0.trans S.1)
  clear S HKS xb IV hFn hIn
  go_wp2
  refine bodyPost_ret (v := .agg #[.bool n1, .slice a1 L1.length c1]) (by simp [results, Tryz.results172, go_sem, y0, y1]) rfl ⟨_, rfl, unhide N, unhide SI, unhide SF⟩

end Go.Proofs.YtfnnbkclnflpfaaGreatDoor

/- Contract of ledger.minor. -/
namespace Go.Proofs.YtfnnbkclnflpfaaGreatDoor
open Go.RowKit
attribute [local go_sem ↓] Go.wp_at_zero Go.wp_at_succ

/-- The minor of a set of rows and a set of columns. -/
def GM (M : List Rw) (r c : Nat) : Int := detD ((elems r).map (valM M)) (elems c)
/-- What lay there at first lies there; what the map holds is right. -/
def LInv (w0 : World) (m : Nat) (M : List Rw) (w : World) : Prop := Below w0.heap.size w0 w ∧ LedAt w m (GM M)

theorem LInv.below {w0 w w' : World} {m : Nat} {M : List Rw} (h : LInv w0 m M w) (hb : Below w.heap.size w w') : LInv w0 m M w' := ⟨h.1.trans (hb.mono h.1.size), h.2.below hb⟩
theorem LInv.stb {w0 w w' : World} {m : Nat} {M : List Rw} (h : LInv w0 m M w) (hb : Stb w0.heap.size w w') : LInv w0 m M w' := ⟨h.1.trans (hb.below h.1.size), h.2.stb hb⟩

theorem sz_zero : ∀ r, r < 64 → (sz r = 0 ↔ r = 0) := by decide +kernel
theorem top_step : ∀ r, r < 64 → 0 < r → top r < 6 ∧ r.testBit (top r) = true ∧ elems r = elems (del r (top r)) ++ [top r] := by decide +kernel

/-- What holds while a minor is reckoned. -/
def MInv (w0 : World) (m : Nat) (M : List Rw) (ao : Option Addr) (cap lb r c t : Nat) (w : World) : Prop :=
  LInv w0 m M w ∧ CellsAt w lb #[.slice ao M.length cap, .map (some m)] 125 ∧ CellsAt w (lb + 1) #[.int .u64 (r : Int), .int .u64 (c : Int)] 129 ∧ CellsAt w (lb + 1 + 1 + 1 + 1) #[.int .i64 (t : Int)] 3

theorem MInv.stb {w0 w w' : World} {m : Nat} {M : List Rw} {ao : Option Addr} {cap lb r c t : Nat} (h : MInv w0 m M ao cap lb r c t w) (hs : Stb w0.heap.size w w') : MInv w0 m M ao cap lb r c t w' :=
  ⟨h.1.stb hs, h.2.1.stb hs (by intro x a n c e; simp at e), h.2.2.1.stb hs (by intro x a n c e; simp at e), h.2.2.2.stb hs (by intro x a n c e; simp at e)⟩

def PostM (w : World) (w0 : World) (m : Nat) (M : List Rw) (x : Int) (e : Ending) (w' : World) : Prop := ∃ v, e = .returned v ∧ IsNum 0 w' v x ∧ LInv w0 m M w' ∧ Fr w.heap.size (some m) w w'

/-- What stands behind the minor that is reckoned. -/
def TailM (w0 : World) (m : Nat) (M : List Rw) (ao : Option Addr) (cap lb r c t : Nat) (w : World) (np : Bool) (ap : Option Addr) (Lp : List Nat) (cp : Nat) (y : Int) (g : Nat) (W : World) : Prop :=
  Box2 W g (.bool np) (.slice ap Lp.length cp) ∧ IsNum 0 W (.agg #[.bool np, .slice ap Lp.length cp]) y ∧ MInv w0 m M ao cap lb r c t W ∧ Fr w.heap.size (some m) w W ∧ Box2 W (lb + 1 + 1) (.bool false) (.slice none 0 0) ∧ lb + 1 + 1 < g

set_option maxHeartbeats 8000000 in
theorem minor_any (ao : Option Addr) (cap : Nat) (M : List Rw) (n : Nat) (w0 : World) (m : Nat) (hM : MatAt w0 ao cap M) (hg : GoodM M n) (hm : w0.heap.size ≤ m) : ∀ (k r c : Nat) (w : World), sz r = k → sz c = k → r < 2 ^ M.length → c < 2 ^ n → LInv w0 m M w →
    Calls Tryz.prog 151 #[.agg #[.slice ao M.length cap, .map (some m)], .agg #[.int .u64 (r : Int), .int .u64 (c : Int)]] w (PostM w w0 m M (GM M r c)) := by
  intro k
  induction k with
  | zero =>
    intro r c w hr hc hrM hcn hI
    have r64 : r < 64 := Nat.lt_of_lt_of_le hrM (set_full M.length hg.1).2
    have hr0 : r = 0 := (sz_zero r r64).1 hr
    subst hr0
    have hG : GM M 0 c = 1 := by unfold GM; rw [elems_zero]; rfl
    rw [hG]
    have x2 := Box2.new ((w.alloc (.cells #[.slice ao M.length cap, .map (some m)] 125)).alloc (.cells #[.int .u64 0, .int .u64 (c : Int)] 129)) (.bool false) (.slice none 0 0)
    have b2 : Below w.heap.size w (((w.alloc (.cells #[.slice ao M.length cap, .map (some m)] 125)).alloc (.cells #[.int .u64 0, .int .u64 (c : Int)] 129)).alloc (.cells #[.bool false, .slice none 0 0] 27)) :=
      (((Below.refl _ _).alloc (Nat.le_refl _) _).alloc (by simp) _).alloc (by simp; omega) _
    simp only [World.size_alloc] at x2
    have X2 := hide x2; have B2 := hide b2; have HI := hide hI
    clear x2 b2 hI hM hg hr hc hrM hcn hG
    go_enter Tryz.func151, Tryz.ntmps151
    go_wp2_with fail
    refine (of_any 1 _ (by decide) (by decide)).mono ?_
    rintro e w1 ⟨v, rfl, ⟨n1, a1, c1, L1, rfl, i1⟩, hb1⟩
    have x3 := (unhide X2).below hb1 (by simp)
    have e0 := x3.c0; have e1 := x3.c1; have f0 := x3.free 0; have f1 := x3.free 1
    have b3 := (unhide B2).trans (hb1.mono (unhide B2).size)
    have N := hide ((show IsNum _ w1 (.agg #[.bool n1, .slice a1 L1.length c1]) 1 from ⟨n1, a1, c1, L1, rfl, i1⟩).mono (Nat.zero_le _) |>.stb (Stb.put2 (Base := 0) x3 (Nat.zero_le _) (.bool n1) (.slice a1 L1.length c1)))
    have I3 := hide (((unhide HI).below b3).stb (.put2 x3 (by have := (unhide HI).1.size; omega) (.bool n1) (.slice a1 L1.length c1)))
    have F3 := hide ((Fr.of b3 (some m)).put2 (g := w.heap.size + 1 + 1) (by omega) (.bool n1) (.slice a1 L1.length c1))
    clear x3 b3 i1 hb1 X2 B2 HI
    go_wp2
    refine bodyPost_ret (v := .agg #[.bool n1, .slice a1 L1.length c1]) (by simp [results, Tryz.results151, go_sem, e0, e1]) rfl ⟨_, rfl, unhide N, unhide I3, unhide F3⟩
  | succ k ih =>
    intro r c w hr hc hrM hcn hI
    have r64 : r < 64 := Nat.lt_of_lt_of_le hrM (set_full M.length hg.1).2
    have c64 : c < 64 := Nat.lt_of_lt_of_le hcn (set_full n hg.2.1).2
    have hr0 : 0 < r := by
      rcases Nat.eq_zero_or_pos r with h | h
      · subst h; rw [show sz 0 = 0 by decide +kernel] at hr; omega
      · exact h
    have hrne : ((r : Int) == 0) = false := by simp; omega
    have b2 : Below w.heap.size w (((w.alloc (.cells #[.slice ao M.length cap, .map (some m)] 125)).alloc (.cells #[.int .u64 (r : Int), .int .u64 (c : Int)] 129)).alloc (.cells #[.bool false, .slice none 0 0] 27)) :=
      (((Below.refl _ _).alloc (Nat.le_refl _) _).alloc (by simp) _).alloc (by simp; omega) _
    have x2 := Box2.new ((w.alloc (.cells #[.slice ao M.length cap, .map (some m)] 125)).alloc (.cells #[.int .u64 (r : Int), .int .u64 (c : Int)] 129)) (.bool false) (.slice none 0 0)
    have l2 := ((CellsAt.new w #[.slice ao M.length cap, .map (some m)] 125).old (.cells #[.int .u64 (r : Int), .int .u64 (c : Int)] 129)).old (.cells #[.bool false, .slice none 0 0] 27)
    have p2 := (CellsAt.new (w.alloc (.cells #[.slice ao M.length cap, .map (some m)] 125)) #[.int .u64 (r : Int), .int .u64 (c : Int)] 129).old (.cells #[.bool false, .slice none 0 0] 27)
    simp only [World.size_alloc] at x2 p2
    have hmw : m < w.heap.size := hI.2.lt
    have hw0 : w0.heap.size ≤ w.heap.size := hI.1.size
    have hI2 := hI.below b2
    obtain ⟨t, ht⟩ : ∃ t, top r = t := ⟨_, rfl⟩
    obtain ⟨t6, tb, te⟩ := top_step r r64 hr0
    rw [ht] at t6 tb te
    have CL := hide (fun w => last_any r w r64 hr0)
    rw [ht] at CL
    obtain ⟨y, hy⟩ : ∃ y, GM M r c = y := ⟨_, rfl⟩
    rw [hy]
    rcases hI2.2.look r64 c64 with hmiss | ⟨v, hhit, hv⟩
    · unfold pkey at hmiss
      have hde := set_step r r64 t t6 tb
      have hdl := del_lt r r64 t t6 tb
      have htM : t < M.length := (set_width M.length hg.1 r hrM).2.2.2 t (by rw [te]; simp)
      obtain ⟨b, off, hao, hbb, hc'⟩ := hM.ne (by omega)
      have hct := hc' t htM
      have hrl := hg.2.2.1 t htM
      obtain ⟨ar, har⟩ : ∃ x, (rwAt M t).ao = x := ⟨_, rfl⟩
      obtain ⟨cr, hcr⟩ : ∃ x, (rwAt M t).cap = x := ⟨_, rfl⟩
      obtain ⟨R, hR⟩ : ∃ x, (rwAt M t).R = x := ⟨_, rfl⟩
      rw [har, hcr, hR] at hct
      rw [hR] at hrl
      have hk5 : k ≤ 5 := by have := (set_ends r r64).2.2.1; omega
      have hdsz : sz (del r t) = k := by omega
      have hex : exS (valM M t) c (fun s => detD ((elems (del r t)).map (valM M)) (elems s)) R.length = y := by
        rw [hrl, exS_det _ _ _ n hg.2.1 hcn (by rw [List.length_map]; unfold sz at hdsz; omega), ← hy]
        unfold GM
        rw [te, List.map_append]; rfl
      subst hao
      have CE := hide (fun (w' : World) (hw' : MInv w0 m M (some ⟨b, off, none⟩) cap w.heap.size r c t w') (hmw' : m < w'.heap.size) => by
        have := expandL_any #[.pointer (some ⟨w.heap.size, 0, none⟩), .pointer (some ⟨w.heap.size + 1, 0, none⟩), .pointer (some ⟨w.heap.size + 1 + 1 + 1 + 1, 0, none⟩)] w0.heap.size (some m) (MInv w0 m M (some ⟨b, off, none⟩) cap w.heap.size r c t) (valM M t) (fun s => detD ((elems (del r t)).map (valM M)) (elems s)) c B80 (NB k) ar cr R
          (fun x y h s => h.stb s)
          (fun x h => by
            have := (hM.below h.1.1).nums htM
            rwa [har, hcr, hR] at this)
          (fun j hj => by
            have := (hg.2.2.2 t j htM (by omega)).1
            unfold valM
            unfold entry at this ⊢
            rw [hR] at this ⊢
            exact ⟨this, rfl⟩)
          (fun j hj => (hg.2.2.2 t j htM (by omega)).2)
          (fun j hj hb => by
            have hst := set_step c c64 j (by have := hg.2.1; omega) hb
            have hlen : (elems (del c j)).length = k := by have := hst.2.2.2.2.2; unfold sz at this hc; omega
            have hsub : ∀ d ∈ elems (del c j), d < n := by
              have hd := del_lt c c64 j (by have := hg.2.1; omega) hb
              exact (set_width n hg.2.1 (del c j) (by omega)).2.2.2
            have hrow : ∀ i ∈ elems (del r t), i < M.length := (set_width M.length hg.1 (del r t) (by omega)).2.2.2
            have := detD_bound B80 ((elems (del r t)).map (valM M)) (elems (del c j)) (by rw [List.length_map, hlen]; exact hdsz) (by
              intro f hf d hd
              obtain ⟨i, hi, rfl⟩ := List.mem_map.1 hf
              exact (hg.2.2.2 i d (hrow i hi) (hsub d hd)).2)
            rw [List.length_map, show (elems (del r t)).length = k from hdsz] at this
            exact this)
          (NB_small k hk5).1 (NB_small k hk5).2.1 (NB_small k hk5).2.2.1 (by have := hg.2.1; omega) c64
          (fun x j h hj hb => by
            have hst := set_step c c64 j (by have := hg.2.1; omega) hb
            have hd := del_lt c c64 j (by have := hg.2.1; omega) hb
            have hcl := h.2.1.lt
            exact minor1_any w0.heap.size (MInv w0 m M (some ⟨b, off, none⟩) cap w.heap.size r c t) (some ⟨b, off, none⟩) M.length cap m w.heap.size (w.heap.size + 1) (w.heap.size + 1 + 1 + 1 + 1) r c t (del c j) _
              (fun z hz => ⟨hz.2.1, hz.2.2.1, hz.2.2.2, hz.1.2.lt⟩) (fun z z' hz s => hz.stb s) r64 t6
              (fun z hz => by
                refine (ih (del r t) (del c j) z hdsz (by omega) (by omega) (by omega) hz.1).mono ?_
                rintro e w' ⟨v, h1, h2, h3, h4⟩
                exact ⟨v, h1, h2, ⟨h3, hz.2.1.fr h4 (by omega), hz.2.2.1.fr h4 (by omega), hz.2.2.2.fr h4 (by omega)⟩, h4⟩)
              x h (by omega))
          w' hw' hw'.1.1.size (fun m' e => by cases e; exact hmw')
        rw [hex] at this
        exact this)
      have hx4 := x2.old (.cells #[.bool false, .slice none 0 0] 27)
      have hx5 := hx4.old (.cells #[.int .i64 (t : Int)] 3)
      have hM5 : MInv w0 m M (some ⟨b, off, none⟩) cap w.heap.size r c t (((((w.alloc (.cells #[.slice (some ⟨b, off, none⟩) M.length cap, .map (some m)] 125)).alloc (.cells #[.int .u64 (r : Int), .int .u64 (c : Int)] 129)).alloc (.cells #[.bool false, .slice none 0 0] 27)).alloc (.cells #[.bool false, .slice none 0 0] 27)).alloc (.cells #[.int .i64 (t : Int)] 3)) := by
        refine ⟨(hI2.below ((Below.refl _ _).alloc (Nat.le_refl _) _)).below ((Below.refl _ _).alloc (Nat.le_refl _) _), (l2.old _).old _, (p2.old _).old _, ?_⟩
        have := CellsAt.new ((((w.alloc (.cells #[.slice (some ⟨b, off, none⟩) M.length cap, .map (some m)] 125)).alloc (.cells #[.int .u64 (r : Int), .int .u64 (c : Int)] 129)).alloc (.cells #[.bool false, .slice none 0 0] 27)).alloc (.cells #[.bool false, .slice none 0 0] 27)) #[.int .i64 (t : Int)] 3
        simpa using this
      have hF5 : Fr w.heap.size (some m) w (((((w.alloc (.cells #[.slice (some ⟨b, off, none⟩) M.length cap, .map (some m)] 125)).alloc (.cells #[.int .u64 (r : Int), .int .u64 (c : Int)] 129)).alloc (.cells #[.bool false, .slice none 0 0] 27)).alloc (.cells #[.bool false, .slice none 0 0] 27)).alloc (.cells #[.int .i64 (t : Int)] 3)) := .of ((b2.alloc (by simp; omega) _).alloc (by simp; omega) _) _
      have X5 := hide hx5; have M5 := hide hM5; have F5 := hide hF5
      have htI : (t : Int) < (M.length : Int) := by omega
      have hbb' : b < w0.heap.size := hbb
      have HR := hide (fun w' (hb : Below w0.heap.size w0 w') => show w'.cell? ⟨b, off + t, none⟩ = some (.slice ar R.length cr) by rw [hb.cell (p := ⟨b, off + t, none⟩) hbb]; exact hct)
      have HY := hide hy
      clear hx4 hx5 hM5 hF5 ih hM hg hc' hct hrl hde hex hy te tb hI hI2 x2 l2 p2 b2 hdl
      go_enter Tryz.func151, Tryz.ntmps151
      go_wp2_with (go_at_call 170; refine (unhide CL _).mono ?_; rintro e w' ⟨rfl, rfl⟩)
      refine at_world (fun W => W = (((((w.alloc (.cells #[.slice (some ⟨b, off, none⟩) M.length cap, .map (some m)] 125)).alloc (.cells #[.int .u64 (r : Int), .int .u64 (c : Int)] 129)).alloc (.cells #[.bool false, .slice none 0 0] 27)).alloc (.cells #[.bool false, .slice none 0 0] 27)).alloc (.cells #[.int .i64 (t : Int)] 3))) rfl ?_
      rintro W0 e0
      have s0 : W0.heap.size = w.heap.size + 1 + 1 + 1 + 1 + 1 := by rw [e0]; simp
      rw [← e0] at X5 M5 F5
      clear e0 hmiss CL
      have hK : ∀ w', Fr W0.heap.size (some m) W0 w' → MInv w0 m M (some ⟨b, off, none⟩) cap w.heap.size r c t w' → Fr W0.heap.size (some m) W0 w' ∧ MInv w0 m M (some ⟨b, off, none⟩) cap w.heap.size r c t w' ∧ w'.cell? ⟨w.heap.size, 0, none⟩ = some (.slice (some ⟨b, off, none⟩) M.length cap) ∧ w'.cell? ⟨w.heap.size + 1, 1, none⟩ = some (.int .u64 (c : Int)) ∧ w'.cell? ⟨w.heap.size + 1 + 1 + 1 + 1, 0, none⟩ = some (.int .i64 (t : Int)) ∧ w'.cell? ⟨b, off + t, none⟩ = some (.slice ar R.length cr) := fun w' h1 h2 =>
        ⟨h1, h2, h2.2.1.cell 0, h2.2.2.1.cell 1, h2.2.2.2.cell 0, unhide HR w' h2.1.1⟩
      have HK := hide hK
      have hI0 := unhide M5
      have hId := hide ((unhide M5).stb (w' := W0.drew) Stb.drewed)
      have HKA := hide (fun wn o (h1 : Fr W0.heap.size (some m) W0 wn) (h2 : MInv w0 m M (some ⟨b, off, none⟩) cap w.heap.size r c t wn) => unhide HK (wn.alloc o) (h1.alloc h1.size o) (h2.stb (.of ((Below.refl _ _).alloc (Nat.le_refl _) o))))
      have HKS := hide (fun wn g x a n c' u u' (h1 : Fr W0.heap.size (some m) W0 wn) (h2 : MInv w0 m M (some ⟨b, off, none⟩) cap w.heap.size r c t wn) (h3 : Box2 wn g (.bool x) (.slice a n c')) (h4 : W0.heap.size ≤ g) => unhide HK _ (h1.put2 h4 u u') (h2.stb (.put2 h3 (by omega) u u')))
      have BXA := hide (fun wn (h1 : Fr (W0.drew.alloc (.cells #[.bool false, .slice none 0 0] 27)).heap.size (some m) (W0.drew.alloc (.cells #[.bool false, .slice none 0 0] 27)) wn) => h1.box (Box2.new W0.drew (.bool false) (.slice none 0 0)) (by simp) (fun m' e => by cases e; show m < W0.heap.size; omega))
      have HT := hide (fun (W : World) (g : Nat) {np : Bool} {ap : Option Addr} {Lp : List Nat} {cp : Nat} (h1 : Fr W0.heap.size (some m) W0 W) (h2 : MInv w0 m M (some ⟨b, off, none⟩) cap w.heap.size r c t W) (h3 : Box2 W g (.bool np) (.slice ap Lp.length cp)) (h4 : IsNum 0 W (.agg #[.bool np, .slice ap Lp.length cp]) y) (h5 : W0.heap.size ≤ g) =>
        (show TailM w0 m M (some ⟨b, off, none⟩) cap w.heap.size r c t w np ap Lp cp y g W from
          ⟨h3, h4, h2, (unhide F5).then (Nat.le_refl _) h1, h1.box (unhide X5) (by omega) (fun m' e => by cases e; omega), by omega⟩))
      have S0 := hide s0
      clear hK s0
      go_region_held3 (fun w' => Fr W0.heap.size (some m) W0 w' ∧ MInv w0 m M (some ⟨b, off, none⟩) cap w.heap.size r c t w' ∧ w'.cell? ⟨w.heap.size, 0, none⟩ = some (.slice (some ⟨b, off, none⟩) M.length cap) ∧ w'.cell? ⟨w.heap.size + 1, 1, none⟩ = some (.int .u64 (c : Int)) ∧ w'.cell? ⟨w.heap.size + 1 + 1 + 1 + 1, 0, none⟩ = some (.int .i64 (t : Int)) ∧ w'.cell? ⟨b, off + t, none⟩ = some (.slice ar R.length cr))
        (first | assumption | exact unhide HK _ (Fr.refl _ _ _).drew (unhide hId) | exact unhide HK _ (by assumption) (by assumption) | exact unhide HKA _ _ (by assumption) (by assumption) | exact unhide HKA _ _ (And.left (by assumption)) (And.left (And.right (by assumption))) | exact unhide HKS _ _ _ _ _ _ _ _ hFm hIm xb (by first | omega | exact Fr.size (by assumption)) | fail "KK")
        (first | (go_at_call 171; refine (unhide CE _ (And.left (And.right (by assumption))) (by first | exact (by assumption : MInv _ _ _ _ _ _ _ _ _ _).1.2.lt | exact LedAt.lt (And.right (And.left (And.left (And.right (by assumption))))))).mono ?_; rintro e wm ⟨pv, rfl, ⟨np, ap, cp, Lp, rfl, ip⟩, hIm, hfm⟩; have hFm : Fr W0.heap.size (some m) W0 wm := Fr.then (And.left (by assumption)) (Nat.le_refl _) hfm; have IP := hide (show IsNum 0 wm (.agg #[.bool np, .slice ap Lp.length cp]) y from ⟨np, ap, cp, Lp, rfl, ip⟩); (first | (have xb : Box2 wm W0.heap.size (.bool false) (.slice none 0 0) := unhide BXA _ hfm) | (have xb : True := trivial)); (first | (have y0 := xb.c0; have y1 := xb.c1; have f0 := xb.free 0; have f1 := xb.free 1) | skip); clear hfm ip) | fail "NO ARM")
      all_goals
        first
          | refine at_then (TailM _ _ _ _ _ _ _ _ _ _ _ _ _ _ _ W0.heap.size) (unhide HT _ _ (And.left (by assumption)) (And.left (And.right (by assumption))) (xb.put _ _) ((unhide IP).stb (Stb.put2 (Base := 0) xb (Nat.zero_le _) _ _)) (Nat.le_refl _)) ?_
          | refine at_then (TailM _ _ _ _ _ _ _ _ _ _ _ _ _ _ _ wm.heap.size) (unhide HT _ _ (And.left (by assumption)) (And.left (And.right (by assumption))) (Box2.new _ _ _) ((unhide IP).below ((Below.refl _ _).alloc (Nat.le_refl _) _)) hFm.size) ?_
          | fail "NO WAY"
      all_goals
        rintro W ⟨xg, iq, hMI, hFW, x2, hgl⟩
        have iq' := iq
        rw [← unhide HY] at iq'
        obtain ⟨W', hrun, hL', hF'⟩ := hMI.1.2.put r64 c64 iq'
        unfold pkey at hrun
        have c0 := xg.c0; have c1 := xg.c1; have l1 := hMI.2.1.cell 1; have p0 := hMI.2.2.1.cell 0; have p1 := hMI.2.2.1.cell 1
        simp only [List.getElem?_toArray, List.getElem?_cons_zero, List.getElem?_cons_succ] at l1 p0 p1
        have xg' := hF'.box xg xg.lt (fun m' e => by cases e; omega)
        have x2' := hF'.box x2 x2.lt (fun m' e => by cases e; omega)
        have d0 := xg'.c0; have d1 := xg'.c1; have e0 := x2'.c0; have e1 := x2'.c1; have g0 := x2'.free 0; have g1 := x2'.free 1
        have hWW : LInv w0 m M W' := ⟨hMI.1.1.trans (hF'.below (Nat.le_trans (by omega) (Nat.le_of_lt x2.lt)) (fun m' e => by cases e; exact hm)), hL'⟩
        have N4 := hide ((iq.frm hF' hMI.1.2).stb (Stb.put2 (Base := 0) x2' (Nat.zero_le _) (.bool np) (.slice ap Lp.length cp)))
        have I4 := hide (hWW.stb (.put2 x2' (by omega) (.bool np) (.slice ap Lp.length cp)))
        have F4 := hide ((hFW.then (Nat.le_refl _) hF').put2 (g := w.heap.size + 1 + 1) (by omega) (.bool np) (.slice ap Lp.length cp))
        try clear y0 y1 f0 f1
        clear xg iq iq' hMI hFW x2 hgl hL' hF' xg' x2' hWW xb hFm hIm IP HT BXA HKS HKA HK hI0 hId X5 M5 F5 S0 CE HR HY
        go_wp2_with fail
        refine bodyPost_ret (v := .agg #[.bool np, .slice ap Lp.length cp]) (by simp [results, Tryz.results151, go_sem, e0, e1]) rfl ⟨_, rfl, unhide N4, unhide I4, unhide F4⟩
    · rw [hy] at hv
      obtain ⟨n1, a1, c1, L1, rfl, i1⟩ := hv
      unfold pkey at hhit
      have hv : IsNum 0 _ (.agg #[.bool n1, .slice a1 L1.length c1]) y := ⟨n1, a1, c1, L1, rfl, i1⟩
      have q2 := hv.below ((Below.refl _ _).alloc (Nat.le_refl _) (.cells #[.bool n1, .slice a1 L1.length c1] 27)) |>.stb (Stb.put2 (Base := 0) (x2.old (.cells #[.bool n1, .slice a1 L1.length c1] 27)) (Nat.zero_le _) (.bool n1) (.slice a1 L1.length c1))
      have I3 := (hI2.below ((Below.refl _ _).alloc (Nat.le_refl _) (.cells #[.bool n1, .slice a1 L1.length c1] 27))).stb (.put2 (x2.old (.cells #[.bool n1, .slice a1 L1.length c1] 27)) (by omega) (.bool n1) (.slice a1 L1.length c1))
      have F3 := ((Fr.of b2 (some m)).alloc (by simp; omega) (.cells #[.bool n1, .slice a1 L1.length c1] 27)).put2 (g := w.heap.size + 1 + 1) (by omega) (.bool n1) (.slice a1 L1.length c1)
      simp [go_sem] at q2 I3 F3
      have Q2 := hide q2; have I4 := hide I3; have F4 := hide F3
      clear i1 hv x2 b2 l2 p2 hI hI2 ih hM hg CL te tb hy ht q2 I3 F3
      go_enter Tryz.func151, Tryz.ntmps151
      go_wp2_with fail
      refine bodyPost_ret (v := .agg #[.bool n1, .slice a1 L1.length c1]) (by simp [results, Tryz.results151, go_sem]) rfl ⟨_, rfl, unhide Q2, unhide I4, unhide F4⟩

end Go.Proofs.YtfnnbkclnflpfaaGreatDoor

/- Contracts of newLedger, Minor. -/
namespace Go.Proofs.YtfnnbkclnflpfaaGreatDoor
open Go.RowKit
attribute [local go_sem ↓] Go.wp_at_zero Go.wp_at_succ

set_option maxHeartbeats 4000000 in
theorem newLedger_any (ao : Option Addr) (cap : Nat) (M : List Rw) (w : World) :
    Calls Tryz.prog 105 #[.slice ao M.length cap] w fun e w' => ∃ m, e = .returned (.agg #[.slice ao M.length cap, .map (some m)]) ∧ w.heap.size ≤ m ∧ LInv w m M w' := by
  have hmm := @run_makeMap Tryz.prog
  have h1 := LedAt.made (w.alloc (.cells #[.slice ao M.length cap, .map (some (w.heap.size + 1))] 125)) (GM M)
  simp only [World.size_alloc] at h1
  go_enter Tryz.func105, Tryz.ntmps105
  go_wp2_with fail
  refine bodyPost_ret (v := .agg #[.slice ao M.length cap, .map (some (w.heap.size + 1))]) (by simp [results, Tryz.results105, go_sem]) rfl ⟨w.heap.size + 1, rfl, by omega, ?_, h1⟩
  exact ((Below.refl _ _).alloc (Nat.le_refl _) _).alloc (by simp) _

end Go.Proofs.YtfnnbkclnflpfaaGreatDoor

/- Contract of ledger.widened. -/
namespace Go.Proofs.YtfnnbkclnflpfaaGreatDoor
open Go.RowKit
attribute [local go_sem ↓] Go.wp_at_zero Go.wp_at_succ

theorem LimbsAt.pbox {w : World} {ao : Option Addr} {cap g : Nat} {L : List Nat} {x y : Int} {t : TypeId} (h : LimbsAt w ao cap L) (ha : CellsAt w g #[.int .u64 x, .int .u64 y] t) (i j : Nat) (u u' : Value) : LimbsAt ((w.setCell ⟨g, i, none⟩ u).setCell ⟨g, j, none⟩ u') ao cap L := by
  refine ⟨h.1, h.2.1, ?_⟩
  rcases h.2.2 with h0 | ⟨c, off, h1, h2, h3⟩
  · exact .inl h0
  · by_cases hL : L = []
    · exact .inl hL
    have hc : c ≠ g := by
      rintro rfl
      have h4 := h3 0 (List.length_pos_iff.2 hL)
      rw [ha.cell] at h4
      generalize off + 0 = q at h4
      match q, h4 with
      | 0, t => simp at t
      | 1, t => simp at t
      | q + 2, t => simp at t
    refine .inr ⟨c, off, h1, by simpa [World.setCell] using h2, fun i' hi' => ?_⟩
    rw [cell_setCell_other _ _ _ _ (show c ≠ g from hc), cell_setCell_other _ _ _ _ (show c ≠ g from hc)]
    exact h3 i' hi'
theorem IsNum.pbox {B : Nat} {w : World} {v : Value} {z : Int} {g : Nat} {x y : Int} {t : TypeId} (h : IsNum B w v z) (ha : CellsAt w g #[.int .u64 x, .int .u64 y] t) (i j : Nat) (u u' : Value) : IsNum B ((w.setCell ⟨g, i, none⟩ u).setCell ⟨g, j, none⟩ u') v z := by
  obtain ⟨neg, ao, cap, L, h1, h2, h3⟩ := h
  exact ⟨neg, ao, cap, L, h1, h2.pbox ha i j u u', h3⟩
theorem LInv.pbox {w0 w : World} {m g : Nat} {M : List Rw} {x y : Int} {t : TypeId} (h : LInv w0 m M w) (ha : CellsAt w g #[.int .u64 x, .int .u64 y] t) (hg : w0.heap.size ≤ g) (i j : Nat) (u u' : Value) : LInv w0 m M ((w.setCell ⟨g, i, none⟩ u).setCell ⟨g, j, none⟩ u') := by
  obtain ⟨hb, es, clock, h1, h2⟩ := h
  refine ⟨(hb.setCell (p := ⟨g, i, none⟩) hg u).setCell (p := ⟨g, j, none⟩) hg u', es, clock, ?_, fun e he => ?_⟩
  · have hne : m ≠ g := by rintro rfl; unfold CellsAt at ha; rw [h1] at ha; cases ha
    rw [Below.heap_setCell _ _ _ _ (show m ≠ (⟨g, j, none⟩ : Addr).block from hne), Below.heap_setCell _ _ _ _ (show m ≠ (⟨g, i, none⟩ : Addr).block from hne)]
    exact h1
  · obtain ⟨r, c, a1, a2, a3, a4⟩ := h2 e he
    exact ⟨r, c, a1, a2, a3, a4.pbox ha i j u u'⟩
theorem CellsAt.put {w : World} {g : Nat} {x y : Value} {t : TypeId} (h : CellsAt w g #[x, y] t) (u u' : Value) : CellsAt ((w.setCell ⟨g, 0, none⟩ u).setCell ⟨g, 1, none⟩ u') g #[u, u'] t := by
  unfold CellsAt
  rw [heap_setCell_same _ g 1 _ _ _ (heap_setCell_same w g 0 _ _ _ h)]
  rfl
theorem CellsAt.other {w : World} {b g : Nat} {cs : Array Value} {t : TypeId} (h : CellsAt w b cs t) (hne : b ≠ g) (i j : Nat) (u u' : Value) : CellsAt ((w.setCell ⟨g, i, none⟩ u).setCell ⟨g, j, none⟩ u') b cs t := by
  unfold CellsAt
  rw [Below.heap_setCell _ _ _ _ (show b ≠ (⟨g, j, none⟩ : Addr).block from hne), Below.heap_setCell _ _ _ _ (show b ≠ (⟨g, i, none⟩ : Addr).block from hne)]
  exact h

/-- What widened answers. -/
def Wid (M : List Rw) (n pr pc r rr cc : Nat) : Prop :=
  (∃ c, c < n ∧ pc.testBit c = false ∧ rr = ins pr r ∧ cc = ins pc c ∧ GM M rr cc ≠ 0) ∨ (rr = pr ∧ cc = pc ∧ ∀ c, c < n → pc.testBit c = false → GM M (ins pr r) (ins pc c) = 0)

/-- What stands behind the wider places. -/
def TailW (w0 : World) (m : Nat) (M : List Rw) (ao : Option Addr) (cap : Nat) (w : World) (pr pc ir ic g : Nat) (W : World) : Prop :=
  CellsAt W g #[.int .u64 (ir : Int), .int .u64 (ic : Int)] 129 ∧ CellsAt W w.heap.size #[.slice ao M.length cap, .map (some m)] 125 ∧ CellsAt W (w.heap.size + 1) #[.int .u64 (pr : Int), .int .u64 (pc : Int)] 129 ∧ CellsAt W (w.heap.size + 1 + 1) #[.int .u64 0, .int .u64 0] 129 ∧ LInv w0 m M W ∧ Fr w.heap.size (some m) w W ∧ w.heap.size + 1 + 1 < g

theorem ins_facts : ∀ s, s < 64 → ∀ k, k < 6 → s.testBit k = false → ins s k < 64 ∧ sz (ins s k) = sz s + 1 := by decide +kernel
theorem ins_width : ∀ n, n ≤ 6 → ∀ s, s < 2 ^ n → ∀ k, k < n → ins s k < 2 ^ n := by decide +kernel
theorem bit_out : ∀ n, n < 6 → ∀ s, s < 2 ^ n → s.testBit n = false ∧ s < 2 ^ (n + 1) := by decide +kernel

theorem field_limbs (x : Bool) (a : Option Addr) (q c : Nat) (W : World) : (Instr.field 27 (.agg #[.bool x, .slice a q c]) 1).run Tryz.prog W = .ok (.slice a q c) W := by kernel_rfl

set_option maxHeartbeats 8000000 in
theorem widened_any (ao : Option Addr) (cap : Nat) (M : List Rw) (n : Nat) (w0 : World) (m : Nat) (hM : MatAt w0 ao cap M) (hg : GoodM M n) (hm : w0.heap.size ≤ m) (pr pc r : Nat) (w : World) (hr : r < M.length) (hpr : pr < 2 ^ r) (hpc : pc < 2 ^ n) (hsz : sz pr = sz pc) (hI : LInv w0 m M w) :
    Calls Tryz.prog 106 #[.agg #[.slice ao M.length cap, .map (some m)], .agg #[.int .u64 (pr : Int), .int .u64 (pc : Int)], .int .i64 (r : Int)] w fun e w' => ∃ rr cc : Nat, e = .returned (.agg #[.int .u64 (rr : Int), .int .u64 (cc : Int)]) ∧ Wid M n pr pc r rr cc ∧ LInv w0 m M w' ∧ Fr w.heap.size (some m) w w' := by
  have hM6 := hg.1
  have hn6 := hg.2.1
  have r6 : r < 6 := by omega
  have pr64 : pr < 64 := Nat.lt_of_lt_of_le hpr (by have := (set_full r (by omega)).2; omega)
  have pc64 : pc < 64 := Nat.lt_of_lt_of_le hpc (set_full n hn6).2
  obtain ⟨hbit, hpr1⟩ := bit_out r r6 pr hpr
  obtain ⟨ir64, irs⟩ := ins_facts pr pr64 r r6 hbit
  have irM : ins pr r < 2 ^ M.length := Nat.lt_of_lt_of_le (ins_width (r + 1) (by omega) pr hpr1 r (by omega)) (Nat.pow_le_pow_right (by decide) (by omega))
  have CW1 := hide (fun w => with_any pr r w pr64 r6)
  have CM := hide (fun (w' : World) (c : Nat) (hc : c < n) (hb : pc.testBit c = false) (h : LInv w0 m M w') => minor_any ao cap M n w0 m hM hg hm (sz pr + 1) (ins pr r) (ins pc c) w' irs (by rw [(ins_facts pc pc64 c (by omega) hb).2, hsz]) irM (ins_width n hn6 pc hpc c hc) h)
  have HW := hide (fun rr cc => (Iff.rfl : Wid M n pr pc r rr cc ↔ Wid M n pr pc r rr cc))
  obtain ⟨b, off, hao, hbb, hc'⟩ := hM.ne (by omega)
  have hcr := hc' r hr
  have hrl := hg.2.2.1 r hr
  rw [hrl] at hcr
  generalize (rwAt M r).ao = ar at *
  generalize (rwAt M r).cap = cr at *
  have HR := hide (fun w' (hb : Below w0.heap.size w0 w') => show w'.cell? ⟨b, off + r, none⟩ = some (.slice ar n cr) by rw [hb.cell (p := ⟨b, off + r, none⟩) hbb]; exact hcr)
  have hmw := hI.2.lt
  have hw0 := hI.1.size
  subst hao
  have l2 := ((CellsAt.new w #[.slice (some ⟨b, off, none⟩) M.length cap, .map (some m)] 125).old (.cells #[.int .u64 (pr : Int), .int .u64 (pc : Int)] 129)).old (.cells #[.int .u64 0, .int .u64 0] 129)
  have p2 := (CellsAt.new (w.alloc (.cells #[.slice (some ⟨b, off, none⟩) M.length cap, .map (some m)] 125)) #[.int .u64 (pr : Int), .int .u64 (pc : Int)] 129).old (.cells #[.int .u64 0, .int .u64 0] 129)
  have x2 := CellsAt.new ((w.alloc (.cells #[.slice (some ⟨b, off, none⟩) M.length cap, .map (some m)] 125)).alloc (.cells #[.int .u64 (pr : Int), .int .u64 (pc : Int)] 129)) #[.int .u64 0, .int .u64 0] 129
  have b2 : Below w.heap.size w (((w.alloc (.cells #[.slice (some ⟨b, off, none⟩) M.length cap, .map (some m)] 125)).alloc (.cells #[.int .u64 (pr : Int), .int .u64 (pc : Int)] 129)).alloc (.cells #[.int .u64 0, .int .u64 0] 129)) :=
    (((Below.refl _ _).alloc (Nat.le_refl _) _).alloc (by simp) _).alloc (by simp; omega) _
  simp only [World.size_alloc] at p2 x2
  have hrow := unhide HR _ (hI.1.trans (b2.mono hw0))
  have L2 := hide l2; have P2 := hide p2; have X2 := hide x2; have I2 := hide (hI.below b2); have F2 := hide (Fr.of b2 (some m))
  have l20 := l2.cell 0
  simp only [List.getElem?_toArray, List.getElem?_cons_zero] at l20
  have hrI : (r : Int) < (M.length : Int) := by omega
  clear hM hg hI hc' hcr hrl l2 p2 x2 b2 hpr hpc irM hpr1 irs ir64 hsz hbit
  go_enter Tryz.func106, Tryz.ntmps106
  go_wp2_with fail
  go_loopw [15] (fun i wr => ∃ k : Nat, k ≤ n ∧ i = .int .i64 k ∧ Hid (CellsAt wr w.heap.size #[.slice (some ⟨b, off, none⟩) M.length cap, .map (some m)] 125) ∧ Hid (CellsAt wr (w.heap.size + 1) #[.int .u64 (pr : Int), .int .u64 (pc : Int)] 129) ∧ Hid (CellsAt wr (w.heap.size + 1 + 1) #[.int .u64 0, .int .u64 0] 129) ∧ Hid (LInv w0 m M wr) ∧ Hid (Fr w.heap.size (some m) w wr) ∧ Hid (∀ c, c < k → pc.testBit c = false → GM M (ins pr r) (ins pc c) = 0)) (fun i _ => n - (intOf i).toNat)
  case atStart => exact ⟨0, Nat.zero_le _, rfl, L2, P2, X2, I2, F2, by unfold Hid; intro c hc; omega⟩
  case round =>
    obtain ⟨k, hk, rfl, hL, hP, hX, hIr, hF, hQ⟩ := hrel
    by_cases hlt : k < n
    · have CW2 := hide (fun w => with_any pc k w pc64 (by omega))
      have CH := hide (fun w => has_any pc k w pc64 (by omega))
      have hkI : (k : Int) < (n : Int) := by omega
      clear L2 P2 X2 I2 F2 hrow l20
      go_wp2_with fail
      refine at_world (fun W => W = wr) rfl ?_
      rintro W0 e0
      subst e0
      have HK := hide (fun w' (h : Below W0.heap.size W0 w') => show Below W0.heap.size W0 w' ∧ w'.cell? ⟨w.heap.size + 1, 0, none⟩ = some (.int .u64 (pr : Int)) ∧ w'.cell? ⟨w.heap.size + 1, 1, none⟩ = some (.int .u64 (pc : Int)) from ⟨h, ((unhide hP).below h).cell 0, ((unhide hP).below h).cell 1⟩)
      have HT := hide (fun (W : World) (h : Below W0.heap.size W0 W) (hc : CellsAt W W0.heap.size #[.int .u64 (ins pr r : Int), .int .u64 (ins pc k : Int)] 129) =>
        (show TailW w0 m M (some ⟨b, off, none⟩) cap w pr pc (ins pr r) (ins pc k) W0.heap.size W from
          ⟨hc, (unhide hL).below h, (unhide hP).below h, (unhide hX).below h, (unhide hIr).below h, (unhide hF).thenB (Nat.le_refl _) h, (unhide hX).lt⟩))
      have CM' := hide (fun (w' : World) (hb : pc.testBit k = false) (h : LInv w0 m M w') => unhide CM w' k hlt hb h)
      have HWn := hide (fun (hb : pc.testBit k = false) (h : GM M (ins pr r) (ins pc k) ≠ 0) => (show Wid M n pr pc r (ins pr r) (ins pc k) from .inl ⟨k, hlt, hb, rfl, rfl, h⟩))
      have HQn := hide (fun (hb : pc.testBit k = false → GM M (ins pr r) (ins pc k) = 0) => (show ∀ c, c < k + 1 → pc.testBit c = false → GM M (ins pr r) (ins pc c) = 0 from fun c hc hcb => by
        rcases Nat.lt_succ_iff_lt_or_eq.1 hc with h | rfl
        · exact hQ.out c h hcb
        · exact hb hcb))
      generalize GM M (ins pr r) (ins pc k) = gm at *
      clear CM HW
      go_region_held3 (fun w' => Below W0.heap.size W0 w' ∧ w'.cell? ⟨w.heap.size + 1, 0, none⟩ = some (.int .u64 (pr : Int)) ∧ w'.cell? ⟨w.heap.size + 1, 1, none⟩ = some (.int .u64 (pc : Int)))
        (first | assumption | exact unhide HK _ (Below.refl _ _).drew | exact unhide HK _ ((Below.refl _ _).drew.alloc (Nat.le_refl _) _) | exact unhide HK _ ((Below.refl _ _).alloc (Nat.le_refl _) _).drew | fail "KK")
        (first | (go_at_call_of 149 (Value.int IntKind.u64 (pr : Int)); refine (unhide CW1 _).mono ?_; rintro e wx ⟨rfl, rfl⟩) | (go_at_call_of 149 (Value.int IntKind.u64 (pc : Int)); refine (unhide CW2 _).mono ?_; rintro e wx ⟨rfl, rfl⟩) | fail "NO ARM")
      all_goals
        first
          | refine at_then (TailW _ _ _ _ _ _ _ _ _ _ _) (unhide HT _ (And.left (by assumption)) (CellsAt.new _ _ _)) ?_
          | fail "NO WAY"
      all_goals
        rintro W ⟨cg, cl, cp, cx, hIW, hFW, hgl⟩
        have g0 := cg.cell 0; have g1 := cg.cell 1; have l0 := cl.cell 0; have l1 := cl.cell 1; have p1 := cp.cell 1
        simp only [List.getElem?_toArray, List.getElem?_cons_zero, List.getElem?_cons_succ] at g0 g1 l0 l1 p1
        have CG := hide cg; have CL := hide cl; have CP := hide cp; have CX := hide cx; have IW := hide hIW; have FW := hide hFW
        clear cg cl cp cx hIW hFW hL hP hX hIr hF HK HT hQ
        generalize W0.heap.size = g at *
        by_cases hb : pc.testBit k = true
        · rw [hb] at CH
          have HQ2 := hide (unhide HQn (fun h => by rw [hb] at h; cases h))
          clear HQn HWn CM' CW1 CW2
          go_wp2_with (go_at_call 150; refine (unhide CH _).mono ?_; rintro e w' ⟨rfl, rfl⟩)
          go_roundw
          case rel => exact ⟨k + 1, by omega, by go_num, CL, CP, CX, IW, FW, HQ2⟩
          case measure => simp [intOf]; omega
        · have hbf : pc.testBit k = false := by simpa using hb
          rw [hbf] at CH
          clear hb CW1 CW2
          go_wp2_with (go_at_call 150; refine (unhide CH _).mono ?_; rintro e w' ⟨rfl, rfl⟩)
          refine (unhide CM' _ hbf (unhide IW)).mono ?_
          rintro e w2 ⟨v, rfl, ⟨n2, a2, c2, L2, rfl, i2⟩, hI2, hf2⟩
          have cl2 := (unhide CL).fr hf2 (by omega); have cp2 := (unhide CP).fr hf2 (by omega); have cx2 := (unhide CX).fr hf2 (by omega); have cg2 := (unhide CG).fr hf2 (by omega)
          have hf3 := (unhide FW).then (Nat.le_refl _) hf2
          by_cases hz : gm = 0
          · have hl0 : L2.length = 0 := by
              have h5 := i2.2.2.2.2.1
              rw [hz] at h5
              exact List.length_eq_zero_iff.2 ((val_zero_of_canon L2 i2.2.2.1).1 h5)
            have HQ2 := hide (unhide HQn (fun _ => hz))
            clear i2
            generalize L2.length = q at *
            subst hl0
            have hfld := field_limbs n2 a2 0 c2
            have CL2 := hide cl2; have CP2 := hide cp2; have CX2 := hide cx2; have I2 := hide hI2; have F3 := hide hf3
            clear cl2 cp2 cx2 cg2 hf2 hf3 hI2 CL CP CX CG IW FW HQn HWn CM' hz hbf g0 g1 l0 l1 p1
            go_wp2_with fail
            go_roundw
            case rel => exact ⟨k + 1, by omega, by go_num, CL2, CP2, CX2, I2, F3, HQ2⟩
            case measure => simp [intOf]; omega
          · have hl0 : (0 : Int) < (L2.length : Int) := by
              have h5 := i2.2.2.2.2.1
              rcases Nat.eq_zero_or_pos L2.length with h | h
              · rw [List.length_eq_zero_iff.1 h] at h5; simp [val] at h5; omega
              · omega
            have HWW := hide (unhide HWn hbf hz)
            have hlq := i2.2.2.2.2.2
            clear i2
            generalize L2.length = q at *
            have hfld := field_limbs n2 a2 q c2
            have d0 := cg2.cell 0; have d1 := cg2.cell 1; have e0 := cx2.cell 0; have e1 := cx2.cell 1; have f0 := cx2.free 0; have f1 := cx2.free 1
            simp only [List.getElem?_toArray, List.getElem?_cons_zero, List.getElem?_cons_succ] at d0 d1 e0 e1
            have I4 := hide (hI2.pbox cx2 (by omega) 0 1 (.int .u64 (ins pr r : Int)) (.int .u64 (ins pc k : Int)))
            have F4 := hide (hf3.put2 (g := w.heap.size + 1 + 1) (by omega) (.int .u64 (ins pr r : Int)) (.int .u64 (ins pc k : Int)))
            clear cl2 cp2 cx2 cg2 hf2 hf3 hI2 CL CP CX CG IW FW HQn HWn CM' hz hbf g0 g1 l0 l1 p1
            go_wp2_with fail
            refine bodyPost_ret (v := .agg #[.int .u64 (ins pr r : Int), .int .u64 (ins pc k : Int)]) (by simp [results, Tryz.results106, go_sem, e0, e1]) rfl ⟨ins pr r, ins pc k, rfl, unhide HWW, unhide I4, unhide F4⟩
    · have hkk : k = n := by omega
      have cx2 := unhide hX
      have d0 := (unhide hP).cell 0; have d1 := (unhide hP).cell 1; have e0 := cx2.cell 0; have e1 := cx2.cell 1; have f0 := cx2.free 0; have f1 := cx2.free 1
      simp only [List.getElem?_toArray, List.getElem?_cons_zero, List.getElem?_cons_succ] at d0 d1 e0 e1
      have I4 := hide ((unhide hIr).pbox cx2 (by omega) 0 1 (.int .u64 (pr : Int)) (.int .u64 (pc : Int)))
      have F4 := hide ((unhide hF).put2 (g := w.heap.size + 1 + 1) (by omega) (.int .u64 (pr : Int)) (.int .u64 (pc : Int)))
      have HWW := hide (show Wid M n pr pc r pr pc from .inr ⟨rfl, rfl, fun c hc => hQ.out c (by omega)⟩)
      subst hkk
      clear cx2 hL hP hX hIr hF hQ L2 P2 X2 I2 F2 hrow l20 CM HW CW1
      go_wp2_with fail
      refine bodyPost_ret (v := .agg #[.int .u64 (pr : Int), .int .u64 (pc : Int)]) (by simp [results, Tryz.results106, go_sem, e0, e1]) rfl ⟨pr, pc, rfl, unhide HWW, unhide I4, unhide F4⟩

end Go.Proofs.YtfnnbkclnflpfaaGreatDoor

