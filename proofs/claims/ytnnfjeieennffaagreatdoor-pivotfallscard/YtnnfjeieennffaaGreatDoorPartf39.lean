/- Part 39 of the texts. -/
import Derived.Test.YtnnfjeieennffaaGreatDoorPartf29
import Derived.Test.YtnnfjeieennffaaGreatDoorPartf38
import Derived.Test.YtnnfjeieennffaaGreatDoorPartf36
import Derived.Deep.RegionLaw
import Derived.Test.YtnnfjeieennffaaGreatDoorPartf34
import Derived.Test.YtnnfjeieennffaaGreatDoorPartf35
import Derived.Test.YtnnfjeieennffaaGreatDoorPartf28
import Derived.Test.YtnnfjeieennffaaGreatDoorPartf25
import Derived.Test.YtnnfjeieennffaaGreatDoorPartf23
import Derived.Test.YtnnfjeieennffaaGreatDoorPartf37
import Derived.Deep.RegionWith
import Derived.Deep.RegionHeld3
import Derived.Test.YtnnfjeieennffaaGreatDoorPartf33
import Derived.Laws.CopyOwn
set_option maxHeartbeats 16000000
set_option maxRecDepth 20000
namespace Go.Proofs.YtnnfjeieennffaaGreatDoor
open Go.RowKit
attribute [local go_sem ↓] Go.wp_at_zero Go.wp_at_succ
def OffB (g:Option Nat) (ao:Option Addr) (I:List Int):Prop:=I = [] ∨ ∃ b off,ao = some ⟨b,off,none⟩∧some b ≠ g
theorem OffB.new {H:Nat} {ao:Option Addr} {I:List Int} (h:NewB H ao I) {g:Option Nat} (hg:∀ k,g = some k→k < H):OffB g ao I:=by
 rcases h with e | ⟨b,off,e1,e2⟩
 ·exact .inl e
 ·exact .inr ⟨b,off,e1,fun e=>by have:=hg b e.symm;omega⟩
theorem OffB.old {w:World} {ao:Option Addr} {c:Nat} {I:List Int} (h:BitsAt w ao c I) {g:Option Nat} (hg:∀ k,g = some k→w.heap.size≤k):OffB g ao I:=by
 rcases h.2.2 with e | ⟨b,off,e1,e2,_⟩
 ·exact .inl e
 ·exact .inr ⟨b,off,e1,fun e=>by have:=hg b e.symm;omega⟩
theorem bits_grownOff {w w':World} {ao:Option Addr} {c:Nat} {I:List Int} {g:Option Nat} (h:BitsAt w ao c I) (ha:OffB g ao I) (hg:w.grownBy w' g):BitsAt w' ao c I:=by
 refine ⟨h.1,h.2.1,?_⟩
 rcases h.2.2 with e | ⟨b,off,e,hb,hc⟩
 ·exact .inl e
 ·rcases ha with e' | ⟨b',off',e',hne⟩
  ·exact .inl e'
  ·rw [e] at e'
   simp only [Option.some.injEq,Addr.mk.injEq] at e'
   obtain ⟨rfl,rfl,_⟩:=e'
   refine .inr ⟨b,off,e,Nat.lt_of_lt_of_le hb hg.size,fun i hi=>?_⟩
   rw [World.cell?_of_block (a:=⟨b,off+i,none⟩) (hg.block b hb hne)]
   exact hc i hi
end Go.Proofs.YtnnfjeieennffaaGreatDoor
namespace Go.Proofs.YtnnfjeieennffaaGreatDoor
open Go.RowKit
attribute [local go_sem ↓] Go.wp_at_zero Go.wp_at_succ
theorem psub_any (a b:Nat) (w:World) (ha:a < 18446744073709551616) (hb:b < 18446744073709551616) (hT:Tab w) :
  Calls Tryz.prog 149 #[.int .u64 a,.int .u64 b] w fun r w'=>r = .returned (.int .u64 (aV a (fN b):Nat))∧Below w.heap.size w w':=by
 have K:=hide (ssub_any a b w ha hb hT)
 clear ha hb hT
 generalize aV a (fN b) = o at *
 generalize aF a (fN b) = f at *
 go_enter Tryz.func149,Tryz.ntmps149
 go_wp2_with fail
 refine Calls.mono (uH K) ?_
 rintro e w1 ⟨rfl,hb1⟩
 clear K
 go_wp2
 go_ret
 exact ⟨rfl,hb1⟩
theorem pdiv_any (a b:Nat) (w:World) (ha:a < 18446744073709551616) (hb:b < 18446744073709551616) (hT:Tab w) :
  Calls Tryz.prog 151 #[.int .u64 a,.int .u64 b] w fun r w'=>r = .returned (.int .u64 (dV a b:Nat))∧Below w.heap.size w w':=by
 have K:=hide (tdiv_any a b w ha hb hT)
 clear ha hb hT
 generalize dV a b = o at *
 generalize dF a b = f at *
 go_enter Tryz.func151,Tryz.ntmps151
 go_wp2_with fail
 refine Calls.mono (uH K) ?_
 rintro e w1 ⟨rfl,hb1⟩
 clear K
 go_wp2
 go_ret
 exact ⟨rfl,hb1⟩
end Go.Proofs.YtnnfjeieennffaaGreatDoor
namespace Go.Proofs.YtnnfjeieennffaaGreatDoor
open Go.RowKit
attribute [local go_sem ↓] Go.wp_at_zero Go.wp_at_succ
theorem RowB.three {w:World} {b g:Nat} {S:List Nat} (h:RowB w b S) (hg:b ≠ g) (u u' u'':Value):RowB (((w.setCell ⟨g,0,none⟩ u).setCell ⟨g,1,none⟩ u').setCell ⟨g,2,none⟩ u'') b S:=by
 unfold RowB
 rw [Below.heap_setCell _ ⟨g,2,none⟩ u'' b hg,Below.heap_setCell _ ⟨g,1,none⟩ u' b hg,Below.heap_setCell _ ⟨g,0,none⟩ u b hg]
 exact h
theorem copy_run (W:World) (g n cap:Nat) (ao:Option Addr) (S:List Nat) (h:RowB W g (List.replicate n 0)) (hS:BitsAt W ao cap (mxL S)) (hl:S.length = n) :
  ∃ w',(∀ ty,(Builtin.copy_ #[22,22] ty #[.slice (some ⟨g,0,none⟩) n n,.slice ao n cap]).run Tryz.prog W = .ok (.int .i64 (n:Int)) w')∧RowB w' g S∧Below g W w':=by
 rcases Nat.eq_zero_or_pos n with e | e
 ·subst e
  obtain rfl:S = []:=List.eq_nil_of_length_eq_zero hl
  exact ⟨W,fun ty=>run_copy_none W _ _ ty 31 _ _ 0 0 0 cap Tryz.underlying22 (by kernel_rfl) rfl,h,Below.refl _ _⟩
 ·obtain ⟨b,off,rfl,hb,hc⟩:=hS.ne (by rw [mxL_len];omega)
  have hcs:∀ j v,(S.map bitV)[j]? = some v→W.cell? ((⟨b,off,none⟩:Addr).add j) = some v:=by
   intro j v hv
   rw [List.getElem?_map] at hv
   obtain ⟨x,hx,rfl⟩:=Option.map_eq_some_iff.1 hv
   have hj:j < S.length:=(List.getElem?_eq_some_iff.1 hx).1
   have:=hc j (by rw [mxL_len];exact hj)
   rw [mxL_at] at this
   rw [show (⟨b,off,none⟩:Addr).add j = ⟨b,off+j,none⟩ from by simp [Addr.add],this]
   rw [List.getD_eq_getElem?_getD,hx]
   rfl
  have hlen:(S.map bitV).length = n:=by rw [List.length_map,hl]
  have run:=fun ty=>run_copy_row Tryz.prog W 22 22 ty 31 g 0 n n ⟨b,off,none⟩ n cap ((List.replicate n 0).map bitV).toArray 31 (S.map bitV) Tryz.underlying22 (by kernel_rfl) h (by rw [hlen];exact (Nat.min_self n).symm) hcs (by rw [hlen];simp) (fun v hv=>by obtain ⟨x,_,rfl⟩:=List.mem_map.1 hv;rfl)
  refine ⟨_,fun ty=>(run ty).trans (by rw [hlen];rfl),?_,below_setRow (Below.refl _ _) (Nat.le_refl _) _⟩
  unfold RowB
  rw [setRow_heap W g _ _ 31 _ h]
  congr 3
  simp
end Go.Proofs.YtnnfjeieennffaaGreatDoor
namespace Go.Proofs.YtnnfjeieennffaaGreatDoor
open Go.RowKit
attribute [local go_sem ↓] Go.wp_at_zero Go.wp_at_succ
theorem BoxM.three14 {w:World} {b g:Nat} {x y z:Value} (h:BoxM w b x y z) (hg:b ≠ g) (u u' u'':Value):BoxM (((w.setCell ⟨g,0,none⟩ u).setCell ⟨g,1,none⟩ u').setCell ⟨g,2,none⟩ u'') b x y z :=
 ((h.other (p:=⟨g,0,none⟩) hg _).other (p:=⟨g,1,none⟩) hg _).other (p:=⟨g,2,none⟩) hg _
structure TrSt (w wr:World) (h r c n cap:Nat) (ao:Option Addr) (S:List Nat) (ro:Option Addr) (rc:Nat) (v:Value) (R:List Mr):Prop where
 bel:Below w.heap.size w wr
 hh:w.heap.size+1+1≤h
 a:BoxM wr w.heap.size (.int .i64 r) (.int .i64 c) (.slice ao n cap)
 res:BoxM wr (w.heap.size+1) (.int .i64 0) (.int .i64 0) (.slice none 0 0)
 rb:BoxM wr h (.int .i64 r) (.int .i64 c) (.slice ro n rc)
 bits:BitsAt wr ro rc (mxL S)
 new:NewB w.heap.size ro (mxL S)
 len:S.length = n
 l:OwnMt (w.heap.size+1+1) wr v R
 off:OffB v.ownBlock ro (mxL S)
theorem TrSt.all {w wr w':World} {h r c n cap:Nat} {ao:Option Addr} {S:List Nat} {ro:Option Addr} {rc:Nat} {v:Value} {R:List Mr} (t:TrSt w wr h r c n cap ao S ro rc v R) (hb:Below wr.heap.size wr w'):TrSt w w' h r c n cap ao S ro rc v R :=
 ⟨t.bel.trans (hb.mono t.bel.size),t.hh,t.a.all hb,t.res.all hb,t.rb.all hb,t.bits.below hb,t.new,t.len,t.l.below hb,t.off⟩
theorem TrSt.start {w w1:World} {r c n cap:Nat} {ao:Option Addr} {S:List Nat} {ro:Option Addr} {rc:Nat} (hB:Below w.heap.size w w1) (hA:BoxM w1 w.heap.size (.int .i64 r) (.int .i64 c) (.slice ao n cap)) (hR:BoxM w1 (w.heap.size+1) (.int .i64 0) (.int .i64 0) (.slice none 0 0)) (hS:BitsAt w1 ro rc (mxL S)) (hN:NewB w.heap.size ro (mxL S)) (hl:S.length = n) :
  TrSt w (w1.alloc (.cells #[.int .i64 r,.int .i64 c,.slice ro n rc] 24)) w1.heap.size r c n cap ao S ro rc (.slice none 0 0) []:=by
 have b:=below_alloc9 w1 (.cells #[.int .i64 r,.int .i64 c,.slice ro n rc] 24)
 exact ⟨hB.trans (b.mono hB.size),hR.lt,hA.all b,hR.all b,BoxM.new w1 _ _ _,hS.below b,hN,hl,OwnMt.start _ _,OffB.old hS (fun k hk=>by simp [Value.ownBlock] at hk)⟩
theorem mrAt_snoc2 (R:List Mr) (x:Mr):∀ k,k < R.length+1→mrAt (R ++ [x]) k = if k < R.length then mrAt R k else x:=by
 intro k hk
 unfold mrAt
 by_cases g:k < R.length
 ·rw [if_pos g,List.getElem?_append_left g]
 ·rw [if_neg g,show k = R.length by omega,List.getElem?_append_right (Nat.le_refl _)]
  simp
end Go.Proofs.YtnnfjeieennffaaGreatDoor
namespace Go.Proofs.YtnnfjeieennffaaGreatDoor
open Go.RowKit
attribute [local go_sem ↓] Go.wp_at_zero Go.wp_at_succ
def BoxR (w:World) (b:Nat) (x y:Value):Prop:=w.heap[b]? = some (.cells #[x,y] 105 (0,0))
theorem BoxR.c0 {w:World} {b:Nat} {x y:Value} (h:BoxR w b x y):w.cell? ⟨b,0,none⟩ = some x:=by rw [cell_of_row w b 0 _ _ _ h];rfl
theorem BoxR.c1 {w:World} {b:Nat} {x y:Value} (h:BoxR w b x y):w.cell? ⟨b,1,none⟩ = some y:=by rw [cell_of_row w b 1 _ _ _ h];rfl
theorem BoxR.free {w:World} {b:Nat} {x y:Value} (h:BoxR w b x y) (j:Nat):w.frozen? ⟨b,j,none⟩ = false:=frozen_of_row w b j _ _ h
theorem BoxR.lt {w:World} {b:Nat} {x y:Value} (h:BoxR w b x y):b < w.heap.size:=(Array.getElem?_eq_some_iff.1 h).1
theorem BoxR.below {w w':World} {b:Nat} {x y:Value} (h:BoxR w b x y) {B:Nat} (hb:Below B w w') (hlt:b < B):BoxR w' b x y:=(hb.block b hlt).trans h
theorem BoxR.new (w:World) (x y:Value):BoxR (w.alloc (.cells #[x,y] 105)) w.heap.size x y:=heap_alloc_new w _
theorem BoxR.all {w w':World} {b:Nat} {x y:Value} (h:BoxR w b x y) (hb:Below w.heap.size w w'):BoxR w' b x y:=h.below hb h.lt
theorem BoxR.other {w:World} {b:Nat} {x y:Value} (h:BoxR w b x y) {p:Addr} (hp:b ≠ p.block) (u:Value):BoxR (w.setCell p u) b x y:=(Below.heap_setCell w p u b hp).trans h
theorem BoxR.three {w:World} {b g:Nat} {x y:Value} (h:BoxR w b x y) (hg:b ≠ g) (u u' u'':Value):BoxR (((w.setCell ⟨g,0,none⟩ u).setCell ⟨g,1,none⟩ u').setCell ⟨g,2,none⟩ u'') b x y :=
 ((h.other (p:=⟨g,0,none⟩) hg _).other (p:=⟨g,1,none⟩) hg _).other (p:=⟨g,2,none⟩) hg _
theorem BoxR.put {w:World} {b:Nat} {x y:Value} (h:BoxR w b x y) (u u':Value):BoxR ((w.setCell ⟨b,0,none⟩ u).setCell ⟨b,1,none⟩ u') b u u':=by
 have h1:=heap_setCell_same w b 0 _ _ u h
 have h2:=heap_setCell_same (w.setCell ⟨b,0,none⟩ u) b 1 _ _ u' h1
 unfold BoxR
 rw [h2]
 simp
theorem BoxR.grown {w w':World} {b:Nat} {x y:Value} (h:BoxR w b x y) {o:Option Nat} (hg:w.grownBy w' o) (ho:o ≠ some b):BoxR w' b x y :=
 (hg.block b h.lt ho.symm).trans h
theorem BoxM.two16 {w:World} {b g:Nat} {x y z:Value} (h:BoxM w b x y z) (hg:b ≠ g) (u u':Value):BoxM ((w.setCell ⟨g,0,none⟩ u).setCell ⟨g,1,none⟩ u') b x y z :=
 (h.other (p:=⟨g,0,none⟩) hg _).other (p:=⟨g,1,none⟩) hg _
theorem RowB.two16 {w:World} {b g:Nat} {S:List Nat} (h:RowB w b S) (hg:b ≠ g) (u u':Value):RowB ((w.setCell ⟨g,0,none⟩ u).setCell ⟨g,1,none⟩ u') b S:=by
 unfold RowB
 rw [Below.heap_setCell _ ⟨g,1,none⟩ u' b hg,Below.heap_setCell _ ⟨g,0,none⟩ u b hg]
 exact h
theorem below_putR {w w':World} {B b:Nat} (h:Below B w w') (hb:B≤b) (u u':Value):Below B w ((w'.setCell ⟨b,0,none⟩ u).setCell ⟨b,1,none⟩ u') :=
 (h.setCell hb _).setCell hb _
theorem bits_putR {w:World} {g:Nat} {ao:Option Addr} {cap:Nat} {I:List Int} (h:BitsAt w ao cap I) (ho:OffB (some g) ao I) (u u':Value):BitsAt ((w.setCell ⟨g,0,none⟩ u).setCell ⟨g,1,none⟩ u') ao cap I :=
 bits_grownOff (bits_grownOff h ho (grown_set14 w g 0 u)) ho (grown_set14 _ g 1 u')
structure DwSt (w wr:World) (r c n cap:Nat) (ro:Option Addr) (S:List Nat):Prop where
 bel:Below w.heap.size w wr
 a:BoxM wr w.heap.size (.int .i64 r) (.int .i64 c) (.slice ro n cap)
 res:BoxM wr (w.heap.size+1) (.int .i64 0) (.int .i64 0) (.slice none 0 0)
 mi:BoxR wr (w.heap.size+1+1) (.slice none 0 0) (.int .u64 0)
 bits:BitsAt wr ro cap (mxL S)
theorem DwSt.all {w wr w':World} {r c n cap:Nat} {ro:Option Addr} {S:List Nat} (t:DwSt w wr r c n cap ro S) (hb:Below wr.heap.size wr w'):DwSt w w' r c n cap ro S :=
 ⟨t.bel.trans (hb.mono t.bel.size),t.a.all hb,t.res.all hb,t.mi.all hb,t.bits.below hb⟩
theorem DwSt.start {w:World} {r c n cap:Nat} {ro:Option Addr} {S:List Nat} (hS:BitsAt w ro cap (mxL S)):DwSt w (((w.alloc (.cells #[.int .i64 r,.int .i64 c,.slice ro n cap] 24)).alloc (.cells #[.int .i64 0,.int .i64 0,.slice none 0 0] 24)).alloc (.cells #[.slice none 0 0,.int .u64 0] 105)) r c n cap ro S:=by
 have b0:=below_alloc9 w (.cells #[.int .i64 r,.int .i64 c,.slice ro n cap] 24)
 have s0:=size_alloc9 w (.cells #[.int .i64 r,.int .i64 c,.slice ro n cap] 24)
 have x0:=BoxM.new w (.int .i64 r) (.int .i64 c) (.slice ro n cap)
 generalize w.alloc (.cells #[.int .i64 r,.int .i64 c,.slice ro n cap] 24) = w0 at *
 have b1:=below_alloc9 w0 (.cells #[.int .i64 0,.int .i64 0,.slice none 0 0] 24)
 have s1:=size_alloc9 w0 (.cells #[.int .i64 0,.int .i64 0,.slice none 0 0] 24)
 have x1:=BoxM.new w0 (.int .i64 0) (.int .i64 0) (.slice none 0 0)
 generalize w0.alloc (.cells #[.int .i64 0,.int .i64 0,.slice none 0 0] 24) = w1 at *
 have b2:=below_alloc9 w1 (.cells #[.slice none 0 0,.int .u64 0] 105)
 have x2:=BoxR.new w1 (.slice none 0 0) (.int .u64 0)
 rw [s0] at x1 s1
 rw [s1] at x2
 have c1:=b0.trans (b1.mono b0.size)
 exact ⟨c1.trans (b2.mono c1.size),(x0.all b1).all b2,x1.all b2,x2,((hS.below b0).below b1).below b2⟩
def DnAns (w w':World) (ok:Bool) (r c n L:Nat) (S V:List Nat) (tau:Nat) (e:Ending):Prop :=
 (ok = true∧∃ g vo vc,e = .returned (.tuple #[.agg #[.int .i64 r,.int .i64 c,.slice (some ⟨g,0,none⟩) n n],.agg #[.slice vo L vc,.int .u64 tau],.int .i64 0])∧w.heap.size≤g∧RowB w' g S∧NewB w.heap.size vo (mxL V)∧BitsAt w' vo vc (mxL V)∧OffB (some g) vo (mxL V)) ∨
 (ok = false∧e = .returned (.tuple #[.agg #[.int .i64 0,.int .i64 0,.slice none 0 0],.agg #[.slice none 0 0,.int .u64 0],.int .i64 2]))
theorem down_of (r c n cap j L tau beta:Nat) (ro:Option Addr) (S AP NX X V:List Nat) (ok:Bool) (w:World) (hr:r≤6) (hj:j < r) (hL:r - j = L) (hS:BitsAt w ro cap (mxL S))
  (C2:∀ w',BitsAt w' ro cap (mxL S)→Calls Tryz.prog 69 #[.agg #[.int .i64 r,.int .i64 c,.slice ro n cap],.int .i64 (j:Nat),.int .i64 (j:Nat),.int .i64 (L:Nat),.int .i64 1] w' fun e w''=>∃ bo d,e = .returned (.tuple #[.agg #[.int .i64 (L:Nat),.int .i64 1,.slice bo L d],.int .i64 0])∧BitsAt w'' bo d (mxL X)∧Below w'.heap.size w' w'')
  (C3:∀ w' bo d,ok = true→Below w.heap.size w w'→BitsAt w' bo d (mxL X)→Calls Tryz.prog 121 #[.slice bo L d] w' fun e w''=>∃ vo vc,e = .returned (.tuple #[.slice vo L vc,.int .u64 (tau:Nat),.int .u64 (beta:Nat),.int .i64 0])∧NewB w'.heap.size vo (mxL V)∧BitsAt w'' vo vc (mxL V)∧Below w'.heap.size w' w'')
  (C4:∀ w' bo d,ok = false→Below w.heap.size w w'→BitsAt w' bo d (mxL X)→Calls Tryz.prog 121 #[.slice bo L d] w' fun e w''=>∃ so cs er,e = .returned (.tuple #[.slice so 0 cs,.int .u64 0,.int .u64 0,.int .i64 er])∧(er = 2 ∨ er = 4)∧Below w'.heap.size w' w'')
  (C5:∀ w' vo vc,Below w.heap.size w w'→BitsAt w' ro cap (mxL S)→BitsAt w' vo vc (mxL V)→Calls Tryz.prog 76 #[.agg #[.int .i64 r,.int .i64 c,.slice ro n cap],.int .i64 (j:Nat),.int .i64 (j:Nat),.slice vo L vc,.int .u64 (tau:Nat)] w' fun e w''=>∃ g,e = .returned (.tuple #[.agg #[.int .i64 r,.int .i64 c,.slice (some ⟨g,0,none⟩) n n],.int .i64 0])∧w'.heap.size≤g∧RowB w'' g AP∧Below w'.heap.size w' w'')
  (C6:∀ w' g,RowB w' g AP→Calls Tryz.prog 122 #[.agg #[.int .i64 r,.int .i64 c,.slice (some ⟨g,0,none⟩) n n],.int .i64 (j:Nat),.int .u64 (beta:Nat)] w' fun e w''=>e = .returned (.tuple #[])∧RowB w'' g NX∧w'.grownBy w'' (some g)) :
  Calls Tryz.prog 74 #[.agg #[.int .i64 r,.int .i64 c,.slice ro n cap],.int .i64 (j:Nat)] w fun e w'=>DnAns w w' ok r c n L NX V tau e∧Below w.heap.size w w':=by
 have ST:=hide (DwSt.start (r:=r) (c:=c) (n:=n) hS)
 have K2:=hide (C2 _ (uH ST).bits);have K3:=hide C3;have K4:=hide C4;have K5:=hide C5;have K6:=hide C6
 have eL:IntKind.i64.wrap ((r:Int) - (j:Int)) = (L:Int):=(wrap_in _ (by omega)).trans (by omega)
 have eL2:(r:Int) - (j:Int) = (L:Int):=by omega
 have y0:=(uH ST).a.c0;have y1:=(uH ST).a.c1;have y2:=(uH ST).a.c2
 clear C2 C3 C4 C5 C6 hS hL
 go_enter Tryz.func74,Tryz.ntmps74
 go_wp2_with fail
 clear y0 y1 y2 eL eL2
 refine (uH K2).mono ?_
 rintro e w1 ⟨bo,d,rfl,hx,hb⟩
 have ba:=below_alloc9 w1 (.cells #[.int .i64 (L:Int),.int .i64 1,.slice bo L d] 24)
 have CB:=BoxM.new w1 (.int .i64 (L:Int)) (.int .i64 1) (.slice bo L d)
 replace ST:=hide (((uH ST).all hb).all ba)
 have HX:=hide (hx.below ba)
 have y2:=CB.c2
 clear hb hx ba K2 CB
 go_wp2_with fail
 clear y2
 cases ok with
 | false =>
  refine (uH K4 _ bo d rfl (uH ST).bel (uH HX)).mono ?_
  rintro e w2 ⟨so,cs,er,rfl,her,hb⟩
  have S3:=(uH ST).all hb
  have s0:=S3.res.c0;have s1:=S3.res.c1;have s2:=S3.res.c2
  have f0:=S3.res.free 0;have f1:=S3.res.free 1;have f2:=S3.res.free 2
  have Y1:=S3.res.put (.int .i64 0) (.int .i64 0) (.slice none 0 0)
  have M1:=S3.mi.three (g:=w.heap.size+1) (by omega) (.int .i64 0) (.int .i64 0) (.slice none 0 0)
  have s3:=M1.c0;have s4:=M1.c1
  have f3:=M1.free 0;have f4:=M1.free 1
  have Z1:=Y1.two16 (g:=w.heap.size+1+1) (by omega) (.slice none 0 0) (.int .u64 0)
  have Z2:=M1.put (.slice none 0 0) (.int .u64 0)
  have z0:=Z1.c0;have z1:=Z1.c1;have z2:=Z1.c2;have z3:=Z2.c0;have z4:=Z2.c1
  have BP:=hide (below_putR (below_putM S3.bel (b:=w.heap.size+1) (by omega) (.int .i64 0) (.int .i64 0) (.slice none 0 0)) (b:=w.heap.size+1+1) (by omega) (.slice none 0 0) (.int .u64 0))
  clear Y1 M1 Z1 Z2 S3 ST hb HX K3 K4 K5 K6
  rcases her with rfl | rfl
  all_goals
   go_wp2_with fail
   exact bodyPost_ret (v:=.tuple #[.agg #[.int .i64 0,.int .i64 0,.slice none 0 0],.agg #[.slice none 0 0,.int .u64 0],.int .i64 2]) (by simp [results,Tryz.results74,go_sem,z0,z1,z2,z3,z4]) rfl ⟨.inr ⟨rfl,rfl⟩,uH BP⟩
 | true =>
  refine (uH K3 _ bo d rfl (uH ST).bel (uH HX)).mono ?_
  rintro e w2 ⟨vo,vc,rfl,hn,hv,hb⟩
  have HZ:=hide ((uH ST).bel.size)
  have HM:=hide ((uH ST).mi.lt)
  have HNV:=hide hn
  replace ST:=hide ((uH ST).all hb)
  have HV:=hide hv
  clear hn hv hb HX K3 K4
  have q0:=(uH ST).a.c0;have q1:=(uH ST).a.c1;have q2:=(uH ST).a.c2
  go_wp2_with fail
  clear q0 q1 q2
  refine (uH K5 _ vo vc (uH ST).bel (uH ST).bits (uH HV)).mono ?_
  rintro e w3 ⟨g,rfl,hg,hrow,hb⟩
  have O4:=hide (OffB.old (uH HV) (g:=some g) (fun k hk=>by cases hk;exact hg))
  have HG:=hide (show w.heap.size+1+1 < g from Nat.lt_of_lt_of_le (uH ST).mi.lt hg)
  replace ST:=hide ((uH ST).all hb)
  have ba:=below_alloc9 w3 (.cells #[.int .i64 r,.int .i64 c,.slice (some ⟨g,0,none⟩) n n] 24)
  have NB:=hide (BoxM.new w3 (.int .i64 r) (.int .i64 c) (.slice (some ⟨g,0,none⟩) n n))
  have HGN:=hide (show g ≠ w3.heap.size from Nat.ne_of_lt hrow.lt)
  replace ST:=hide ((uH ST).all ba)
  have V4:=hide (((uH HV).below hb).below ba)
  have R4:=hide (hrow.below ba hrow.lt)
  have q0:=(uH NB).c0;have q1:=(uH NB).c1;have q2:=(uH NB).c2
  clear hb ba hrow hg K5 HV
  go_wp2_with fail
  clear q0 q1 q2
  refine (uH K6 _ g (uH R4)).mono ?_
  rintro e w4 ⟨rfl,hrow,hg4⟩
  have V5:=bits_grownOff (uH V4) (uH O4) hg4
  have N5:=(uH NB).grown hg4 (fun e=>by cases e;exact uH HGN rfl)
  have hgg:=uH HG
  have B5:Below w.heap.size w w4:=(uH ST).bel.grown hg4 (uH ST).bel.size (fun k hk=>by cases hk;omega)
  have X5:=(uH ST).res.grown hg4 (fun e=>by cases e;omega)
  have M5:=(uH ST).mi.grown hg4 (fun e=>by cases e;omega)
  have q0:=N5.c0;have q1:=N5.c1;have q2:=N5.c2
  have s0:=X5.c0;have s1:=X5.c1;have s2:=X5.c2
  have f0:=X5.free 0;have f1:=X5.free 1;have f2:=X5.free 2
  have Y1:=X5.put (.int .i64 r) (.int .i64 c) (.slice (some ⟨g,0,none⟩) n n)
  have M1:=M5.three (g:=w.heap.size+1) (by omega) (.int .i64 r) (.int .i64 c) (.slice (some ⟨g,0,none⟩) n n)
  have s3:=M1.c0;have s4:=M1.c1
  have f3:=M1.free 0;have f4:=M1.free 1
  have Z1:=Y1.two16 (g:=w.heap.size+1+1) (by omega) (.slice vo L vc) (.int .u64 tau)
  have Z2:=M1.put (.slice vo L vc) (.int .u64 tau)
  have z0:=Z1.c0;have z1:=Z1.c1;have z2:=Z1.c2;have z3:=Z2.c0;have z4:=Z2.c1
  have BP:=hide (below_putR (below_putM B5 (b:=w.heap.size+1) (by omega) (.int .i64 r) (.int .i64 c) (.slice (some ⟨g,0,none⟩) n n)) (b:=w.heap.size+1+1) (by omega) (.slice vo L vc) (.int .u64 tau))
  have RP:=hide ((hrow.three (g:=w.heap.size+1) (by omega) (.int .i64 r) (.int .i64 c) (.slice (some ⟨g,0,none⟩) n n)).two16 (g:=w.heap.size+1+1) (by omega) (.slice vo L vc) (.int .u64 tau))
  have OM:OffB (some (w.heap.size+1+1)) vo (mxL V):=by
   rcases uH HNV with e | ⟨b,off,rfl,hb2⟩
   ·exact .inl e
   ·exact .inr ⟨b,off,rfl,fun e=>by cases e;have:=uH HM;omega⟩
  have VP:=hide (bits_putR (V5.putM X5 (.int .i64 r) (.int .i64 c) (.slice (some ⟨g,0,none⟩) n n)) OM (.slice vo L vc) (.int .u64 tau))
  have HN:=hide ((uH HNV).least (uH HZ))
  clear Y1 M1 Z1 Z2 X5 M5 B5 N5 V5 hrow hg4 ST V4 R4 NB K6 OM HNV
  go_wp2_with fail
  exact bodyPost_ret (v:=.tuple #[.agg #[.int .i64 r,.int .i64 c,.slice (some ⟨g,0,none⟩) n n],.agg #[.slice vo L vc,.int .u64 tau],.int .i64 0]) (by simp [results,Tryz.results74,go_sem,z0,z1,z2,z3,z4]) rfl ⟨.inl ⟨rfl,g,vo,vc,rfl,by omega,uH RP,uH HN,uH VP,uH O4⟩,uH BP⟩
end Go.Proofs.YtnnfjeieennffaaGreatDoor
