/- Part 36 of the texts. -/
import Derived.Test.YtnnfjeieennffaaGreatDoorParte27
import Derived.Test.YtnnfjeieennffaaGreatDoorParte25
import Derived.Test.YtnnfjeieennffaaGreatDoorParte22
import Derived.Test.YtnnfjeieennffaaGreatDoorParte31
import Derived.Test.YtnnfjeieennffaaGreatDoorParte30
import Derived.Test.YtnnfjeieennffaaGreatDoorParte28
import Derived.Test.YtnnfjeieennffaaGreatDoorParte26
import Derived.Test.YtnnfjeieennffaaGreatDoorParte33
import Derived.Test.YtnnfjeieennffaaGreatDoorParte16
import Derived.Test.YtnnfjeieennffaaGreatDoorParte17
import Derived.Test.YtnnfjeieennffaaGreatDoorParte18
import Derived.Deep.Cut
import Derived.BigQuiet
import Derived.Test.YtnnfjeieennffaaGreatDoorParte05
import Derived.Maps.AppendAt
import Derived.Test.YtnnfjeieennffaaGreatDoorParte09
import Derived.Lib.BitFns
import Derived.Test.YtnnfjeieennffaaGreatDoorParte34
import Derived.Test.YtnnfjeieennffaaGreatDoorParte08
import Derived.Test.YtnnfjeieennffaaGreatDoorParte07
import Derived.Test.YtnnfjeieennffaaGreatDoorParte10
import Derived.Maps.Own
import Derived.Maps.OwnOps
import Derived.Maps.OwnSet
import Derived.DeepKeys4
import Derived.WalkSmall
import Derived.Test.YtnnfjeieennffaaGreatDoorParte01
import Derived.Test.YtnnfjeieennffaaGreatDoorParte02
import Derived.Test.YtnnfjeieennffaaGreatDoorParte32
import Derived.Deep.RegionWith
import Derived.Deep.RegionLaw
import Derived.Deep.RegionHeld3
import Derived.Laws.CopyOwn
import Derived.Test.YtnnfjeieennffaaGreatDoorParte35
import Derived.Test.YtnnfjeieennffaaGreatDoorParte19
set_option maxHeartbeats 16000000
set_option maxRecDepth 20000
namespace Go.Proofs.YtnnfjeieennffaaGreatDoor
open Go.RowKit
attribute [local go_sem ↓] Go.wp_at_zero Go.wp_at_succ
theorem psub_any (a b:Nat) (w:World) (ha:a < 18446744073709551616) (hb:b < 18446744073709551616) (hT:Tab w) :
  Calls Tryz.prog 149 #[.int .u64 a,.int .u64 b] w fun r w'=>r = .returned (.int .u64 (aV a (fN b):Nat))∧Below w.heap.size w w':=by
 have K:=hide (ssub_any a b w ha hb hT)
 clear ha hb hT
 generalize aV a (fN b) = o at *
 generalize aF a (fN b) = f at *
 go_enter Tryz.func149,Tryz.ntmps149
 go_wp2_with fail
 refine Calls.mono (uH K) ?_
 rintro e w1 ⟨rfl,hb1⟩
 clear K
 go_wp2
 go_ret
 exact ⟨rfl,hb1⟩
theorem pdiv_any (a b:Nat) (w:World) (ha:a < 18446744073709551616) (hb:b < 18446744073709551616) (hT:Tab w) :
  Calls Tryz.prog 151 #[.int .u64 a,.int .u64 b] w fun r w'=>r = .returned (.int .u64 (dV a b:Nat))∧Below w.heap.size w w':=by
 have K:=hide (tdiv_any a b w ha hb hT)
 clear ha hb hT
 generalize dV a b = o at *
 generalize dF a b = f at *
 go_enter Tryz.func151,Tryz.ntmps151
 go_wp2_with fail
 refine Calls.mono (uH K) ?_
 rintro e w1 ⟨rfl,hb1⟩
 clear K
 go_wp2
 go_ret
 exact ⟨rfl,hb1⟩
end Go.Proofs.YtnnfjeieennffaaGreatDoor
namespace Go.Proofs.YtnnfjeieennffaaGreatDoor
open Go.RowKit
attribute [local go_sem ↓] Go.wp_at_zero Go.wp_at_succ
theorem RowB.three {w:World} {b g:Nat} {S:List Nat} (h:RowB w b S) (hg:b ≠ g) (u u' u'':Value):RowB (((w.setCell ⟨g,0,none⟩ u).setCell ⟨g,1,none⟩ u').setCell ⟨g,2,none⟩ u'') b S:=by
 unfold RowB
 rw [Below.heap_setCell _ ⟨g,2,none⟩ u'' b hg,Below.heap_setCell _ ⟨g,1,none⟩ u' b hg,Below.heap_setCell _ ⟨g,0,none⟩ u b hg]
 exact h
theorem copy_run (W:World) (g n cap:Nat) (ao:Option Addr) (S:List Nat) (h:RowB W g (List.replicate n 0)) (hS:BitsAt W ao cap (mxL S)) (hl:S.length = n) :
  ∃ w',(∀ ty,(Builtin.copy_ #[22,22] ty #[.slice (some ⟨g,0,none⟩) n n,.slice ao n cap]).run Tryz.prog W = .ok (.int .i64 (n:Int)) w')∧RowB w' g S∧Below g W w':=by
 rcases Nat.eq_zero_or_pos n with e | e
 ·subst e
  obtain rfl:S = []:=List.eq_nil_of_length_eq_zero hl
  exact ⟨W,fun ty=>run_copy_none W _ _ ty 31 _ _ 0 0 0 cap Tryz.underlying22 (by kernel_rfl) rfl,h,Below.refl _ _⟩
 ·obtain ⟨b,off,rfl,hb,hc⟩:=hS.ne (by rw [mxL_len];omega)
  have hcs:∀ j v,(S.map bitV)[j]? = some v→W.cell? ((⟨b,off,none⟩:Addr).add j) = some v:=by
   intro j v hv
   rw [List.getElem?_map] at hv
   obtain ⟨x,hx,rfl⟩:=Option.map_eq_some_iff.1 hv
   have hj:j < S.length:=(List.getElem?_eq_some_iff.1 hx).1
   have:=hc j (by rw [mxL_len];exact hj)
   rw [mxL_at] at this
   rw [show (⟨b,off,none⟩:Addr).add j = ⟨b,off+j,none⟩ from by simp [Addr.add],this]
   rw [List.getD_eq_getElem?_getD,hx]
   rfl
  have hlen:(S.map bitV).length = n:=by rw [List.length_map,hl]
  have run:=fun ty=>run_copy_row Tryz.prog W 22 22 ty 31 g 0 n n ⟨b,off,none⟩ n cap ((List.replicate n 0).map bitV).toArray 31 (S.map bitV) Tryz.underlying22 (by kernel_rfl) h (by rw [hlen];exact (Nat.min_self n).symm) hcs (by rw [hlen];simp) (fun v hv=>by obtain ⟨x,_,rfl⟩:=List.mem_map.1 hv;rfl)
  refine ⟨_,fun ty=>(run ty).trans (by rw [hlen];rfl),?_,below_setRow (Below.refl _ _) (Nat.le_refl _) _⟩
  unfold RowB
  rw [setRow_heap W g _ _ 31 _ h]
  congr 3
  simp
end Go.Proofs.YtnnfjeieennffaaGreatDoor
namespace Go.Proofs.YtnnfjeieennffaaGreatDoor
open Go.RowKit
attribute [local go_sem ↓] Go.wp_at_zero Go.wp_at_succ
theorem BoxM.three14 {w:World} {b g:Nat} {x y z:Value} (h:BoxM w b x y z) (hg:b ≠ g) (u u' u'':Value):BoxM (((w.setCell ⟨g,0,none⟩ u).setCell ⟨g,1,none⟩ u').setCell ⟨g,2,none⟩ u'') b x y z :=
 ((h.other (p:=⟨g,0,none⟩) hg _).other (p:=⟨g,1,none⟩) hg _).other (p:=⟨g,2,none⟩) hg _
structure TrSt (w wr:World) (h r c n cap:Nat) (ao:Option Addr) (S:List Nat) (ro:Option Addr) (rc:Nat) (v:Value) (R:List Mr):Prop where
 bel:Below w.heap.size w wr
 hh:w.heap.size+1+1≤h
 a:BoxM wr w.heap.size (.int .i64 r) (.int .i64 c) (.slice ao n cap)
 res:BoxM wr (w.heap.size+1) (.int .i64 0) (.int .i64 0) (.slice none 0 0)
 rb:BoxM wr h (.int .i64 r) (.int .i64 c) (.slice ro n rc)
 bits:BitsAt wr ro rc (mxL S)
 new:NewB w.heap.size ro (mxL S)
 len:S.length = n
 l:OwnMt (w.heap.size+1+1) wr v R
 off:OffB v.ownBlock ro (mxL S)
theorem TrSt.all {w wr w':World} {h r c n cap:Nat} {ao:Option Addr} {S:List Nat} {ro:Option Addr} {rc:Nat} {v:Value} {R:List Mr} (t:TrSt w wr h r c n cap ao S ro rc v R) (hb:Below wr.heap.size wr w'):TrSt w w' h r c n cap ao S ro rc v R :=
 ⟨t.bel.trans (hb.mono t.bel.size),t.hh,t.a.all hb,t.res.all hb,t.rb.all hb,t.bits.below hb,t.new,t.len,t.l.below hb,t.off⟩
theorem TrSt.start {w w1:World} {r c n cap:Nat} {ao:Option Addr} {S:List Nat} {ro:Option Addr} {rc:Nat} (hB:Below w.heap.size w w1) (hA:BoxM w1 w.heap.size (.int .i64 r) (.int .i64 c) (.slice ao n cap)) (hR:BoxM w1 (w.heap.size+1) (.int .i64 0) (.int .i64 0) (.slice none 0 0)) (hS:BitsAt w1 ro rc (mxL S)) (hN:NewB w.heap.size ro (mxL S)) (hl:S.length = n) :
  TrSt w (w1.alloc (.cells #[.int .i64 r,.int .i64 c,.slice ro n rc] 24)) w1.heap.size r c n cap ao S ro rc (.slice none 0 0) []:=by
 have b:=below_alloc9 w1 (.cells #[.int .i64 r,.int .i64 c,.slice ro n rc] 24)
 exact ⟨hB.trans (b.mono hB.size),hR.lt,hA.all b,hR.all b,BoxM.new w1 _ _ _,hS.below b,hN,hl,OwnMt.start _ _,OffB.old hS (fun k hk=>by simp [Value.ownBlock] at hk)⟩
theorem mrAt_snoc2 (R:List Mr) (x:Mr):∀ k,k < R.length+1→mrAt (R ++ [x]) k = if k < R.length then mrAt R k else x:=by
 intro k hk
 unfold mrAt
 by_cases g:k < R.length
 ·rw [if_pos g,List.getElem?_append_left g]
 ·rw [if_neg g,show k = R.length by omega,List.getElem?_append_right (Nat.le_refl _)]
  simp
end Go.Proofs.YtnnfjeieennffaaGreatDoor
namespace Go.Proofs.YtnnfjeieennffaaGreatDoor
open Go.RowKit
attribute [local go_sem ↓] Go.wp_at_zero Go.wp_at_succ
def BoxR (w:World) (b:Nat) (x y:Value):Prop:=w.heap[b]? = some (.cells #[x,y] 105 (0,0))
theorem BoxR.c0 {w:World} {b:Nat} {x y:Value} (h:BoxR w b x y):w.cell? ⟨b,0,none⟩ = some x:=by rw [cell_of_row w b 0 _ _ _ h];rfl
theorem BoxR.c1 {w:World} {b:Nat} {x y:Value} (h:BoxR w b x y):w.cell? ⟨b,1,none⟩ = some y:=by rw [cell_of_row w b 1 _ _ _ h];rfl
theorem BoxR.free {w:World} {b:Nat} {x y:Value} (h:BoxR w b x y) (j:Nat):w.frozen? ⟨b,j,none⟩ = false:=frozen_of_row w b j _ _ h
theorem BoxR.lt {w:World} {b:Nat} {x y:Value} (h:BoxR w b x y):b < w.heap.size:=(Array.getElem?_eq_some_iff.1 h).1
theorem BoxR.below {w w':World} {b:Nat} {x y:Value} (h:BoxR w b x y) {B:Nat} (hb:Below B w w') (hlt:b < B):BoxR w' b x y:=(hb.block b hlt).trans h
theorem BoxR.new (w:World) (x y:Value):BoxR (w.alloc (.cells #[x,y] 105)) w.heap.size x y:=heap_alloc_new w _
theorem BoxR.all {w w':World} {b:Nat} {x y:Value} (h:BoxR w b x y) (hb:Below w.heap.size w w'):BoxR w' b x y:=h.below hb h.lt
theorem BoxR.other {w:World} {b:Nat} {x y:Value} (h:BoxR w b x y) {p:Addr} (hp:b ≠ p.block) (u:Value):BoxR (w.setCell p u) b x y:=(Below.heap_setCell w p u b hp).trans h
theorem BoxR.three {w:World} {b g:Nat} {x y:Value} (h:BoxR w b x y) (hg:b ≠ g) (u u' u'':Value):BoxR (((w.setCell ⟨g,0,none⟩ u).setCell ⟨g,1,none⟩ u').setCell ⟨g,2,none⟩ u'') b x y :=
 ((h.other (p:=⟨g,0,none⟩) hg _).other (p:=⟨g,1,none⟩) hg _).other (p:=⟨g,2,none⟩) hg _
theorem BoxR.put {w:World} {b:Nat} {x y:Value} (h:BoxR w b x y) (u u':Value):BoxR ((w.setCell ⟨b,0,none⟩ u).setCell ⟨b,1,none⟩ u') b u u':=by
 have h1:=heap_setCell_same w b 0 _ _ u h
 have h2:=heap_setCell_same (w.setCell ⟨b,0,none⟩ u) b 1 _ _ u' h1
 unfold BoxR
 rw [h2]
 simp
theorem BoxR.grown {w w':World} {b:Nat} {x y:Value} (h:BoxR w b x y) {o:Option Nat} (hg:w.grownBy w' o) (ho:o ≠ some b):BoxR w' b x y :=
 (hg.block b h.lt ho.symm).trans h
theorem BoxM.two16 {w:World} {b g:Nat} {x y z:Value} (h:BoxM w b x y z) (hg:b ≠ g) (u u':Value):BoxM ((w.setCell ⟨g,0,none⟩ u).setCell ⟨g,1,none⟩ u') b x y z :=
 (h.other (p:=⟨g,0,none⟩) hg _).other (p:=⟨g,1,none⟩) hg _
theorem RowB.two16 {w:World} {b g:Nat} {S:List Nat} (h:RowB w b S) (hg:b ≠ g) (u u':Value):RowB ((w.setCell ⟨g,0,none⟩ u).setCell ⟨g,1,none⟩ u') b S:=by
 unfold RowB
 rw [Below.heap_setCell _ ⟨g,1,none⟩ u' b hg,Below.heap_setCell _ ⟨g,0,none⟩ u b hg]
 exact h
theorem below_putR {w w':World} {B b:Nat} (h:Below B w w') (hb:B≤b) (u u':Value):Below B w ((w'.setCell ⟨b,0,none⟩ u).setCell ⟨b,1,none⟩ u') :=
 (h.setCell hb _).setCell hb _
theorem bits_putR {w:World} {g:Nat} {ao:Option Addr} {cap:Nat} {I:List Int} (h:BitsAt w ao cap I) (ho:OffB (some g) ao I) (u u':Value):BitsAt ((w.setCell ⟨g,0,none⟩ u).setCell ⟨g,1,none⟩ u') ao cap I :=
 bits_grownOff (bits_grownOff h ho (grown_set14 w g 0 u)) ho (grown_set14 _ g 1 u')
structure DwSt (w wr:World) (r c n cap:Nat) (ro:Option Addr) (S:List Nat):Prop where
 bel:Below w.heap.size w wr
 a:BoxM wr w.heap.size (.int .i64 r) (.int .i64 c) (.slice ro n cap)
 res:BoxM wr (w.heap.size+1) (.int .i64 0) (.int .i64 0) (.slice none 0 0)
 mi:BoxR wr (w.heap.size+1+1) (.slice none 0 0) (.int .u64 0)
 bits:BitsAt wr ro cap (mxL S)
theorem DwSt.all {w wr w':World} {r c n cap:Nat} {ro:Option Addr} {S:List Nat} (t:DwSt w wr r c n cap ro S) (hb:Below wr.heap.size wr w'):DwSt w w' r c n cap ro S :=
 ⟨t.bel.trans (hb.mono t.bel.size),t.a.all hb,t.res.all hb,t.mi.all hb,t.bits.below hb⟩
theorem DwSt.start {w:World} {r c n cap:Nat} {ro:Option Addr} {S:List Nat} (hS:BitsAt w ro cap (mxL S)):DwSt w (((w.alloc (.cells #[.int .i64 r,.int .i64 c,.slice ro n cap] 24)).alloc (.cells #[.int .i64 0,.int .i64 0,.slice none 0 0] 24)).alloc (.cells #[.slice none 0 0,.int .u64 0] 105)) r c n cap ro S:=by
 have b0:=below_alloc9 w (.cells #[.int .i64 r,.int .i64 c,.slice ro n cap] 24)
 have s0:=size_alloc9 w (.cells #[.int .i64 r,.int .i64 c,.slice ro n cap] 24)
 have x0:=BoxM.new w (.int .i64 r) (.int .i64 c) (.slice ro n cap)
 generalize w.alloc (.cells #[.int .i64 r,.int .i64 c,.slice ro n cap] 24) = w0 at *
 have b1:=below_alloc9 w0 (.cells #[.int .i64 0,.int .i64 0,.slice none 0 0] 24)
 have s1:=size_alloc9 w0 (.cells #[.int .i64 0,.int .i64 0,.slice none 0 0] 24)
 have x1:=BoxM.new w0 (.int .i64 0) (.int .i64 0) (.slice none 0 0)
 generalize w0.alloc (.cells #[.int .i64 0,.int .i64 0,.slice none 0 0] 24) = w1 at *
 have b2:=below_alloc9 w1 (.cells #[.slice none 0 0,.int .u64 0] 105)
 have x2:=BoxR.new w1 (.slice none 0 0) (.int .u64 0)
 rw [s0] at x1 s1
 rw [s1] at x2
 have c1:=b0.trans (b1.mono b0.size)
 exact ⟨c1.trans (b2.mono c1.size),(x0.all b1).all b2,x1.all b2,x2,((hS.below b0).below b1).below b2⟩
def DnAns (w w':World) (ok:Bool) (r c n L:Nat) (S V:List Nat) (tau:Nat) (e:Ending):Prop :=
 (ok = true∧∃ g vo vc,e = .returned (.tuple #[.agg #[.int .i64 r,.int .i64 c,.slice (some ⟨g,0,none⟩) n n],.agg #[.slice vo L vc,.int .u64 tau],.int .i64 0])∧w.heap.size≤g∧RowB w' g S∧NewB w.heap.size vo (mxL V)∧BitsAt w' vo vc (mxL V)∧OffB (some g) vo (mxL V)) ∨
 (ok = false∧e = .returned (.tuple #[.agg #[.int .i64 0,.int .i64 0,.slice none 0 0],.agg #[.slice none 0 0,.int .u64 0],.int .i64 2]))
theorem down_of (r c n cap j L tau beta:Nat) (ro:Option Addr) (S AP NX X V:List Nat) (ok:Bool) (w:World) (hr:r≤6) (hj:j < r) (hL:r - j = L) (hS:BitsAt w ro cap (mxL S))
  (C2:∀ w',BitsAt w' ro cap (mxL S)→Calls Tryz.prog 69 #[.agg #[.int .i64 r,.int .i64 c,.slice ro n cap],.int .i64 (j:Nat),.int .i64 (j:Nat),.int .i64 (L:Nat),.int .i64 1] w' fun e w''=>∃ bo d,e = .returned (.tuple #[.agg #[.int .i64 (L:Nat),.int .i64 1,.slice bo L d],.int .i64 0])∧BitsAt w'' bo d (mxL X)∧Below w'.heap.size w' w'')
  (C3:∀ w' bo d,ok = true→Below w.heap.size w w'→BitsAt w' bo d (mxL X)→Calls Tryz.prog 121 #[.slice bo L d] w' fun e w''=>∃ vo vc,e = .returned (.tuple #[.slice vo L vc,.int .u64 (tau:Nat),.int .u64 (beta:Nat),.int .i64 0])∧NewB w'.heap.size vo (mxL V)∧BitsAt w'' vo vc (mxL V)∧Below w'.heap.size w' w'')
  (C4:∀ w' bo d,ok = false→Below w.heap.size w w'→BitsAt w' bo d (mxL X)→Calls Tryz.prog 121 #[.slice bo L d] w' fun e w''=>∃ so cs er,e = .returned (.tuple #[.slice so 0 cs,.int .u64 0,.int .u64 0,.int .i64 er])∧(er = 2 ∨ er = 4)∧Below w'.heap.size w' w'')
  (C5:∀ w' vo vc,Below w.heap.size w w'→BitsAt w' ro cap (mxL S)→BitsAt w' vo vc (mxL V)→Calls Tryz.prog 76 #[.agg #[.int .i64 r,.int .i64 c,.slice ro n cap],.int .i64 (j:Nat),.int .i64 (j:Nat),.slice vo L vc,.int .u64 (tau:Nat)] w' fun e w''=>∃ g,e = .returned (.tuple #[.agg #[.int .i64 r,.int .i64 c,.slice (some ⟨g,0,none⟩) n n],.int .i64 0])∧w'.heap.size≤g∧RowB w'' g AP∧Below w'.heap.size w' w'')
  (C6:∀ w' g,RowB w' g AP→Calls Tryz.prog 122 #[.agg #[.int .i64 r,.int .i64 c,.slice (some ⟨g,0,none⟩) n n],.int .i64 (j:Nat),.int .u64 (beta:Nat)] w' fun e w''=>e = .returned (.tuple #[])∧RowB w'' g NX∧w'.grownBy w'' (some g)) :
  Calls Tryz.prog 74 #[.agg #[.int .i64 r,.int .i64 c,.slice ro n cap],.int .i64 (j:Nat)] w fun e w'=>DnAns w w' ok r c n L NX V tau e∧Below w.heap.size w w':=by
 have ST:=hide (DwSt.start (r:=r) (c:=c) (n:=n) hS)
 have K2:=hide (C2 _ (uH ST).bits);have K3:=hide C3;have K4:=hide C4;have K5:=hide C5;have K6:=hide C6
 have eL:IntKind.i64.wrap ((r:Int) - (j:Int)) = (L:Int):=(wrap_in _ (by omega)).trans (by omega)
 have eL2:(r:Int) - (j:Int) = (L:Int):=by omega
 have y0:=(uH ST).a.c0;have y1:=(uH ST).a.c1;have y2:=(uH ST).a.c2
 clear C2 C3 C4 C5 C6 hS hL
 go_enter Tryz.func74,Tryz.ntmps74
 go_wp2_with fail
 clear y0 y1 y2 eL eL2
 refine (uH K2).mono ?_
 rintro e w1 ⟨bo,d,rfl,hx,hb⟩
 have ba:=below_alloc9 w1 (.cells #[.int .i64 (L:Int),.int .i64 1,.slice bo L d] 24)
 have CB:=BoxM.new w1 (.int .i64 (L:Int)) (.int .i64 1) (.slice bo L d)
 replace ST:=hide (((uH ST).all hb).all ba)
 have HX:=hide (hx.below ba)
 have y2:=CB.c2
 clear hb hx ba K2 CB
 go_wp2_with fail
 clear y2
 cases ok with
 | false =>
  refine (uH K4 _ bo d rfl (uH ST).bel (uH HX)).mono ?_
  rintro e w2 ⟨so,cs,er,rfl,her,hb⟩
  have S3:=(uH ST).all hb
  have s0:=S3.res.c0;have s1:=S3.res.c1;have s2:=S3.res.c2
  have f0:=S3.res.free 0;have f1:=S3.res.free 1;have f2:=S3.res.free 2
  have Y1:=S3.res.put (.int .i64 0) (.int .i64 0) (.slice none 0 0)
  have M1:=S3.mi.three (g:=w.heap.size+1) (by omega) (.int .i64 0) (.int .i64 0) (.slice none 0 0)
  have s3:=M1.c0;have s4:=M1.c1
  have f3:=M1.free 0;have f4:=M1.free 1
  have Z1:=Y1.two16 (g:=w.heap.size+1+1) (by omega) (.slice none 0 0) (.int .u64 0)
  have Z2:=M1.put (.slice none 0 0) (.int .u64 0)
  have z0:=Z1.c0;have z1:=Z1.c1;have z2:=Z1.c2;have z3:=Z2.c0;have z4:=Z2.c1
  have BP:=hide (below_putR (below_putM S3.bel (b:=w.heap.size+1) (by omega) (.int .i64 0) (.int .i64 0) (.slice none 0 0)) (b:=w.heap.size+1+1) (by omega) (.slice none 0 0) (.int .u64 0))
  clear Y1 M1 Z1 Z2 S3 ST hb HX K3 K4 K5 K6
  rcases her with rfl | rfl
  all_goals
   go_wp2_with fail
   exact bodyPost_ret (v:=.tuple #[.agg #[.int .i64 0,.int .i64 0,.slice none 0 0],.agg #[.slice none 0 0,.int .u64 0],.int .i64 2]) (by simp [results,Tryz.results74,go_sem,z0,z1,z2,z3,z4]) rfl ⟨.inr ⟨rfl,rfl⟩,uH BP⟩
 | true =>
  refine (uH K3 _ bo d rfl (uH ST).bel (uH HX)).mono ?_
  rintro e w2 ⟨vo,vc,rfl,hn,hv,hb⟩
  have HZ:=hide ((uH ST).bel.size)
  have HM:=hide ((uH ST).mi.lt)
  have HNV:=hide hn
  replace ST:=hide ((uH ST).all hb)
  have HV:=hide hv
  clear hn hv hb HX K3 K4
  have q0:=(uH ST).a.c0;have q1:=(uH ST).a.c1;have q2:=(uH ST).a.c2
  go_wp2_with fail
  clear q0 q1 q2
  refine (uH K5 _ vo vc (uH ST).bel (uH ST).bits (uH HV)).mono ?_
  rintro e w3 ⟨g,rfl,hg,hrow,hb⟩
  have O4:=hide (OffB.old (uH HV) (g:=some g) (fun k hk=>by cases hk;exact hg))
  have HG:=hide (show w.heap.size+1+1 < g from Nat.lt_of_lt_of_le (uH ST).mi.lt hg)
  replace ST:=hide ((uH ST).all hb)
  have ba:=below_alloc9 w3 (.cells #[.int .i64 r,.int .i64 c,.slice (some ⟨g,0,none⟩) n n] 24)
  have NB:=hide (BoxM.new w3 (.int .i64 r) (.int .i64 c) (.slice (some ⟨g,0,none⟩) n n))
  have HGN:=hide (show g ≠ w3.heap.size from Nat.ne_of_lt hrow.lt)
  replace ST:=hide ((uH ST).all ba)
  have V4:=hide (((uH HV).below hb).below ba)
  have R4:=hide (hrow.below ba hrow.lt)
  have q0:=(uH NB).c0;have q1:=(uH NB).c1;have q2:=(uH NB).c2
  clear hb ba hrow hg K5 HV
  go_wp2_with fail
  clear q0 q1 q2
  refine (uH K6 _ g (uH R4)).mono ?_
  rintro e w4 ⟨rfl,hrow,hg4⟩
  have V5:=bits_grownOff (uH V4) (uH O4) hg4
  have N5:=(uH NB).grown hg4 (fun e=>by cases e;exact uH HGN rfl)
  have hgg:=uH HG
  have B5:Below w.heap.size w w4:=(uH ST).bel.grown hg4 (uH ST).bel.size (fun k hk=>by cases hk;omega)
  have X5:=(uH ST).res.grown hg4 (fun e=>by cases e;omega)
  have M5:=(uH ST).mi.grown hg4 (fun e=>by cases e;omega)
  have q0:=N5.c0;have q1:=N5.c1;have q2:=N5.c2
  have s0:=X5.c0;have s1:=X5.c1;have s2:=X5.c2
  have f0:=X5.free 0;have f1:=X5.free 1;have f2:=X5.free 2
  have Y1:=X5.put (.int .i64 r) (.int .i64 c) (.slice (some ⟨g,0,none⟩) n n)
  have M1:=M5.three (g:=w.heap.size+1) (by omega) (.int .i64 r) (.int .i64 c) (.slice (some ⟨g,0,none⟩) n n)
  have s3:=M1.c0;have s4:=M1.c1
  have f3:=M1.free 0;have f4:=M1.free 1
  have Z1:=Y1.two16 (g:=w.heap.size+1+1) (by omega) (.slice vo L vc) (.int .u64 tau)
  have Z2:=M1.put (.slice vo L vc) (.int .u64 tau)
  have z0:=Z1.c0;have z1:=Z1.c1;have z2:=Z1.c2;have z3:=Z2.c0;have z4:=Z2.c1
  have BP:=hide (below_putR (below_putM B5 (b:=w.heap.size+1) (by omega) (.int .i64 r) (.int .i64 c) (.slice (some ⟨g,0,none⟩) n n)) (b:=w.heap.size+1+1) (by omega) (.slice vo L vc) (.int .u64 tau))
  have RP:=hide ((hrow.three (g:=w.heap.size+1) (by omega) (.int .i64 r) (.int .i64 c) (.slice (some ⟨g,0,none⟩) n n)).two16 (g:=w.heap.size+1+1) (by omega) (.slice vo L vc) (.int .u64 tau))
  have OM:OffB (some (w.heap.size+1+1)) vo (mxL V):=by
   rcases uH HNV with e | ⟨b,off,rfl,hb2⟩
   ·exact .inl e
   ·exact .inr ⟨b,off,rfl,fun e=>by cases e;have:=uH HM;omega⟩
  have VP:=hide (bits_putR (V5.putM X5 (.int .i64 r) (.int .i64 c) (.slice (some ⟨g,0,none⟩) n n)) OM (.slice vo L vc) (.int .u64 tau))
  have HN:=hide ((uH HNV).least (uH HZ))
  clear Y1 M1 Z1 Z2 X5 M5 B5 N5 V5 hrow hg4 ST V4 R4 NB K6 OM HNV
  go_wp2_with fail
  exact bodyPost_ret (v:=.tuple #[.agg #[.int .i64 r,.int .i64 c,.slice (some ⟨g,0,none⟩) n n],.agg #[.slice vo L vc,.int .u64 tau],.int .i64 0]) (by simp [results,Tryz.results74,go_sem,z0,z1,z2,z3,z4]) rfl ⟨.inl ⟨rfl,g,vo,vc,rfl,by omega,uH RP,uH HN,uH VP,uH O4⟩,uH BP⟩
end Go.Proofs.YtnnfjeieennffaaGreatDoor
namespace Go.Proofs.YtnnfjeieennffaaGreatDoor
def pvN (r c:Nat) (S:List Nat) (j k:Nat):Nat:=nrV (colL c S j (r - j) k)
def gtA (r c:Nat) (S:List Nat) (j:Nat):Nat→Nat
 | 0=>j
 | t+1=>if cO (pvN r c S j (gtA r c S j t)) (pvN r c S j (j+t)) < 0 then j+t else gtA r c S j t
def gtK (r c:Nat) (S:List Nat) (j:Nat):Nat→Bool
 | 0=>true
 | t+1=>gtK r c S j t && fFin (pvN r c S j (j+t))
theorem gtA_ge (r c:Nat) (S:List Nat) (j:Nat):∀ t,j≤gtA r c S j t
 | 0=>Nat.le_refl _
 | t+1=>by
  show j≤if _ then _ else _
  split
  ·exact Nat.le_add_right _ _
  ·exact gtA_ge r c S j t
theorem gtA_lt (r c:Nat) (S:List Nat) (j:Nat):∀ t,0 < t→gtA r c S j t < j+t
 | 0,h=>absurd h (Nat.lt_irrefl 0)
 | t+1,_=>by
  show (if _ then _ else _) < _
  split
  ·exact Nat.lt_succ_self (j+t)
  ·rcases Nat.eq_zero_or_pos t with rfl | h
   ·exact Nat.lt_succ_self j
   ·exact Nat.lt_succ_of_lt (gtA_lt r c S j t h)
def pvA (r c:Nat) (S:List Nat) (j:Nat):Nat:=gtA r c S j (c - j)
def pvF (r c:Nat) (S:List Nat) (j:Nat):Bool:=gtK r c S j (c - j)
theorem pvA_ge (r c:Nat) (S:List Nat) (j:Nat):j≤pvA r c S j:=gtA_ge _ _ _ _ _
theorem pvA_lt (r c:Nat) (S:List Nat) {j:Nat} (h:j < c):pvA r c S j < c:=by
 have:=gtA_lt r c S j (c - j) (by omega)
 unfold pvA
 omega
def swL (l:List Nat) (i k:Nat):List Nat:=(l.set i (l.getD k 0)).set k (l.getD i 0)
theorem swL_len (l:List Nat) (i k:Nat):(swL l i k).length = l.length:=by unfold swL;rw [List.length_set,List.length_set]
theorem getD_set (l:List Nat) (i x k:Nat) (hi:i < l.length):(l.set i x).getD k 0 = if k = i then x else l.getD k 0:=by
 simp only [List.getD_eq_getElem?_getD,List.getElem?_set]
 by_cases h:i = k
 ·subst h;simp [hi]
 ·rw [if_neg h,if_neg (fun e=>h e.symm)]
theorem swL_at (l:List Nat) {i k:Nat} (hi:i < l.length) (hk:k < l.length) (q:Nat):(swL l i k).getD q 0 = if q = k then l.getD i 0 else if q = i then l.getD k 0 else l.getD q 0:=by
 unfold swL
 rw [getD_set _ _ _ _ (by rw [List.length_set];exact hk),getD_set _ _ _ _ hi]
def coL (r c:Nat) (S:List Nat) (L:List Nat):List Nat:=mkM r L.length (fun i k=>elM c S i (L.getD k 0))
theorem coL_len (r c:Nat) (S L:List Nat):(coL r c S L).length = r * L.length:=mkM_len _ _ _
theorem el_co (r c:Nat) (S L:List Nat) {p q:Nat} (hp:p < r) (hq:q < L.length):elM L.length (coL r c S L) p q = elM c S p (L.getD q 0):=el_mk r L.length _ hp hq
theorem range_at {n q:Nat} (h:q < n):(List.range n).getD q 0 = q:=by
 rw [List.getD_eq_getElem?_getD,List.getElem?_range h];rfl
def swM (r c:Nat) (S:List Nat) (j a:Nat):List Nat:=coL r c S (swL (List.range c) j a)
theorem sw_range_len (c j a:Nat):(swL (List.range c) j a).length = c:=by rw [swL_len,List.length_range]
theorem swM_len (r c:Nat) (S:List Nat) (j a:Nat):(swM r c S j a).length = r * c:=by unfold swM;rw [coL_len,sw_range_len]
def swI (j a q:Nat):Nat:=if q = a then j else if q = j then a else q
theorem el_sw (r c:Nat) (S:List Nat) {j a p q:Nat} (hj:j < c) (ha:a < c) (hp:p < r) (hq:q < c):elM c (swM r c S j a) p q = elM c S p (swI j a q):=by
 have e:=el_co r c S (swL (List.range c) j a) hp (q:=q) (by rw [sw_range_len];exact hq)
 rw [sw_range_len] at e
 unfold swM
 rw [e,swL_at _ (by rw [List.length_range];exact hj) (by rw [List.length_range];exact ha),range_at hj,range_at ha,range_at hq]
 rfl
def pvW (r c:Nat) (S:List Nat) (j:Nat):List Nat:=swM r c S j (pvA r c S j)
theorem pvW_len (r c:Nat) (S:List Nat) (j:Nat):(pvW r c S j).length = r * c:=swM_len _ _ _ _ _
def pvS (r c:Nat) (S:List Nat) (j:Nat):List Nat:=if j+1 < r then qrS r c (pvW r c S j) j else pvW r c S j
theorem pvS_len (r c:Nat) (S:List Nat) (j:Nat):(pvS r c S j).length = r * c:=by unfold pvS;split <;> first | exact qrS_len _ _ _ _ | exact pvW_len _ _ _ _
def pvR (r c:Nat) (S:List Nat):Nat→List Nat
 | 0=>S
 | j+1=>pvS r c (pvR r c S j) j
theorem pvR_len (r c:Nat) (S:List Nat) (h:S.length = r * c):∀ j,(pvR r c S j).length = r * c
 | 0=>h
 | _+1=>pvS_len _ _ _ _
def pvP (r c:Nat) (S:List Nat):Nat→List Nat
 | 0=>List.range c
 | j+1=>swL (pvP r c S j) j (pvA r c (pvR r c S j) j)
theorem pvP_len (r c:Nat) (S:List Nat):∀ j,(pvP r c S j).length = c
 | 0=>List.length_range
 | j+1=>by show (swL _ _ _).length = c;rw [swL_len,pvP_len r c S j]
def pvX (r c:Nat) (S:List Nat) (j:Nat):List Nat:=qxL r c (pvW r c (pvR r c S j) j) j
theorem pvX_len (r c:Nat) (S:List Nat) (j:Nat):(pvX r c S j).length = r - j:=qxL_len _ _ _ _
def pvO (r c:Nat) (S:List Nat) (j:Nat):Bool:=pvF r c S j && (decide (r≤j+1) || mrK (qxL r c (pvW r c S j) j))
def pvK (r c:Nat) (S:List Nat):Nat→Bool
 | 0=>true
 | j+1=>pvK r c S j && pvO r c (pvR r c S j) j
def upQ (r:Nat) (X:Nat→List Nat) (K:Nat):Nat→List Nat
 | 0=>eyM r
 | t+1=>apM r r (upQ r X K t) (K - 1 - t) 0 (mrV (X (K - 1 - t))) (mrT (X (K - 1 - t)))
theorem upQ_len (r:Nat) (X:Nat→List Nat) (K:Nat):∀ t,(upQ r X K t).length = r * r
 | 0=>show (eyM r).length = r * r from mkM_len r r _
 | _+1=>apM_len _ _ _ _ _ _ _
def pfQ (r c:Nat) (S:List Nat):List Nat:=upQ r (pvX r c S) (qrN r c) (qrN r c)
def pfR (r c:Nat) (S:List Nat):List Nat:=pvR r c S (min c r)
def pfP (r c:Nat) (S:List Nat):List Nat:=pvP r c S (min c r)
def pfK (r c:Nat) (S:List Nat):Bool:=pvK r c S (min c r) && (finL (pfQ r c S) && finL (pfR r c S))
theorem swL_perm (l:List Nat) {i k:Nat} (hi:i < l.length) (hk:k < l.length):(swL l i k).Perm l:=by
 rw [List.perm_iff_count]
 intro x
 unfold swL
 rw [List.count_set (by rw [List.length_set];exact hk),List.count_set hi]
 have e1:(l.set i (l.getD k 0))[k]'(by rw [List.length_set];exact hk) = l[k]:=by
  rw [List.getElem_set]
  split
  ·rename_i h;subst h;simp [List.getD_eq_getElem?_getD,hk]
  ·rfl
 rw [e1]
 have e2:l.getD k 0 = l[k]:=by simp [List.getD_eq_getElem?_getD,hk]
 have e3:l.getD i 0 = l[i]:=by simp [List.getD_eq_getElem?_getD,hi]
 rw [e2,e3]
 have p1:(l[i] == x) = true→0 < List.count x l:=fun h=>List.count_pos_iff.2 (by rw [← eq_of_beq h];exact List.getElem_mem hi)
 cases h1:(l[i] == x) <;> cases h2:(l[k] == x)
 ·simp
 ·simp
 ·simp
  have:=p1 h1;omega
 ·simp
  have:=p1 h1;omega
theorem pvP_perm (r c:Nat) (S:List Nat):∀ j,j≤c→(pvP r c S j).Perm (List.range c)
 | 0,_=>List.Perm.refl _
 | j+1,h=>(swL_perm _ (by rw [pvP_len];omega) (by rw [pvP_len];exact pvA_lt r c _ (by omega))).trans (pvP_perm r c S j (by omega))
end Go.Proofs.YtnnfjeieennffaaGreatDoor
