/- Part 31 of the texts. -/
import Derived.Test.YtfkndkaneffgdaaGreatDoorPartD25
import Derived.Test.YtfkndkaneffgdaaGreatDoorPartD30
import Derived.Test.YtfkndkaneffgdaaGreatDoorPartD28
import Derived.Test.YtfkndkaneffgdaaGreatDoorPartD24
import Derived.Test.YtfkndkaneffgdaaGreatDoorPartD26
import Derived.Test.YtfkndkaneffgdaaGreatDoorPartD23
import Derived.Test.YtfkndkaneffgdaaGreatDoorPartD21
import Derived.Test.YtfkndkaneffgdaaGreatDoorPartD19
import Derived.Test.YtfkndkaneffgdaaGreatDoorPartD22
import Derived.Test.YtfkndkaneffgdaaGreatDoorPartD20
import Derived.Test.YtfkndkaneffgdaaGreatDoorPartD17
import Derived.Test.YtfkndkaneffgdaaGreatDoorPartD13
import Derived.Test.YtfkndkaneffgdaaGreatDoorPartD14
import Derived.Test.YtfkndkaneffgdaaGreatDoorPartD12
import Derived.Test.YtfkndkaneffgdaaGreatDoorPartD11
import Derived.Deep.Cut
import Derived.BigQuiet
import Derived.Test.YtfkndkaneffgdaaGreatDoorPartD05
import Derived.Test.YtfkndkaneffgdaaGreatDoorPartD02
import Derived.Maps.AppendAt
import Derived.Test.YtfkndkaneffgdaaGreatDoorPartD08
import Derived.Lib.BitFns
import Derived.Test.YtfkndkaneffgdaaGreatDoorPartD07
import Derived.Test.YtfkndkaneffgdaaGreatDoorPartD06
import Derived.Test.YtfkndkaneffgdaaGreatDoorPartD01
import Derived.Test.YtfkndkaneffgdaaGreatDoorPartD29
import Derived.Maps.Own
import Derived.Maps.OwnOps
import Derived.Maps.OwnSet
import Derived.DeepKeys4
import Derived.Test.YtfkndkaneffgdaaGreatDoorPartD09
import Derived.WalkSmall
import Derived.OwnWalk
import Derived.Deep.AppendLies
import Derived.Laws.CopyOwn
namespace Go.Proofs.YtfkndkaneffgdaaGreatDoor
open Go.RowKit
attribute [local go_sem ↓] Go.wp_at_zero Go.wp_at_succ
theorem grown_trans14 {a w w':World} {o:Option Nat} (h:a.grownBy w o) (k:w.grownBy w' o):a.grownBy w' o :=
 ⟨k.os.trans h.os,k.tape.trans h.tape,k.output.trans h.output,Nat.le_trans h.size k.size,fun i hi hr=>(k.block i (Nat.lt_of_lt_of_le hi h.size) hr).trans (h.block i hi hr)⟩
theorem grown_below14 {w w':World} (h:Below w.heap.size w w') (o:Option Nat):w.grownBy w' o:=⟨h.os,h.tape,h.output,h.size,fun k hk _=>h.block k hk⟩
theorem grown_set14 (w:World) (g j:Nat) (v:Value):w.grownBy (w.setCell ⟨g,j,none⟩ v) (some g):=by
 have h:=(Below.refl w.heap.size w)
 refine ⟨rfl,rfl,rfl,?_,fun k _ hr=>Below.heap_setCell w ⟨g,j,none⟩ v k (fun e=>hr (by rw [e]))⟩
 simp [World.setCell]
structure SeSt (w wr:World) (g r c n:Nat) (S:List Nat):Prop where
 bel:w.grownBy wr (some g)
 a:BoxM wr w.heap.size (.int .i64 r) (.int .i64 c) (.slice (some ⟨g,0,none⟩) n n)
 row:RowB wr g S
theorem SeSt.start {w:World} {g n:Nat} {S:List Nat} (h:RowB w g S) (r c:Nat):SeSt w (w.alloc (.cells #[.int .i64 r,.int .i64 c,.slice (some ⟨g,0,none⟩) n n] 24)) g r c n S:=by
 have b:=below_alloc9 w (.cells #[.int .i64 r,.int .i64 c,.slice (some ⟨g,0,none⟩) n n] 24)
 exact ⟨grown_below14 b _,BoxM.new w _ _ _,h.below b h.lt⟩
theorem SeSt.set {w wr:World} {g r c n:Nat} {S:List Nat} (h:SeSt w wr g r c n S) (hg:g < w.heap.size) (p x:Nat):SeSt w (wr.setCell ⟨g,p,none⟩ (.int .u64 (x:Int))) g r c n (S.set p x) :=
 ⟨grown_trans14 h.bel (grown_set14 wr g p _),h.a.other (p:=⟨g,p,none⟩) (by show w.heap.size ≠ g;omega) _,h.row.set p x⟩
set_option maxRecDepth 20000 in
set_option maxHeartbeats 4000000 in
theorem settle_of (r c n j beta g p0:Nat) (S:List Nat) (T:Nat→List Nat) (P:Nat→Nat) (w:World) (h36:n≤36) (hr:r≤6) (hj:j < r) (h:RowB w g S) (lS:S.length = n) (lT:∀ i,(T i).length = n)
  (h0:j * c+j = p0∧p0 < n∧S.set p0 beta = T (j+1)) (hP:∀ i,j < i→i < r→i * c+j = P i∧P i < n∧(T i).set (P i) 0 = T (i+1)) :
  Calls Tryz.prog 44 #[.agg #[.int .i64 r,.int .i64 c,.slice (some ⟨g,0,none⟩) n n],.int .i64 j,.int .u64 beta] w fun e w'=>e = .returned (.tuple #[])∧RowB w' g (T r)∧w.grownBy w' (some g):=by
 have HG:=hide h.lt
 have ST:=hide (SeSt.start (n:=n) h r c)
 obtain ⟨q0,hq0⟩:∃ q,j * c = q:=⟨_,rfl⟩
 obtain ⟨e0,l0,s0⟩:=h0
 rw [hq0] at e0
 have HP:=hide hP;have LT:=hide lT
 have e1:IntKind.i64.wrap ((j:Int) * (c:Int)) = (q0:Int):=by
  rw [cast_mul10 j c,hq0]
  exact wrap_in _ (by omega)
 have e2:IntKind.i64.wrap ((q0:Int)+(j:Int)) = (p0:Int):=(wrap_in _ (by omega)).trans (by omega)
 have e3:(j:Int) * (c:Int) = (q0:Int):=by rw [cast_mul10 j c,hq0]
 have e4:(q0:Int)+(j:Int) = (p0:Int):=by omega
 have w1:IntKind.i64.wrap (q0:Int) = (q0:Int):=wrap_in _ (by omega)
 have w2:IntKind.i64.wrap (p0:Int) = (p0:Int):=wrap_in _ (by omega)
 obtain ⟨j1,hj1⟩:∃ j1,j+1 = j1:=⟨_,rfl⟩
 have e5:IntKind.i64.wrap ((j:Int)+1) = (j1:Int):=(wrap_in _ (by omega)).trans (by omega)
 have e6:(j:Int)+1 = (j1:Int):=by omega
 have hpI:(p0:Int) < (n:Int):=by omega
 have y0:=(uH ST).a.c0;have y1:=(uH ST).a.c1;have y2:=(uH ST).a.c2
 have d1:=(uH ST).row.cell p0 (by rw [lS];exact l0)
 have f1:=(uH ST).row.free p0
 have S1:=hide ((uH ST).set (uH HG) p0 beta)
 rw [s0,hj1] at S1
 have HJ1:=hide hj1
 clear hP lT h lS s0 hq0 l0 ST hj1
 go_enter Tryz.func44,Tryz.ntmps44
 go_wp2_with fail
 clear y0 y1 y2 d1 f1 e1 e2 e3 e4 e5 e6 w1 w2 hpI
 go_loopw [6] (fun a wr=>∃ i:Nat,j < i∧i≤r∧a = .int .i64 i∧Hid (SeSt w wr g r c n (T i))) (fun a _=>r - (intOf a).toNat)
 case atStart=>exact ⟨j1,by have:=uH HJ1;omega,by have:=uH HJ1;omega,by first | rfl | go_num,S1⟩
 case round =>
  clear S1
  obtain ⟨i,hji,hir,rfl,hS⟩:=hrel
  have y0:=(uH hS).a.c0
  by_cases hlt:i < r
  ·have hiI:(i:Int) < (r:Int):=by omega
   obtain ⟨e0,l0,s0⟩:=uH HP i hji hlt
   have y1:=(uH hS).a.c1;have y2:=(uH hS).a.c2
   obtain ⟨q,hq⟩:∃ q,i * c = q:=⟨_,rfl⟩
   rw [hq] at e0
   have e1:IntKind.i64.wrap ((i:Int) * (c:Int)) = (q:Int):=by
    rw [cast_mul10 i c,hq]
    exact wrap_in _ (by omega)
   have e2:IntKind.i64.wrap ((q:Int)+(j:Int)) = (P i:Int):=(wrap_in _ (by omega)).trans (by omega)
   have e3:(i:Int) * (c:Int) = (q:Int):=by rw [cast_mul10 i c,hq]
   have e4:(q:Int)+(j:Int) = (P i:Int):=by omega
   have w1:IntKind.i64.wrap (q:Int) = (q:Int):=wrap_in _ (by omega)
   have w2:IntKind.i64.wrap (P i:Int) = (P i:Int):=wrap_in _ (by omega)
   have hpI:(P i:Int) < (n:Int):=by omega
   have d1:=(uH hS).row.cell (P i) (by rw [uH LT];exact l0)
   have f1:=(uH hS).row.free (P i)
   have S2:=hide ((uH hS).set (uH HG) (P i) 0)
   rw [s0] at S2
   generalize P i = p at *
   clear hS s0 hq l0
   go_wp2_with fail
   go_round
   case rel=>exact ⟨i+1,by omega,by omega,by go_num,S2⟩
   case measure=>simp [intOf];omega
  ·have hii:i = r:=by omega
   subst hii
   go_wp2
   first | go_end0 | refine bodyPost_ret (results_none rfl _ _ _) rfl ?_
   exact ⟨rfl,(uH hS).row,(uH hS).bel⟩
theorem settle_any (r c j beta g:Nat) (S:List Nat) (w:World) (hr:r≤6) (hc:c≤6) (hj:j < r) (hjc:j < c) (lS:S.length = r * c) (h:RowB w g S) :
  Calls Tryz.prog 44 #[.agg #[.int .i64 r,.int .i64 c,.slice (some ⟨g,0,none⟩) S.length S.length],.int .i64 j,.int .u64 beta] w fun e w'=>e = .returned (.tuple #[])∧RowB w' g (clM r c S j beta)∧w.grownBy w' (some g):=by
 have h36:S.length≤36:=by
  rw [lS]
  exact Nat.mul_le_mul hr hc
 refine settle_of r c S.length j beta g (j * c+j) S (clJ r c S j beta) (fun i=>i * c+j) w h36 hr hj h rfl (fun i=>by rw [clJ_len,lS]) ⟨rfl,by rw [lS];exact place_lt hj hjc,clJ_first r c S beta lS hj hjc⟩ (fun i hji hir=>⟨rfl,by rw [lS];exact place_lt hir hjc,clJ_set r c S beta hji hir hjc⟩)
end Go.Proofs.YtfkndkaneffgdaaGreatDoor
namespace Go.Proofs.YtfkndkaneffgdaaGreatDoor
open Go.RowKit
attribute [local go_sem ↓] Go.wp_at_zero Go.wp_at_succ
def OffB (g:Option Nat) (ao:Option Addr) (I:List Int):Prop:=I = [] ∨ ∃ b off,ao = some ⟨b,off,none⟩∧some b ≠ g
theorem OffB.new {H:Nat} {ao:Option Addr} {I:List Int} (h:NewB H ao I) {g:Option Nat} (hg:∀ k,g = some k→k < H):OffB g ao I:=by
 rcases h with e | ⟨b,off,e1,e2⟩
 ·exact .inl e
 ·exact .inr ⟨b,off,e1,fun e=>by have:=hg b e.symm;omega⟩
theorem OffB.old {w:World} {ao:Option Addr} {c:Nat} {I:List Int} (h:BitsAt w ao c I) {g:Option Nat} (hg:∀ k,g = some k→w.heap.size≤k):OffB g ao I:=by
 rcases h.2.2 with e | ⟨b,off,e1,e2,_⟩
 ·exact .inl e
 ·exact .inr ⟨b,off,e1,fun e=>by have:=hg b e.symm;omega⟩
theorem bits_grownOff {w w':World} {ao:Option Addr} {c:Nat} {I:List Int} {g:Option Nat} (h:BitsAt w ao c I) (ha:OffB g ao I) (hg:w.grownBy w' g):BitsAt w' ao c I:=by
 refine ⟨h.1,h.2.1,?_⟩
 rcases h.2.2 with e | ⟨b,off,e,hb,hc⟩
 ·exact .inl e
 ·rcases ha with e' | ⟨b',off',e',hne⟩
  ·exact .inl e'
  ·rw [e] at e'
   simp only [Option.some.injEq,Addr.mk.injEq] at e'
   obtain ⟨rfl,rfl,_⟩:=e'
   refine .inr ⟨b,off,e,Nat.lt_of_lt_of_le hb hg.size,fun i hi=>?_⟩
   rw [World.cell?_of_block (a:=⟨b,off+i,none⟩) (hg.block b hb hne)]
   exact hc i hi
end Go.Proofs.YtfkndkaneffgdaaGreatDoor
namespace Go.Proofs.YtfkndkaneffgdaaGreatDoor
open Go.RowKit
attribute [local go_sem ↓] Go.wp_at_zero Go.wp_at_succ
set_option maxRecDepth 20000 in
set_option maxHeartbeats 2000000 in
theorem psub_any (a b:Nat) (w:World) (ha:a < 18446744073709551616) (hb:b < 18446744073709551616) (hT:Tab w) :
  Calls Tryz.prog 73 #[.int .u64 a,.int .u64 b] w fun r w'=>r = .returned (.int .u64 (aV a (fN b):Nat))∧Below w.heap.size w w':=by
 have K:=hide (ssub_any a b w ha hb hT)
 clear ha hb hT
 generalize aV a (fN b) = o at *
 generalize aF a (fN b) = f at *
 go_enter Tryz.func73,Tryz.ntmps73
 go_wp2_with fail
 refine Calls.mono (uH K) ?_
 rintro e w1 ⟨rfl,hb1⟩
 clear K
 go_wp2
 go_ret
 exact ⟨rfl,hb1⟩
set_option maxRecDepth 20000 in
set_option maxHeartbeats 2000000 in
theorem pdiv_any (a b:Nat) (w:World) (ha:a < 18446744073709551616) (hb:b < 18446744073709551616) (hT:Tab w) :
  Calls Tryz.prog 75 #[.int .u64 a,.int .u64 b] w fun r w'=>r = .returned (.int .u64 (dV a b:Nat))∧Below w.heap.size w w':=by
 have K:=hide (tdiv_any a b w ha hb hT)
 clear ha hb hT
 generalize dV a b = o at *
 generalize dF a b = f at *
 go_enter Tryz.func75,Tryz.ntmps75
 go_wp2_with fail
 refine Calls.mono (uH K) ?_
 rintro e w1 ⟨rfl,hb1⟩
 clear K
 go_wp2
 go_ret
 exact ⟨rfl,hb1⟩
end Go.Proofs.YtfkndkaneffgdaaGreatDoor
namespace Go.Proofs.YtfkndkaneffgdaaGreatDoor
open Go.RowKit
attribute [local go_sem ↓] Go.wp_at_zero Go.wp_at_succ
theorem RowB.three {w:World} {b g:Nat} {S:List Nat} (h:RowB w b S) (hg:b ≠ g) (u u' u'':Value):RowB (((w.setCell ⟨g,0,none⟩ u).setCell ⟨g,1,none⟩ u').setCell ⟨g,2,none⟩ u'') b S:=by
 unfold RowB
 rw [Below.heap_setCell _ ⟨g,2,none⟩ u'' b hg,Below.heap_setCell _ ⟨g,1,none⟩ u' b hg,Below.heap_setCell _ ⟨g,0,none⟩ u b hg]
 exact h
theorem copy_run (W:World) (g n cap:Nat) (ao:Option Addr) (S:List Nat) (h:RowB W g (List.replicate n 0)) (hS:BitsAt W ao cap (mxL S)) (hl:S.length = n) :
  ∃ w',(∀ ty,(Builtin.copy_ #[22,22] ty #[.slice (some ⟨g,0,none⟩) n n,.slice ao n cap]).run Tryz.prog W = .ok (.int .i64 (n:Int)) w')∧RowB w' g S∧Below g W w':=by
 rcases Nat.eq_zero_or_pos n with e | e
 ·subst e
  obtain rfl:S = []:=List.eq_nil_of_length_eq_zero hl
  exact ⟨W,fun ty=>run_copy_none W _ _ ty 30 _ _ 0 0 0 cap Tryz.underlying22 (by kernel_rfl) rfl,h,Below.refl _ _⟩
 ·obtain ⟨b,off,rfl,hb,hc⟩:=hS.ne (by rw [mxL_len];omega)
  have hcs:∀ j v,(S.map bitV)[j]? = some v→W.cell? ((⟨b,off,none⟩:Addr).add j) = some v:=by
   intro j v hv
   rw [List.getElem?_map] at hv
   obtain ⟨x,hx,rfl⟩:=Option.map_eq_some_iff.1 hv
   have hj:j < S.length:=(List.getElem?_eq_some_iff.1 hx).1
   have:=hc j (by rw [mxL_len];exact hj)
   rw [mxL_at] at this
   rw [show (⟨b,off,none⟩:Addr).add j = ⟨b,off+j,none⟩ from by simp [Addr.add],this]
   rw [List.getD_eq_getElem?_getD,hx]
   rfl
  have hlen:(S.map bitV).length = n:=by rw [List.length_map,hl]
  have run:=fun ty=>run_copy_row Tryz.prog W 22 22 ty 30 g 0 n n ⟨b,off,none⟩ n cap ((List.replicate n 0).map bitV).toArray 30 (S.map bitV) Tryz.underlying22 (by kernel_rfl) h (by rw [hlen];exact (Nat.min_self n).symm) hcs (by rw [hlen];simp) (fun v hv=>by obtain ⟨x,_,rfl⟩:=List.mem_map.1 hv;rfl)
  refine ⟨_,fun ty=>(run ty).trans (by rw [hlen];rfl),?_,below_setRow (Below.refl _ _) (Nat.le_refl _) _⟩
  unfold RowB
  rw [setRow_heap W g _ _ 30 _ h]
  congr 3
  simp
end Go.Proofs.YtfkndkaneffgdaaGreatDoor
namespace Go.Proofs.YtfkndkaneffgdaaGreatDoor
open Go.RowKit
attribute [local go_sem ↓] Go.wp_at_zero Go.wp_at_succ
theorem BoxM.three14 {w:World} {b g:Nat} {x y z:Value} (h:BoxM w b x y z) (hg:b ≠ g) (u u' u'':Value):BoxM (((w.setCell ⟨g,0,none⟩ u).setCell ⟨g,1,none⟩ u').setCell ⟨g,2,none⟩ u'') b x y z :=
 ((h.other (p:=⟨g,0,none⟩) hg _).other (p:=⟨g,1,none⟩) hg _).other (p:=⟨g,2,none⟩) hg _
structure TrSt (w wr:World) (h r c n cap:Nat) (ao:Option Addr) (S:List Nat) (ro:Option Addr) (rc:Nat) (v:Value) (R:List Mr):Prop where
 bel:Below w.heap.size w wr
 hh:w.heap.size+1+1≤h
 a:BoxM wr w.heap.size (.int .i64 r) (.int .i64 c) (.slice ao n cap)
 res:BoxM wr (w.heap.size+1) (.int .i64 0) (.int .i64 0) (.slice none 0 0)
 rb:BoxM wr h (.int .i64 r) (.int .i64 c) (.slice ro n rc)
 bits:BitsAt wr ro rc (mxL S)
 new:NewB w.heap.size ro (mxL S)
 len:S.length = n
 l:OwnMt (w.heap.size+1+1) wr v R
 off:OffB v.ownBlock ro (mxL S)
theorem TrSt.all {w wr w':World} {h r c n cap:Nat} {ao:Option Addr} {S:List Nat} {ro:Option Addr} {rc:Nat} {v:Value} {R:List Mr} (t:TrSt w wr h r c n cap ao S ro rc v R) (hb:Below wr.heap.size wr w'):TrSt w w' h r c n cap ao S ro rc v R :=
 ⟨t.bel.trans (hb.mono t.bel.size),t.hh,t.a.all hb,t.res.all hb,t.rb.all hb,t.bits.below hb,t.new,t.len,t.l.below hb,t.off⟩
theorem TrSt.start {w w1:World} {r c n cap:Nat} {ao:Option Addr} {S:List Nat} {ro:Option Addr} {rc:Nat} (hB:Below w.heap.size w w1) (hA:BoxM w1 w.heap.size (.int .i64 r) (.int .i64 c) (.slice ao n cap)) (hR:BoxM w1 (w.heap.size+1) (.int .i64 0) (.int .i64 0) (.slice none 0 0)) (hS:BitsAt w1 ro rc (mxL S)) (hN:NewB w.heap.size ro (mxL S)) (hl:S.length = n) :
  TrSt w (w1.alloc (.cells #[.int .i64 r,.int .i64 c,.slice ro n rc] 24)) w1.heap.size r c n cap ao S ro rc (.slice none 0 0) []:=by
 have b:=below_alloc9 w1 (.cells #[.int .i64 r,.int .i64 c,.slice ro n rc] 24)
 exact ⟨hB.trans (b.mono hB.size),hR.lt,hA.all b,hR.all b,BoxM.new w1 _ _ _,hS.below b,hN,hl,OwnMt.start _ _,OffB.old hS (fun k hk=>by simp [Value.ownBlock] at hk)⟩
structure TsSt (w wr:World) (h r c n cap:Nat) (ao:Option Addr) (S:List Nat) (g:Nat) (v:Value) (R:List Mr):Prop where
 st:TrSt w wr h r c n cap ao S (some ⟨g,0,none⟩) n v R
 row:RowB wr g S
 hg:w.heap.size+1+1≤g
 ne:h ≠ g
 nv:v.ownBlock ≠ some g
 av:∀ x ∈ R,AvM (some g) x
theorem TrSt.applied {w wr w':World} {h r c n cap:Nat} {ao:Option Addr} {S U:List Nat} {ro:Option Addr} {rc g:Nat} {v:Value} {R:List Mr} (t:TrSt w wr h r c n cap ao S ro rc v R) (hb:Below wr.heap.size wr w') (hg:wr.heap.size≤g) (hU:RowB w' g U) (hf:∀ x ∈ U,x < 18446744073709551616) (hl:U.length = n) :
  TsSt w (((w'.setCell ⟨h,0,none⟩ (.int .i64 r)).setCell ⟨h,1,none⟩ (.int .i64 c)).setCell ⟨h,2,none⟩ (.slice (some ⟨g,0,none⟩) n n)) h r c n cap ao U g v R:=by
 have t2:=t.all hb
 have hlt:=t.rb.lt
 have hh:=t.hh
 have n0:w.heap.size ≠ h:=by omega
 have n1:w.heap.size+1 ≠ h:=by omega
 have ng:g ≠ h:=by omega
 have hbits:=hU.bits hf
 rw [hl] at hbits
 obtain ⟨nv,av⟩:=t.l.away hg
 have q:BitsAt w' (some ⟨g,0,none⟩) n (mxL U):=hbits
 refine ⟨⟨below_putM t2.bel (by omega) _ _ _,hh,t2.a.three14 n0 _ _ _,t2.res.three14 n1 _ _ _,t2.rb.put _ _ _,q.putM t2.rb _ _ _,.inr ⟨g,0,rfl,by omega⟩,hl,t2.l.putQ t2.rb _ _ _,?_⟩,hU.three ng _ _ _,by omega,by omega,nv,av⟩
 exact .inr ⟨g,0,rfl,fun e=>nv e.symm⟩
theorem TsSt.settled {w wr w':World} {h r c n cap:Nat} {ao:Option Addr} {S U:List Nat} {g:Nat} {v:Value} {R:List Mr} (t:TsSt w wr h r c n cap ao S g v R) (hb:wr.grownBy w' (some g)) (hU:RowB w' g U) (hf:∀ x ∈ U,x < 18446744073709551616) (hl:U.length = n) :
  TrSt w w' h r c n cap ao U (some ⟨g,0,none⟩) n v R:=by
 have hg:=t.hg
 have hne:=t.ne
 have hbits:=hU.bits hf
 rw [hl] at hbits
 refine ⟨t.st.bel.grown hb t.st.bel.size (fun k hk=>by cases hk;omega),t.st.hh,t.st.a.grown hb (by intro e;cases e;omega),t.st.res.grown hb (by intro e;cases e;omega),t.st.rb.grown hb (by intro e;cases e;exact hne rfl),hbits,.inr ⟨g,0,rfl,by omega⟩,hl,t.st.l.grown t.nv t.av hb,.inr ⟨g,0,rfl,fun e=>t.nv e.symm⟩⟩
theorem TrSt.push {w wr:World} {h r c n cap:Nat} {ao:Option Addr} {S:List Nat} {ro:Option Addr} {rc:Nat} {v:Value} {R:List Mr} (t:TrSt w wr h r c n cap ao S ro rc v R) (x:Mr) (hx:BitsAt wr x.ao x.cap (mxL x.V)) (ha:OffB v.ownBlock x.ao (mxL x.V)) (hl:R.length≤1000000) (hv:v.ownBlock ≠ some h) (ty:TypeId) :
  ∃ v' w',(Builtin.append_ #[43,43] ty #[v,.slice (some ⟨wr.heap.size,0,none⟩) 1 1]).run Tryz.prog (wr.alloc (.cells #[.slice x.ao x.V.length x.cap,.int .u64 (x.tau:Nat)] 71)) = .ok v' w'∧TrSt w w' h r c n cap ao S ro rc v' (R ++ [x])∧v'.ownBlock ≠ some h:=by
 have hlt:=t.rb.lt
 have hh:=t.hh
 obtain ⟨v',w',e1,e2,e3,e4,e5⟩:=t.l.push x hx (by
  rcases ha with e | e
  ·exact .inl (by cases hV:x.V with
    | nil=>rfl
    | cons y ys=>rw [hV] at e;cases e)
  ·exact .inr e) hl (by omega) ty
 have b1:=below_alloc9 wr (.cells #[.slice x.ao x.V.length x.cap,.int .u64 (x.tau:Nat)] 71)
 have t1:=t.all b1
 refine ⟨v',w',e1,⟨t.bel.trans (e3.mono (by omega)),hh,t.a.below e3 (by omega),t.res.below e3 (by omega),t1.rb.grown e4 hv,bits_grownOff t1.bits t.off e4,t.new,t.len,e2,?_⟩,?_⟩
 ·rcases e5 with e | e
  ·rw [e];exact t.off
  ·rw [e]
   rcases t.bits.2.2 with z | ⟨b,off,z1,z2,_⟩
   ·exact .inl z
   ·exact .inr ⟨b,off,z1,fun z=>by cases z;omega⟩
 ·rcases e5 with e | e
  ·rw [e];exact hv
  ·rw [e];intro z;cases z;omega
theorem mrAt_snoc2 (R:List Mr) (x:Mr):∀ k,k < R.length+1→mrAt (R ++ [x]) k = if k < R.length then mrAt R k else x:=by
 intro k hk
 unfold mrAt
 by_cases g:k < R.length
 ·rw [if_pos g,List.getElem?_append_left g]
 ·rw [if_neg g,show k = R.length by omega,List.getElem?_append_right (Nat.le_refl _)]
  simp
def TriAns (w w':World) (ok:Bool) (r c n K:Nat) (S:List Nat) (V:Nat→List Nat) (tau:Nat→Nat) (e:Ending):Prop :=
 (ok = true∧∃ ro rc v R,e = .returned (.tuple #[.agg #[.int .i64 r,.int .i64 c,.slice ro n rc],v,.int .i64 0])∧NewB w.heap.size ro (mxL S)∧BitsAt w' ro rc (mxL S)∧OwnMt (w.heap.size+1+1) w' v R∧R.length = K∧∀ k,k < K→(mrAt R k).V = V k∧(mrAt R k).tau = tau k) ∨
 (ok = false∧e = .returned (.tuple #[.agg #[.int .i64 0,.int .i64 0,.slice none 0 0],.slice none 0 0,.int .i64 2]))
set_option maxRecDepth 20000 in
set_option maxHeartbeats 16000000 in
theorem triangle_of (r c n cap K:Nat) (m:Int) (ao:Option Addr) (RJ AP X V:Nat→List Nat) (tau beta:Nat→Nat) (o:Nat→Bool) (ok:Bool) (w:World) (hr:r≤6) (hc:c≤6) (hm:m = min (c:Int) ((r:Int) - 1)) (hK:∀ j:Nat,j < K ↔ (j:Int) < m)
  (lR:∀ j,(RJ j).length = n) (lA:∀ j,(AP j).length = n) (lV:∀ j,(V j).length = r - j) (hf:∀ j,j < K→∀ x ∈ RJ (j+1),x < 18446744073709551616) (hfa:∀ j,j < K→∀ x ∈ AP j,x < 18446744073709551616)
  (hok:ok = true ↔ ∀ j,j < K→o j = true)
  (C1:∀ w',Below w.heap.size w w'→Calls Tryz.prog 31 #[.agg #[.int .i64 r,.int .i64 c,.slice ao n cap],.int .i64 0,.int .i64 0,.int .i64 r,.int .i64 c] w' fun e w''=>∃ po pc,e = .returned (.tuple #[.agg #[.int .i64 r,.int .i64 c,.slice po n pc],.int .i64 0])∧NewB w'.heap.size po (mxL (RJ 0))∧BitsAt w'' po pc (mxL (RJ 0))∧Below w'.heap.size w' w'')
  (C2:∀ w' j po pc,j < K→BitsAt w' po pc (mxL (RJ j))→Calls Tryz.prog 31 #[.agg #[.int .i64 r,.int .i64 c,.slice po n pc],.int .i64 (j:Nat),.int .i64 (j:Nat),.int .i64 ((r - j:Nat):Int),.int .i64 1] w' fun e w''=>∃ bo d,e = .returned (.tuple #[.agg #[.int .i64 ((r - j:Nat):Int),.int .i64 1,.slice bo (r - j) d],.int .i64 0])∧BitsAt w'' bo d (mxL (X j))∧Below w'.heap.size w' w'')
  (C3:∀ w' j bo d,j < K→o j = true→Below w.heap.size w w'→BitsAt w' bo d (mxL (X j))→Calls Tryz.prog 42 #[.slice bo (r - j) d] w' fun e w''=>∃ vo vc,e = .returned (.tuple #[.slice vo (r - j) vc,.int .u64 (tau j:Nat),.int .u64 (beta j:Nat),.int .i64 0])∧NewB w'.heap.size vo (mxL (V j))∧BitsAt w'' vo vc (mxL (V j))∧Below w'.heap.size w' w'')
  (C4:∀ w' j bo d,j < K→o j = false→Below w.heap.size w w'→BitsAt w' bo d (mxL (X j))→Calls Tryz.prog 42 #[.slice bo (r - j) d] w' fun e w''=>∃ so cs er,e = .returned (.tuple #[.slice so 0 cs,.int .u64 0,.int .u64 0,.int .i64 er])∧(er = 2 ∨ er = 4)∧Below w'.heap.size w' w'')
  (C5:∀ w' j po pc vo vc,j < K→Below w.heap.size w w'→BitsAt w' po pc (mxL (RJ j))→BitsAt w' vo vc (mxL (V j))→Calls Tryz.prog 43 #[.agg #[.int .i64 r,.int .i64 c,.slice po n pc],.int .i64 (j:Nat),.int .i64 (j:Nat),.slice vo (r - j) vc,.int .u64 (tau j:Nat)] w' fun e w''=>∃ g,e = .returned (.tuple #[.agg #[.int .i64 r,.int .i64 c,.slice (some ⟨g,0,none⟩) n n],.int .i64 0])∧w'.heap.size≤g∧RowB w'' g (AP j)∧Below w'.heap.size w' w'')
  (C6:∀ w' j g,j < K→RowB w' g (AP j)→Calls Tryz.prog 44 #[.agg #[.int .i64 r,.int .i64 c,.slice (some ⟨g,0,none⟩) n n],.int .i64 (j:Nat),.int .u64 (beta j:Nat)] w' fun e w''=>e = .returned (.tuple #[])∧RowB w'' g (RJ (j+1))∧w'.grownBy w'' (some g)) :
  Calls Tryz.prog 22 #[.agg #[.int .i64 r,.int .i64 c,.slice ao n cap]] w fun e w'=>TriAns w w' ok r c n K (RJ K) V tau e∧Below w.heap.size w w':=by
 have hmin:∀ (W:World) ts t,(Builtin.min_ ts t #[.int .i64 (c:Int),.int .i64 ((r:Int) - 1)]).run Tryz.prog W = .ok (.int .i64 m) W:=fun W ts t=>by rw [hm];exact min2_run _ W ts t _ _
 have hw1:IntKind.i64.wrap ((r:Int) - 1) = (r:Int) - 1:=wrap_in _ (by omega)
 have hK6:K≤6:=by
  rcases Nat.lt_or_ge 6 K with g | g
  ·have:=(hK 6).1 g
   omega
  ·exact g
 have HKR:=hide (show ∀ j,j < K→j < r from fun j hj=>by have:=(hK j).1 hj;omega)
 have HK:=hide hK;have LR:=hide lR;have LA:=hide lA;have LV:=hide lV;have HF:=hide hf;have HFA:=hide hfa;have HOK:=hide hok
 have K1:=hide (C1 ((w.alloc (.cells #[.int .i64 r,.int .i64 c,.slice ao n cap] 24)).alloc (.cells #[.int .i64 0,.int .i64 0,.slice none 0 0] 24)) (by
  have b1:=below_alloc9 w (.cells #[.int .i64 r,.int .i64 c,.slice ao n cap] 24)
  have b2:=below_alloc9 (w.alloc (.cells #[.int .i64 r,.int .i64 c,.slice ao n cap] 24)) (.cells #[.int .i64 0,.int .i64 0,.slice none 0 0] 24)
  exact b1.trans (b2.mono b1.size)))
 simp only [size_alloc9] at K1
 have KB:=hide (boxes2 w (.int .i64 r) (.int .i64 c) (.slice ao n cap) (.int .i64 0) (.int .i64 0) (.slice none 0 0))
 have K2:=hide C2;have K3:=hide C3;have K4:=hide C4;have K5:=hide C5;have K6:=hide C6
 clear hm hK lR lA lV hf hfa hok C1 C2 C3 C4 C5 C6
 go_enter Tryz.func22,Tryz.ntmps22
 go_wp2_with fail
 refine (uH K1).mono ?_
 rintro e w1 ⟨po,pc,rfl,hn,hq,hb1⟩
 obtain ⟨hB,hA,hX⟩:=uH KB w1 hb1
 have ST:=hide (TrSt.start hB hA hX hq (hn.least (by omega)) (uH LR 0))
 have y0:=(uH ST).a.c0;have y1:=(uH ST).a.c1
 clear K1 KB hb1 hB hA hX hn hq
 go_wp2_with fail
 clear y0 y1 hmin hw1
 generalize w1.heap.size = h at *
 go_loopw [7,30] (fun v a wr=>∃ (j:Nat) (ro:Option Addr) (rc:Nat) (R:List Mr),j≤K∧a = .int .i64 j∧Hid (R.length = j)∧Hid (∀ k,k < j→(mrAt R k).V = V k∧(mrAt R k).tau = tau k)∧Hid (∀ k,k < j→o k = true)∧Hid (v.ownBlock ≠ some h)∧Hid (TrSt w wr h r c n cap ao (RJ j) ro rc v R)) (fun _ a _=>K - (intOf a).toNat)
 case atStart=>exact ⟨0,po,pc,[],Nat.zero_le _,rfl,rfl,fun k hk=>absurd hk (Nat.not_lt_zero k),fun k hk=>absurd hk (Nat.not_lt_zero k),hide (by simp [Value.ownBlock]),ST⟩
 case round =>
  clear ST
  obtain ⟨j,ro,rc,R,hjK,rfl,hRl,hRm,hO,hV,hS⟩:=hrel
  by_cases hlt:j < K
  ·have hjm:=(uH HK j).1 hlt
   have hjr:=uH HKR j hlt
   obtain ⟨L,hL⟩:∃ L,r - j = L:=⟨_,rfl⟩
   have eL:IntKind.i64.wrap ((r:Int) - (j:Int)) = (L:Int):=(wrap_in _ (by omega)).trans (by omega)
   have eL2:(r:Int) - (j:Int) = (L:Int):=by omega
   have G2:=hide (uH K2 wr j ro rc hlt (uH hS).bits)
   have G3:=hide (fun w' bo d ho=>uH K3 w' j bo d hlt ho)
   have G4:=hide (fun w' bo d ho=>uH K4 w' j bo d hlt ho)
   have G5:=hide (fun w' po pc vo vc=>uH K5 w' j po pc vo vc hlt)
   have G6:=hide (fun w' g=>uH K6 w' j g hlt)
   have LV1:=hide (uH LV j);have LA1:=hide (uH LA j);have LR1:=hide (uH LR (j+1));have HF1:=hide (uH HF j hlt);have HFA1:=hide (uH HFA j hlt)
   rw [hL] at G2 G3 G4 G5 LV1
   have q0:=(uH hS).rb.c0;have q1:=(uH hS).rb.c1;have q2:=(uH hS).rb.c2
   go_wp2_with fail
   clear q0 q1 q2
   refine (uH G2).mono ?_
   rintro e w2 ⟨bo,d,rfl,hx,hb⟩
   have ba:=below_alloc9 w2 (.cells #[.int .i64 (L:Int),.int .i64 1,.slice bo L d] 24)
   have S2:=hide (((uH hS).all hb).all ba)
   have HX:=hide (hx.below ba)
   clear hb hx ba hS G2
   go_wp2_with fail
   cases ho:o j with
   | false =>
    refine (uH G4 _ bo d ho (uH S2).bel (uH HX)).mono ?_
    rintro e w3 ⟨so,cs,er,rfl,her,hb⟩
    have S3:=(uH S2).all hb
    have hno:Hid (ok = false):=hide (by
     cases hk:ok with
     | false=>rfl
     | true=>exact absurd ((uH HOK).1 hk j hlt) (by rw [ho];decide))
    have s0:=S3.res.c0;have s1:=S3.res.c1;have s2:=S3.res.c2
    have f0:=S3.res.free 0;have f1:=S3.res.free 1;have f2:=S3.res.free 2
    have XP:=S3.res.put (.int .i64 0) (.int .i64 0) (.slice none 0 0)
    have z0:=XP.c0;have z1:=XP.c1;have z2:=XP.c2
    have BP:=hide (below_putM S3.bel (b:=w.heap.size+1) (by omega) (.int .i64 0) (.int .i64 0) (.slice none 0 0))
    clear XP S3 S2 hb HX G3 G4 G5 G6
    rcases her with rfl | rfl
    all_goals
     go_wp2_with fail
     exact bodyPost_ret (v:=.tuple #[.agg #[.int .i64 0,.int .i64 0,.slice none 0 0],.slice none 0 0,.int .i64 2]) (by simp [results,Tryz.results22,go_sem,z0,z1,z2]) rfl ⟨.inr ⟨uH hno,rfl⟩,uH BP⟩
   | true =>
    refine (uH G3 _ bo d ho (uH S2).bel (uH HX)).mono ?_
    rintro e w3 ⟨vo,vc,rfl,hn,hv,hb⟩
    have HOF:=hide (OffB.new hn (fun k hk=>((uH S2).l.1.lt k hk).2))
    have S3:=hide ((uH S2).all hb)
    have HV:=hide hv
    clear hn hv hb S2 HX G3 G4
    generalize hTJ:tau j = tj at *
    generalize hBJ:beta j = bj at *
    generalize hVJ:V j = vj at *
    generalize hAJ:AP j = aj at *
    generalize hNJ:RJ (j+1) = nj at *
    generalize hRJ:RJ j = rj at *
    have q0:=(uH S3).rb.c0;have q1:=(uH S3).rb.c1;have q2:=(uH S3).rb.c2
    go_wp2_with fail
    clear q0 q1 q2
    refine (uH G5 _ ro rc vo vc (uH S3).bel (uH S3).bits (uH HV)).mono ?_
    rintro e w4 ⟨g,rfl,hg,hrow,hb⟩
    have T4:=(uH S3).applied hb hg hrow (uH HFA1) (uH LA1)
    have S4:=(uH S3).all hb
    have V4:=hide (((uH HV).below hb).putM S4.rb (.int .i64 r) (.int .i64 c) (.slice (some ⟨g,0,none⟩) n n))
    have O4:=hide (OffB.old (uH HV) (g:=some g) (fun k hk=>by cases hk;exact hg))
    have q0:=S4.rb.c0;have q1:=S4.rb.c1;have q2:=S4.rb.c2
    have f0:=S4.rb.free 0;have f1:=S4.rb.free 1;have f2:=S4.rb.free 2
    have z0:=T4.st.rb.c0;have z1:=T4.st.rb.c1;have z2:=T4.st.rb.c2
    have P4:=hide T4
    clear T4 S4 hg hrow hb S3 HV G5
    go_wp2_with fail
    clear q0 q1 q2 f0 f1 f2 z0 z1 z2
    refine (uH G6 _ g (uH P4).row).mono ?_
    rintro e w5 ⟨rfl,hrow,hb⟩
    have S5:=(uH P4).settled hb hrow (uH HF1) (uH LR1)
    have V5:=bits_grownOff (uH V4) (uH O4) hb
    obtain ⟨v9,w9,run9,st9,nv9⟩:=S5.push ⟨vo,vc,vj,tj,0⟩ V5 (uH HOF) (by rw [uH hRl];omega) (uH hV) 43
    have RUN:=hide run9
    dsimp only at RUN
    rw [uH LV1] at RUN
    have P9:=hide st9;have N9:=hide nv9
    clear P4 S5 V5 V4 O4 hb hrow run9 st9 nv9 G6
    go_wp2_with (at_builtin;refine wpList_append_ran _ rfl _ _ 43 rfl _ _ _ _ rfl rfl (uH RUN) ?_;clear RUN)
    go_round
    case rel =>
     refine ⟨j+1,some ⟨g,0,none⟩,n,R ++ [⟨vo,vc,vj,tj,0⟩],by omega,by go_num,?_,?_,?_,N9,by rw [hNJ];exact P9⟩
     ·show (R ++ [_]).length = j+1
      rw [List.length_append,uH hRl];rfl
     ·show ∀ k,k < j+1→_
      intro k hk
      rw [mrAt_snoc2 R _ k (by rw [uH hRl];exact hk)]
      by_cases g:k < R.length
      ·rw [if_pos g];exact uH hRm k (by rw [← uH hRl];exact g)
      ·rw [if_neg g,show k = j by have:=uH hRl;omega,hVJ,hTJ];exact ⟨rfl,rfl⟩
     ·show ∀ k,k < j+1→_
      intro k hk
      by_cases g:k < j
      ·exact uH hO k g
      ·rw [show k = j by omega];exact ho
    case measure=>simp [intOf];omega
  ·have hjj:j = K:=by omega
   subst hjj
   have hjm:¬ ((j:Int) < m):=fun q=>hlt ((uH HK j).2 q)
   have hyes:Hid (ok = true):=hide ((uH HOK).2 (uH hO))
   have S3:=uH hS
   have q0:=S3.rb.c0;have q1:=S3.rb.c1;have q2:=S3.rb.c2
   have s0:=S3.res.c0;have s1:=S3.res.c1;have s2:=S3.res.c2
   have f0:=S3.res.free 0;have f1:=S3.res.free 1;have f2:=S3.res.free 2
   have XP:=S3.res.put (.int .i64 r) (.int .i64 c) (.slice ro n rc)
   have z0:=XP.c0;have z1:=XP.c1;have z2:=XP.c2
   have BP:=hide (below_putM S3.bel (b:=w.heap.size+1) (by omega) (.int .i64 r) (.int .i64 c) (.slice ro n rc))
   have QB:=hide (S3.bits.putM S3.res (.int .i64 r) (.int .i64 c) (.slice ro n rc))
   have QL:=hide (S3.l.putQ S3.res (.int .i64 r) (.int .i64 c) (.slice ro n rc))
   have HN:=hide S3.new
   clear XP S3 hS
   go_wp2_with fail
   exact bodyPost_ret (v:=.tuple #[.agg #[.int .i64 r,.int .i64 c,.slice ro n rc],_,.int .i64 0]) (by simp [results,Tryz.results22,go_sem,z0,z1,z2]) rfl ⟨.inl ⟨uH hyes,_,_,_,R,rfl,uH HN,uH QB,uH QL,uH hRl,uH hRm⟩,uH BP⟩
end Go.Proofs.YtfkndkaneffgdaaGreatDoor
