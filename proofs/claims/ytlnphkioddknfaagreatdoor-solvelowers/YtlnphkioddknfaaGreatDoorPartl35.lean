/- Part 35 of the texts. -/
import Derived.Test.YtlnphkioddknfaaGreatDoorPartl34
import Derived.Test.YtlnphkioddknfaaGreatDoorPartl31
import Derived.Test.YtlnphkioddknfaaGreatDoorPartl29
import Derived.Test.YtlnphkioddknfaaGreatDoorPartl28
import Derived.Test.YtlnphkioddknfaaGreatDoorPartl30
import Derived.Test.YtlnphkioddknfaaGreatDoorPartl27
import Derived.Test.YtlnphkioddknfaaGreatDoorPartl26
import Derived.Test.YtlnphkioddknfaaGreatDoorPartl24
import Derived.Test.YtlnphkioddknfaaGreatDoorPartl33
import Derived.Deep.RegionWith
import Derived.Laws.CopyOwn
import Derived.Deep.LoopGhost
import Derived.WalkMore
set_option maxHeartbeats 32000000
set_option maxRecDepth 20000
namespace Go.Proofs.YtlnphkioddknfaaGreatDoor
open Go.RowKit
attribute [local go_sem ↓] Go.wp_at_zero Go.wp_at_succ
def OffB (g:Option Nat) (ao:Option Addr) (I:List Int):Prop:=I = [] ∨ ∃ b off,ao = some ⟨b,off,none⟩∧some b ≠ g
theorem OffB.new {H:Nat} {ao:Option Addr} {I:List Int} (h:NewB H ao I) {g:Option Nat} (hg:∀ k,g = some k→k < H):OffB g ao I:=by
 rcases h with e | ⟨b,off,e1,e2⟩
 ·exact .inl e
 ·exact .inr ⟨b,off,e1,fun e=>by have:=hg b e.symm;omega⟩
theorem OffB.old {w:World} {ao:Option Addr} {c:Nat} {I:List Int} (h:BitsAt w ao c I) {g:Option Nat} (hg:∀ k,g = some k→w.heap.size≤k):OffB g ao I:=by
 rcases h.2.2 with e | ⟨b,off,e1,e2,_⟩
 ·exact .inl e
 ·exact .inr ⟨b,off,e1,fun e=>by have:=hg b e.symm;omega⟩
theorem bits_grownOff {w w':World} {ao:Option Addr} {c:Nat} {I:List Int} {g:Option Nat} (h:BitsAt w ao c I) (ha:OffB g ao I) (hg:w.grownBy w' g):BitsAt w' ao c I:=by
 refine ⟨h.1,h.2.1,?_⟩
 rcases h.2.2 with e | ⟨b,off,e,hb,hc⟩
 ·exact .inl e
 ·rcases ha with e' | ⟨b',off',e',hne⟩
  ·exact .inl e'
  ·rw [e] at e'
   simp only [Option.some.injEq,Addr.mk.injEq] at e'
   obtain ⟨rfl,rfl,_⟩:=e'
   refine .inr ⟨b,off,e,Nat.lt_of_lt_of_le hb hg.size,fun i hi=>?_⟩
   rw [World.cell?_of_block (a:=⟨b,off+i,none⟩) (hg.block b hb hne)]
   exact hc i hi
end Go.Proofs.YtlnphkioddknfaaGreatDoor
namespace Go.Proofs.YtlnphkioddknfaaGreatDoor
open Go.RowKit
attribute [local go_sem ↓] Go.wp_at_zero Go.wp_at_succ
theorem psub_any (a b:Nat) (w:World) (ha:a < 18446744073709551616) (hb:b < 18446744073709551616) (hT:Tab w) :
  Calls Tryz.prog 164 #[.int .u64 a,.int .u64 b] w fun r w'=>r = .returned (.int .u64 (aV a (fN b):Nat))∧Below w.heap.size w w':=by
 have K:=hide (ssub_any a b w ha hb hT)
 clear ha hb hT
 generalize aV a (fN b) = o at *
 generalize aF a (fN b) = f at *
 go_enter Tryz.func164,Tryz.ntmps164
 go_wp2_with fail
 refine Calls.mono (uH K) ?_
 rintro e w1 ⟨rfl,hb1⟩
 clear K
 go_wp2
 go_ret
 exact ⟨rfl,hb1⟩
theorem pdiv_any (a b:Nat) (w:World) (ha:a < 18446744073709551616) (hb:b < 18446744073709551616) (hT:Tab w) :
  Calls Tryz.prog 166 #[.int .u64 a,.int .u64 b] w fun r w'=>r = .returned (.int .u64 (dV a b:Nat))∧Below w.heap.size w w':=by
 have K:=hide (tdiv_any a b w ha hb hT)
 clear ha hb hT
 generalize dV a b = o at *
 generalize dF a b = f at *
 go_enter Tryz.func166,Tryz.ntmps166
 go_wp2_with fail
 refine Calls.mono (uH K) ?_
 rintro e w1 ⟨rfl,hb1⟩
 clear K
 go_wp2
 go_ret
 exact ⟨rfl,hb1⟩
end Go.Proofs.YtlnphkioddknfaaGreatDoor
namespace Go.Proofs.YtlnphkioddknfaaGreatDoor
open Go.RowKit
attribute [local go_sem ↓] Go.wp_at_zero Go.wp_at_succ
theorem RowB.three {w:World} {b g:Nat} {S:List Nat} (h:RowB w b S) (hg:b ≠ g) (u u' u'':Value):RowB (((w.setCell ⟨g,0,none⟩ u).setCell ⟨g,1,none⟩ u').setCell ⟨g,2,none⟩ u'') b S:=by
 unfold RowB
 rw [Below.heap_setCell _ ⟨g,2,none⟩ u'' b hg,Below.heap_setCell _ ⟨g,1,none⟩ u' b hg,Below.heap_setCell _ ⟨g,0,none⟩ u b hg]
 exact h
theorem rowB_neM {w:World} {g b:Nat} {S:List Nat} (h:RowB w g S) {x y z:Value} (hx:BoxM w b x y z):g ≠ b:=by
 intro e
 subst e
 unfold RowB at h
 unfold BoxM at hx
 rw [h] at hx
 simp at hx
theorem copy_run (W:World) (g n cap:Nat) (ao:Option Addr) (S:List Nat) (h:RowB W g (List.replicate n 0)) (hS:BitsAt W ao cap (mxL S)) (hl:S.length = n) :
  ∃ w',(∀ ty,(Builtin.copy_ #[22,22] ty #[.slice (some ⟨g,0,none⟩) n n,.slice ao n cap]).run Tryz.prog W = .ok (.int .i64 (n:Int)) w')∧RowB w' g S∧Below g W w':=by
 rcases Nat.eq_zero_or_pos n with e | e
 ·subst e
  obtain rfl:S = []:=List.eq_nil_of_length_eq_zero hl
  exact ⟨W,fun ty=>run_copy_none W _ _ ty 37 _ _ 0 0 0 cap Tryz.underlying22 (by kernel_rfl) rfl,h,Below.refl _ _⟩
 ·obtain ⟨b,off,rfl,hb,hc⟩:=hS.ne (by rw [mxL_len];omega)
  have hcs:∀ j v,(S.map bitV)[j]? = some v→W.cell? ((⟨b,off,none⟩:Addr).add j) = some v:=by
   intro j v hv
   rw [List.getElem?_map] at hv
   obtain ⟨x,hx,rfl⟩:=Option.map_eq_some_iff.1 hv
   have hj:j < S.length:=(List.getElem?_eq_some_iff.1 hx).1
   have:=hc j (by rw [mxL_len];exact hj)
   rw [mxL_at] at this
   rw [show (⟨b,off,none⟩:Addr).add j = ⟨b,off+j,none⟩ from by simp [Addr.add],this]
   rw [List.getD_eq_getElem?_getD,hx]
   rfl
  have hlen:(S.map bitV).length = n:=by rw [List.length_map,hl]
  have run:=fun ty=>run_copy_row Tryz.prog W 22 22 ty 37 g 0 n n ⟨b,off,none⟩ n cap ((List.replicate n 0).map bitV).toArray 37 (S.map bitV) Tryz.underlying22 (by kernel_rfl) h (by rw [hlen];exact (Nat.min_self n).symm) hcs (by rw [hlen];simp) (fun v hv=>by obtain ⟨x,_,rfl⟩:=List.mem_map.1 hv;rfl)
  refine ⟨_,fun ty=>(run ty).trans (by rw [hlen];rfl),?_,below_setRow (Below.refl _ _) (Nat.le_refl _) _⟩
  unfold RowB
  rw [setRow_heap W g _ _ 37 _ h]
  congr 3
  simp
end Go.Proofs.YtlnphkioddknfaaGreatDoor
namespace Go.Proofs.YtlnphkioddknfaaGreatDoor
open Go.RowKit
attribute [local go_sem ↓] Go.wp_at_zero Go.wp_at_succ
theorem BoxM.three14 {w:World} {b g:Nat} {x y z:Value} (h:BoxM w b x y z) (hg:b ≠ g) (u u' u'':Value):BoxM (((w.setCell ⟨g,0,none⟩ u).setCell ⟨g,1,none⟩ u').setCell ⟨g,2,none⟩ u'') b x y z :=
 ((h.other (p:=⟨g,0,none⟩) hg _).other (p:=⟨g,1,none⟩) hg _).other (p:=⟨g,2,none⟩) hg _
structure TrSt (w wr:World) (h r c n cap:Nat) (ao:Option Addr) (S:List Nat) (ro:Option Addr) (rc:Nat) (v:Value) (R:List Mr):Prop where
 bel:Below w.heap.size w wr
 hh:w.heap.size+1+1≤h
 a:BoxM wr w.heap.size (.int .i64 r) (.int .i64 c) (.slice ao n cap)
 res:BoxM wr (w.heap.size+1) (.int .i64 0) (.int .i64 0) (.slice none 0 0)
 rb:BoxM wr h (.int .i64 r) (.int .i64 c) (.slice ro n rc)
 bits:BitsAt wr ro rc (mxL S)
 new:NewB w.heap.size ro (mxL S)
 len:S.length = n
 l:OwnMt (w.heap.size+1+1) wr v R
 off:OffB v.ownBlock ro (mxL S)
theorem TrSt.all {w wr w':World} {h r c n cap:Nat} {ao:Option Addr} {S:List Nat} {ro:Option Addr} {rc:Nat} {v:Value} {R:List Mr} (t:TrSt w wr h r c n cap ao S ro rc v R) (hb:Below wr.heap.size wr w'):TrSt w w' h r c n cap ao S ro rc v R :=
 ⟨t.bel.trans (hb.mono t.bel.size),t.hh,t.a.all hb,t.res.all hb,t.rb.all hb,t.bits.below hb,t.new,t.len,t.l.below hb,t.off⟩
theorem TrSt.start {w w1:World} {r c n cap:Nat} {ao:Option Addr} {S:List Nat} {ro:Option Addr} {rc:Nat} (hB:Below w.heap.size w w1) (hA:BoxM w1 w.heap.size (.int .i64 r) (.int .i64 c) (.slice ao n cap)) (hR:BoxM w1 (w.heap.size+1) (.int .i64 0) (.int .i64 0) (.slice none 0 0)) (hS:BitsAt w1 ro rc (mxL S)) (hN:NewB w.heap.size ro (mxL S)) (hl:S.length = n) :
  TrSt w (w1.alloc (.cells #[.int .i64 r,.int .i64 c,.slice ro n rc] 24)) w1.heap.size r c n cap ao S ro rc (.slice none 0 0) []:=by
 have b:=below_alloc9 w1 (.cells #[.int .i64 r,.int .i64 c,.slice ro n rc] 24)
 exact ⟨hB.trans (b.mono hB.size),hR.lt,hA.all b,hR.all b,BoxM.new w1 _ _ _,hS.below b,hN,hl,OwnMt.start _ _,OffB.old hS (fun k hk=>by simp [Value.ownBlock] at hk)⟩
theorem mrAt_snoc2 (R:List Mr) (x:Mr):∀ k,k < R.length+1→mrAt (R ++ [x]) k = if k < R.length then mrAt R k else x:=by
 intro k hk
 unfold mrAt
 by_cases g:k < R.length
 ·rw [if_pos g,List.getElem?_append_left g]
 ·rw [if_neg g,show k = R.length by omega,List.getElem?_append_right (Nat.le_refl _)]
  simp
def RowIf (K n:Nat) (w:World) (ro:Option Addr) (rc:Nat) (S:List Nat):Prop:=0 < K→∃ g,ro = some ⟨g,0,none⟩∧rc = n∧RowB w g S
theorem RowIf.all {K n:Nat} {w w':World} {ro:Option Addr} {rc:Nat} {S:List Nat} (h:RowIf K n w ro rc S) (hb:Below w.heap.size w w'):RowIf K n w' ro rc S:=fun hk=>by
 obtain ⟨g,e,e2,q⟩:=h hk
 exact ⟨g,e,e2,q.below hb q.lt⟩
theorem RowIf.putM {K n:Nat} {w:World} {ro:Option Addr} {rc:Nat} {S:List Nat} (h:RowIf K n w ro rc S) {b:Nat} {x y z:Value} (hx:BoxM w b x y z) (u u' u'':Value):RowIf K n (((w.setCell ⟨b,0,none⟩ u).setCell ⟨b,1,none⟩ u').setCell ⟨b,2,none⟩ u'') ro rc S:=fun hk=>by
 obtain ⟨g,e,e2,q⟩:=h hk
 exact ⟨g,e,e2,q.three (rowB_neM q hx) _ _ _⟩
def TriAns (w w':World) (ok:Bool) (r c n K:Nat) (S:List Nat) (V:Nat→List Nat) (tau:Nat→Nat) (e:Ending):Prop :=
 (ok = true∧∃ ro rc v R,e = .returned (.tuple #[.agg #[.int .i64 r,.int .i64 c,.slice ro n rc],v,.int .i64 0])∧NewB w.heap.size ro (mxL S)∧BitsAt w' ro rc (mxL S)∧OwnMt (w.heap.size+1+1) w' v R∧R.length = K∧(∀ k,k < K→(mrAt R k).V = V k∧(mrAt R k).tau = tau k)∧RowIf K n w' ro rc S) ∨
 (ok = false∧e = .returned (.tuple #[.agg #[.int .i64 0,.int .i64 0,.slice none 0 0],.slice none 0 0,.int .i64 2]))
end Go.Proofs.YtlnphkioddknfaaGreatDoor
namespace Go.Proofs.YtlnphkioddknfaaGreatDoor
open Go.RowKit
attribute [local go_sem ↓] Go.wp_at_zero Go.wp_at_succ
structure UrSt (w wr:World) (h r nq:Nat) (S:List Nat) (qo:Option Addr) (qc:Nat) (v:Value) (R:List Mr):Prop where
 bel:Below w.heap.size w wr
 hh:w.heap.size+1≤h
 res:BoxM wr w.heap.size (.int .i64 0) (.int .i64 0) (.slice none 0 0)
 qb:BoxM wr h (.int .i64 r) (.int .i64 r) (.slice qo nq qc)
 bits:BitsAt wr qo qc (mxL S)
 new:NewB w.heap.size qo (mxL S)
 len:S.length = nq
 l:OwnMt 0 wr v R
theorem UrSt.all {w wr w':World} {h r nq:Nat} {S:List Nat} {qo:Option Addr} {qc:Nat} {v:Value} {R:List Mr} (t:UrSt w wr h r nq S qo qc v R) (hb:Below wr.heap.size wr w'):UrSt w w' h r nq S qo qc v R :=
 ⟨t.bel.trans (hb.mono t.bel.size),t.hh,t.res.all hb,t.qb.all hb,t.bits.below hb,t.new,t.len,t.l.below hb⟩
theorem UrSt.put {w wr:World} {h r nq:Nat} {S U:List Nat} {qo po:Option Addr} {qc pc:Nat} {v:Value} {R:List Mr} (t:UrSt w wr h r nq S qo qc v R) (hU:BitsAt wr po pc (mxL U)) (hn:NewB w.heap.size po (mxL U)) (hl:U.length = nq) :
  UrSt w (((wr.setCell ⟨h,0,none⟩ (.int .i64 r)).setCell ⟨h,1,none⟩ (.int .i64 r)).setCell ⟨h,2,none⟩ (.slice po nq pc)) h r nq U po pc v R:=by
 have hh:=t.hh
 have n0:w.heap.size ≠ h:=by omega
 exact ⟨below_putM t.bel (by omega) _ _ _,hh,t.res.three14 n0 _ _ _,t.qb.put _ _ _,hU.putM t.qb _ _ _,hn,hl,t.l.putQ t.qb _ _ _⟩
theorem UrSt.start {w w1:World} {r nq:Nat} {S:List Nat} {qo:Option Addr} {qc:Nat} {v:Value} {R:List Mr} (hB:Below (w.heap.size+1) (w.alloc (.cells #[.int .i64 0,.int .i64 0,.slice none 0 0] 24)) w1) (hS:BitsAt w1 qo qc (mxL S)) (hN:NewB w.heap.size qo (mxL S)) (hl:S.length = nq) (hL:OwnMt 0 w v R) :
  UrSt w (w1.alloc (.cells #[.int .i64 r,.int .i64 r,.slice qo nq qc] 24)) w1.heap.size r nq S qo qc v R:=by
 have b0:=below_alloc9 w (.cells #[.int .i64 0,.int .i64 0,.slice none 0 0] 24)
 have s0:=size_alloc9 w (.cells #[.int .i64 0,.int .i64 0,.slice none 0 0] 24)
 have x0:=BoxM.new w (.int .i64 0) (.int .i64 0) (.slice none 0 0)
 rw [← s0] at hB
 have b:=below_alloc9 w1 (.cells #[.int .i64 r,.int .i64 r,.slice qo nq qc] 24)
 have b1:=b0.trans (hB.mono b0.size)
 have hs:=hB.size
 rw [s0] at hs
 exact ⟨b1.trans (b.mono b1.size),hs,(x0.all hB).all b,BoxM.new w1 _ _ _,hS.below b,hN,hl,((hL.below b0).below hB).below b⟩
theorem OwnMt.apart {base:Nat} {w:World} {b n0 c0:Nat} {R:List Mr} (h:OwnMt base w (.slice (some ⟨b,0,none⟩) n0 c0) R) {g:Nat} {x y z:Value} (hx:BoxM w g x y z):b ≠ g:=by
 rcases h.1.2 with ⟨e,_⟩ | ⟨k,cap,cur,hv,hk,hh,rest⟩
 ·cases e
 ·simp only [Value.slice.injEq,Option.some.injEq,Addr.mk.injEq] at hv
  obtain ⟨⟨rfl,_⟩,_⟩:=hv
  rintro rfl
  have e:=hh.symm.trans hx
  simp at e
theorem upright_of (r nq K lc:Nat) (lo:Option Addr) (V QT:Nat→List Nat) (tau:Nat→Nat) (R:List Mr) (w:World) (h36:nq≤36) (hK6:K≤6) (hl:OwnMt 0 w (.slice lo K lc) R) (hRl:R.length = K) (hRm:∀ k,k < K→(mrAt R k).V = V k∧(mrAt R k).tau = tau k)
  (lQ:∀ t,(QT t).length = nq) (lV:∀ j,(V j).length = r - j)
  (C1:∀ w',Calls Tryz.prog 149 #[.int .i64 r] w' fun e w''=>∃ qo qc,e = .returned (.tuple #[.agg #[.int .i64 r,.int .i64 r,.slice qo nq qc],.int .i64 0])∧NewB w'.heap.size qo (mxL (QT 0))∧BitsAt w'' qo qc (mxL (QT 0))∧Below w'.heap.size w' w'')
  (C2:∀ w' t j po pc vo vc,t < K→j = K - 1 - t→Below w.heap.size w w'→BitsAt w' po pc (mxL (QT t))→BitsAt w' vo vc (mxL (V j))→Calls Tryz.prog 213 #[.agg #[.int .i64 r,.int .i64 r,.slice po nq pc],.int .i64 (j:Nat),.int .i64 0,.slice vo (r - j) vc,.int .u64 (tau j:Nat)] w' fun e w''=>∃ qo qc,e = .returned (.tuple #[.agg #[.int .i64 r,.int .i64 r,.slice qo nq qc],.int .i64 0])∧NewB w'.heap.size qo (mxL (QT (t+1)))∧BitsAt w'' qo qc (mxL (QT (t+1)))∧Below w'.heap.size w' w'')
  (C3:∀ w' x,x < 18446744073709551616→Calls Tryz.prog 111 #[.int .u64 (x:Nat)] w' fun e w''=>e = .returned (.bool (fFin x))∧Below w'.heap.size w' w'') :
  Calls Tryz.prog 175 #[.int .i64 r,.slice lo K lc] w fun e w'=>∃ t qo qc,t≤K∧(t = K ∨ fnK (mxL (QT t)) nq = false)∧e = .returned (.agg #[.int .i64 r,.int .i64 r,.slice qo nq qc])∧NewB w.heap.size qo (mxL (QT t))∧BitsAt w' qo qc (mxL (QT t))∧Below w.heap.size w w':=by
 have K1:=hide (C1 (w.alloc (.cells #[.int .i64 0,.int .i64 0,.slice none 0 0] 24)))
 simp only [size_alloc9] at K1
 have K2:=hide C2;have K3:=hide C3;have LQ:=hide lQ;have LV:=hide lV;have HL:=hide hl;have HRL:=hide hRl;have HRM:=hide hRm
 have hw2:IntKind.i64.wrap ((K:Int) - 1) = (K:Int) - 1:=wrap_in _ (by omega)
 clear C1 C2 C3 lQ lV hl hRl hRm
 go_enter Tryz.func175,Tryz.ntmps175
 go_wp2_with fail
 go_step3
 go_wp2_with fail
 refine (uH K1).mono ?_
 rintro e w1 ⟨qo,qc,rfl,hn,hq,hb⟩
 have ST:=hide (UrSt.start (r:=r) (v:=.slice lo K lc) (R:=R) hb hq (hn.least (by omega)) (uH LQ 0) (uH HL))
 clear hb hq hn K1 HL
 go_wp2_with fail
 go_step3
 go_wp2_with fail
 generalize w1.heap.size = h at *
 go_loopg [7] K (fun g a wr=>∃ (t:Nat) (qo:Option Addr) (qc:Nat),t+g = K∧a = .int .i64 ((K:Int) - 1 - (t:Int))∧Hid (UrSt w wr h r nq (QT t) qo qc (.slice lo K lc) R))
 case atStart=>exact ⟨0,qo,qc,by omega,by simp,ST⟩
 case round =>
  clear ST hw2
  obtain ⟨t,qo,qc,htg,rfl,hS⟩:=hrel
  cases gk with
  | zero =>
   have htt:t = K:=by omega
   subst htt
   have hz:(t:Int) - 1 - (t:Int) = -1:=by omega
   rw [hz]
   have S3:=uH hS
   have q0:=S3.qb.c0;have q1:=S3.qb.c1;have q2:=S3.qb.c2
   have s0:=S3.res.c0;have s1:=S3.res.c1;have s2:=S3.res.c2
   have f0:=S3.res.free 0;have f1:=S3.res.free 1;have f2:=S3.res.free 2
   have XP:=S3.res.put (.int .i64 r) (.int .i64 r) (.slice qo nq qc)
   have z0:=XP.c0;have z1:=XP.c1;have z2:=XP.c2
   have BP:=hide (below_putM S3.bel (b:=w.heap.size) (Nat.le_refl _) (.int .i64 r) (.int .i64 r) (.slice qo nq qc))
   have QB:=hide (S3.bits.putM S3.res (.int .i64 r) (.int .i64 r) (.slice qo nq qc))
   have HN:=hide S3.new
   clear XP S3 hS
   go_wp2_with fail
   try rw [Exit.noGoto_ret]
   exact bodyPost_ret (v:=.agg #[.int .i64 r,.int .i64 r,.slice qo nq qc]) (by simp [results,Tryz.results175,go_sem,z0,z1,z2]) rfl ⟨t,_,_,by omega,.inl rfl,rfl,uH HN,uH QB,uH BP⟩
  | succ g =>
   have hlt:t < K:=by omega
   obtain ⟨m,hm⟩:∃ m,K - 1 - t = m:=⟨_,rfl⟩
   have hmI:(K:Int) - 1 - (t:Int) = (m:Int):=by omega
   rw [hmI]
   have hmj:(m:Int) < (K:Int):=by omega
   obtain ⟨gl,cl,el,gl1,gl2,k0,k1,kb⟩:=(uH hS).l.at (k:=m) (by rw [uH HRL];omega)
   simp only [Value.slice.injEq] at el
   obtain ⟨rfl,hjR,rfl⟩:=el
   clear hjR gl1 gl2
   obtain ⟨ev,et⟩:=uH HRM m (by omega)
   rw [ev] at k0 kb
   rw [et] at k1
   rw [uH LV m] at k0
   have GQ:=hide (fun w' po pc vo vc hb hp hv=>uH K2 w' t m po pc vo vc hlt hm.symm hb hp hv)
   have KB:=hide kb
   have LN:=hide (uH LQ (t+1))
   generalize (mrAt R m).ao = vo at *
   generalize (mrAt R m).cap = vc at *
   generalize tau m = tm at *
   generalize V m = vm at *
   generalize hNT:QT (t+1) = nt at *
   clear kb ev et
   go_wp2_with fail
   refine at_world (fun W=>UrSt w W h r nq (QT t) qo qc (.slice (some ⟨gl,0,none⟩) K lc) R∧(W.cell? ⟨gl,m * 2,none⟩ = some (.slice vo (r - m) vc)∧W.cell? ⟨gl,m * 2+1,none⟩ = some (.int .u64 (tm:Nat)))∧BitsAt W vo vc (mxL vm)) ⟨uH hS,⟨k0,k1⟩,uH KB⟩ ?_
   clear hS k0 k1 KB
   rintro W ⟨st,⟨k0,k1⟩,kb⟩
   have hd:=(Below.refl W.heap.size W).drew
   have ST:=hide (st.all hd);have KB:=hide (kb.below hd)
   replace k0:=cell_keep k0 hd
   replace k1:=cell_keep k1 hd
   clear st kb hd
   have q0:=(uH ST).qb.c0;have q1:=(uH ST).qb.c1;have q2:=(uH ST).qb.c2
   refine wp_region_held_drew (S:=(fun w'=>w'.cell? ⟨gl,m * 2,none⟩ = some (.slice vo (r - m) vc)∧w'.cell? ⟨gl,m * 2+1,none⟩ = some (.int .u64 (tm:Nat)))) (by kernel_rfl) ?_ (fun hHeld=>?_)
   ·exact ⟨k0,k1⟩
   refine wpAnyH_take (i:=1) (oi:={ dst:=some 24,op:=Op.move (Operand.tmp 7),type:=3,pos := "mirrors.go:42",after:=#[],guard:=none }) (v:=(Value.int .i64 (m:Int))) rfl (by kernel_rfl) (by kernel_rfl) (by kernel_rfl) (fun _ _ _ h=>h) (Or.inl ⟨by rfl,?_⟩) (by assumption) ?_
   ·(intro w hSw;(try dsimp only at hSw);go_simp)
   simp only [Act.put,List.setIfInBounds_toArray,List.set_cons_zero,List.set_cons_succ]
   refine wpAnyH_take (i:=2) (oi:={ dst:=some 25,op:=Op.move (Operand.tmp 1),type:=168,pos := "mirrors.go:42",after:=#[],guard:=none }) (v:=(Value.slice (some ⟨gl,0,none⟩) K lc)) rfl (by kernel_rfl) (by kernel_rfl) (by kernel_rfl) (fun _ _ _ h=>h) (Or.inl ⟨by rfl,?_⟩) (by assumption) ?_
   ·(intro w hSw;(try dsimp only at hSw);go_simp)
   simp only [Act.put,List.setIfInBounds_toArray,List.set_cons_zero,List.set_cons_succ]
   refine wpAnyH_take (i:=3) (oi:={ dst:=some 26,op:=Op.move (Operand.tmp 7),type:=3,pos := "mirrors.go:42",after:=#[],guard:=none }) (v:=(Value.int .i64 (m:Int))) rfl (by kernel_rfl) (by kernel_rfl) (by kernel_rfl) (fun _ _ _ h=>h) (Or.inl ⟨by rfl,?_⟩) (by assumption) ?_
   ·(intro w hSw;(try dsimp only at hSw);go_simp)
   simp only [Act.put,List.setIfInBounds_toArray,List.set_cons_zero,List.set_cons_succ]
   refine wpAnyH_take (i:=4) (oi:={ dst:=some 27,op:=Op.indexAddr 168 (Operand.tmp 25) (Operand.tmp 26),type:=0,pos := "mirrors.go:42",after:=#[{ on:=2,ground:=Ground.data },{ on:=3,ground:=Ground.data }],guard:=none }) (v:=(Value.pointer (some ⟨gl,m * 2,none⟩))) rfl (by kernel_rfl) (by kernel_rfl) (by kernel_rfl) (fun _ _ _ h=>h) (Or.inl ⟨by rfl,?_⟩) (by assumption) ?_
   ·(intro w hSw;(try dsimp only at hSw);go_simp)
   simp only [Act.put,List.setIfInBounds_toArray,List.set_cons_zero,List.set_cons_succ]
   refine wpAnyH_take (i:=5) (oi:={ dst:=some 28,op:=Op.fieldAddr 201 (Operand.tmp 27) 0,type:=0,pos := "mirrors.go:42",after:=#[{ on:=4,ground:=Ground.data }],guard:=none }) (v:=(Value.pointer (some ⟨gl,m * 2,none⟩))) rfl (by kernel_rfl) (by kernel_rfl) (by kernel_rfl) (fun _ _ _ h=>h) (Or.inl ⟨by rfl,?_⟩) (by assumption) ?_
   ·(intro w hSw;(try dsimp only at hSw);go_simp)
   simp only [Act.put,List.setIfInBounds_toArray,List.set_cons_zero,List.set_cons_succ]
   refine wpAnyH_take (i:=6) (oi:={ dst:=some 29,op:=Op.load 22 (Operand.tmp 28),type:=22,pos := "mirrors.go:42",after:=#[{ on:=5,ground:=Ground.data }],guard:=none }) (v:=(Value.slice vo (r - m) vc)) rfl (by kernel_rfl) (by kernel_rfl) (by kernel_rfl) (fun _ _ _ h=>h) (Or.inl ⟨by rfl,?_⟩) (by assumption) ?_
   ·(intro w hSw;(try dsimp only at hSw);go_simp)
   simp only [Act.put,List.setIfInBounds_toArray,List.set_cons_zero,List.set_cons_succ]
   refine wpAnyH_take (i:=7) (oi:={ dst:=some 30,op:=Op.move (Operand.tmp 1),type:=168,pos := "mirrors.go:42",after:=#[],guard:=none }) (v:=(Value.slice (some ⟨gl,0,none⟩) K lc)) rfl (by kernel_rfl) (by kernel_rfl) (by kernel_rfl) (fun _ _ _ h=>h) (Or.inl ⟨by rfl,?_⟩) (by assumption) ?_
   ·(intro w hSw;(try dsimp only at hSw);go_simp)
   simp only [Act.put,List.setIfInBounds_toArray,List.set_cons_zero,List.set_cons_succ]
   refine wpAnyH_take (i:=8) (oi:={ dst:=some 31,op:=Op.move (Operand.tmp 7),type:=3,pos := "mirrors.go:42",after:=#[],guard:=none }) (v:=(Value.int .i64 (m:Int))) rfl (by kernel_rfl) (by kernel_rfl) (by kernel_rfl) (fun _ _ _ h=>h) (Or.inl ⟨by rfl,?_⟩) (by assumption) ?_
   ·(intro w hSw;(try dsimp only at hSw);go_simp)
   simp only [Act.put,List.setIfInBounds_toArray,List.set_cons_zero,List.set_cons_succ]
   refine wpAnyH_take (i:=9) (oi:={ dst:=some 32,op:=Op.indexAddr 168 (Operand.tmp 30) (Operand.tmp 31),type:=0,pos := "mirrors.go:42",after:=#[{ on:=7,ground:=Ground.data },{ on:=8,ground:=Ground.data }],guard:=none }) (v:=(Value.pointer (some ⟨gl,m * 2,none⟩))) rfl (by kernel_rfl) (by kernel_rfl) (by kernel_rfl) (fun _ _ _ h=>h) (Or.inl ⟨by rfl,?_⟩) (by assumption) ?_
   ·(intro w hSw;(try dsimp only at hSw);go_simp)
   simp only [Act.put,List.setIfInBounds_toArray,List.set_cons_zero,List.set_cons_succ]
   refine wpAnyH_take (i:=10) (oi:={ dst:=some 33,op:=Op.fieldAddr 201 (Operand.tmp 32) 1,type:=0,pos := "mirrors.go:42",after:=#[{ on:=9,ground:=Ground.data }],guard:=none }) (v:=(Value.pointer (some ⟨gl,m * 2+1,none⟩))) rfl (by kernel_rfl) (by kernel_rfl) (by kernel_rfl) (fun _ _ _ h=>h) (Or.inl ⟨by rfl,?_⟩) (by assumption) ?_
   ·(intro w hSw;(try dsimp only at hSw);go_simp)
   simp only [Act.put,List.setIfInBounds_toArray,List.set_cons_zero,List.set_cons_succ]
   refine wpAnyH_take (i:=11) (oi:={ dst:=some 34,op:=Op.load 37 (Operand.tmp 33),type:=37,pos := "mirrors.go:42",after:=#[{ on:=10,ground:=Ground.data }],guard:=none }) (v:=(Value.int .u64 (tm:Int))) rfl (by kernel_rfl) (by kernel_rfl) (by kernel_rfl) (fun _ _ _ h=>h) (Or.inl ⟨by rfl,?_⟩) (by assumption) ?_
   ·(intro w hSw;(try dsimp only at hSw);go_simp)
   simp only [Act.put,List.setIfInBounds_toArray,List.set_cons_zero,List.set_cons_succ]
   refine wpAnyH_ready (rs:=[0]) (by kernel_rfl) (by simp) ?_
   refine AllReadyH.cons (o:={ dst:=some 23,op:=Op.load 24 (Operand.tmp 5),type:=24,pos := "mirrors.go:42",after:=#[],guard:=none }) rfl (fun KK hK=>?_) AllReadyH.nil
   go_simp
   refine hK.out _ _ ?_ (fun hHeld=>?_)
   ·exact ⟨k0,k1⟩
   clear hK KK
   refine wpAnyH_ready (rs:=[12]) (by kernel_rfl) (by simp) ?_
   refine AllReadyH.cons (o:={ dst:=some 35,op:=Op.call { callee:=Callee.value (Operand.func 213),args:=#[Operand.tmp 23,Operand.tmp 24,Operand.const (Value.int IntKind.i64 0),Operand.tmp 29,Operand.tmp 34],argTypes:=#[24,3,3,22,37] },type:=26,pos := "mirrors.go:42",after:=#[{ on:=0,ground:=Ground.data },{ on:=1,ground:=Ground.data },{ on:=6,ground:=Ground.data },{ on:=11,ground:=Ground.data }],guard:=none }) rfl (fun KK hK=>?_) AllReadyH.nil
   go_simp
   refine (uH GQ _ _ _ _ _ (uH ST).bel (uH ST).bits (uH KB)).mono ?_
   rintro e w5 ⟨qo5,qc5,rfl,hn5,hq5,hb⟩
   clear q0 q1 q2
   have S5:=(uH ST).all hb
   replace k0:=cell_keep k0 hb
   replace k1:=cell_keep k1 hb
   have HS5:=hide (And.intro k0 k1)
   have ha:=S5.l.apart S5.qb
   have HS6:=hide (And.intro (show (((w5.setCell ⟨h,0,none⟩ (.int .i64 r)).setCell ⟨h,1,none⟩ (.int .i64 r)).setCell ⟨h,2,none⟩ (.slice qo5 nq qc5)).cell? ⟨gl,m * 2,none⟩ = some (.slice vo (r - m) vc) by rw [cell_setCell_other _ _ _ _ ha,cell_setCell_other _ _ _ _ ha,cell_setCell_other _ _ _ _ ha];exact k0) (show (((w5.setCell ⟨h,0,none⟩ (.int .i64 r)).setCell ⟨h,1,none⟩ (.int .i64 r)).setCell ⟨h,2,none⟩ (.slice qo5 nq qc5)).cell? ⟨gl,m * 2+1,none⟩ = some (.int .u64 (tm:Nat)) by rw [cell_setCell_other _ _ _ _ ha,cell_setCell_other _ _ _ _ ha,cell_setCell_other _ _ _ _ ha];exact k1))
   have q0:=S5.qb.c0;have q1:=S5.qb.c1;have q2:=S5.qb.c2
   have f0:=S5.qb.free 0;have f1:=S5.qb.free 1;have f2:=S5.qb.free 2
   have P5:=hide (S5.put hq5 (hn5.least (uH ST).bel.size) (uH LN))
   clear hb hq5 hn5 S5 GQ ST KB ha k0 k1
   go_wp2_with fail
   refine hK.out _ _ ?_ (fun hHeld=>?_)
   ·exact uH HS5
   clear hK KK
   refine wpAnyH_take (i:=13) (oi:={ dst:=some 22,op:=Op.move (Operand.tmp 35),type:=26,pos := "mirrors.go:42",after:=#[{ on:=12,ground:=Ground.data }],guard:=none }) (v:=(Value.tuple #[(Value.agg #[.int .i64 (r:Int),.int .i64 (r:Int),.slice qo5 nq qc5]),.int .i64 0])) rfl (by kernel_rfl) (by kernel_rfl) (by kernel_rfl) (fun _ _ _ h=>h) (Or.inl ⟨by rfl,?_⟩) (by assumption) ?_
   ·(intro w hSw;(try dsimp only at hSw);go_simp)
   simp only [Act.put,List.setIfInBounds_toArray,List.set_cons_zero,List.set_cons_succ]
   refine wpAnyH_take (i:=14) (oi:={ dst:=some 36,op:=Op.extract (Operand.tmp 22) 0,type:=24,pos := "mirrors.go:42",after:=#[{ on:=13,ground:=Ground.data }],guard:=none }) (v:=(Value.agg #[.int .i64 (r:Int),.int .i64 (r:Int),.slice qo5 nq qc5])) rfl (by kernel_rfl) (by kernel_rfl) (by kernel_rfl) (fun _ _ _ h=>h) (Or.inl ⟨by rfl,?_⟩) (by assumption) ?_
   ·(intro w hSw;(try dsimp only at hSw);go_simp)
   simp only [Act.put,List.setIfInBounds_toArray,List.set_cons_zero,List.set_cons_succ]
   refine wpAnyH_take (i:=15) (oi:={ dst:=some 37,op:=Op.extract (Operand.tmp 22) 1,type:=25,pos := "mirrors.go:42",after:=#[{ on:=13,ground:=Ground.data },{ on:=16,ground:=Ground.gcOnly Departure.lateStores }],guard:=none }) (v:=(Value.int .i64 0)) rfl (by kernel_rfl) (by kernel_rfl) (by kernel_rfl) (fun _ _ _ h=>h) (Or.inl ⟨by rfl,?_⟩) (by assumption) ?_
   ·(intro w hSw;(try dsimp only at hSw);go_simp)
   simp only [Act.put,List.setIfInBounds_toArray,List.set_cons_zero,List.set_cons_succ]
   refine wpAnyH_ready (rs:=[16]) (by kernel_rfl) (by simp) ?_
   refine AllReadyH.cons (o:={ dst:=none,op:=Op.store 24 (Operand.tmp 5) (Operand.tmp 36),type:=0,pos := "mirrors.go:42",after:=#[{ on:=14,ground:=Ground.data },{ on:=12,ground:=Ground.chain },{ on:=0,ground:=Ground.phase },{ on:=1,ground:=Ground.phase },{ on:=2,ground:=Ground.phase },{ on:=3,ground:=Ground.phase },{ on:=4,ground:=Ground.phase },{ on:=5,ground:=Ground.phase },{ on:=6,ground:=Ground.phase },{ on:=7,ground:=Ground.phase },{ on:=8,ground:=Ground.phase },{ on:=9,ground:=Ground.phase },{ on:=10,ground:=Ground.phase },{ on:=11,ground:=Ground.phase },{ on:=12,ground:=Ground.phase },{ on:=13,ground:=Ground.phase },{ on:=14,ground:=Ground.phase },{ on:=15,ground:=Ground.textOnly Departure.lateStores }],guard:=none }) rfl (fun KK hK=>?_) AllReadyH.nil
   go_simp
   refine hK.out _ _ ?_ (fun hHeld=>?_)
   ·exact uH HS6
   clear hK KK
   refine wpAnyH_done (by kernel_rfl) ?_ _
   clear q0 q1 q2 f0 f1 f2 HS5 HS6
   have z2:=(uH P5).qb.c2
   go_wp2_with fail
   clear z2
   go_loopg [41] nq (fun g2 a wr=>∃ i:Nat,i+g2 = nq∧a = .int .i64 i∧Hid (∀ k,k < i→fFin (atB (mxL nt) k) = true)∧Hid (UrSt w wr h r nq nt qo5 qc5 (.slice (some ⟨gl,0,none⟩) K lc) R))
   case atStart=>exact ⟨0,by omega,rfl,fun k hk=>absurd hk (Nat.not_lt_zero k),by first | exact P5 | exact hide (uH P5)⟩
   case round =>
    clear P5
    obtain ⟨i,hig,rfl,hF,hS⟩:=hrel
    cases gk with
    | zero =>
     have hii:¬ ((i:Int) < (nq:Int)):=by omega
     have hw3:IntKind.i64.wrap ((m:Int) - 1) = (m:Int) - 1:=wrap_in _ (by omega)
     go_wp2_with fail
     go_roundg g
     case measure=>omega
     case rel=>exact ⟨t+1,qo5,qc5,by omega,by rw [show (m:Int) - 1 = (K:Int) - 1 - ((t+1:Nat):Int) by omega],by rw [hNT];exact hS⟩
    | succ g2 =>
     have hiI:(i:Int) < (nq:Int):=by omega
     obtain ⟨b5,o5,rfl,_,hc5⟩:=(uH hS).bits.ne (by rw [mxL_len,(uH hS).len];omega)
     have c5:=hc5 i (by rw [mxL_len,(uH hS).len];omega)
     have hx:=(uH hS).bits.lt i
     have ec:(mxL nt)[i]?.getD 0 = (atB (mxL nt) i:Int):=((uH hS).bits.wf i).1
     have HFI:=hide (fun (e:fFin (atB (mxL nt) i) = true)=>(show ∀ k,k < i+1→fFin (atB (mxL nt) k) = true from fun k hk=>by
      rcases Nat.lt_or_ge k i with g | g
      ·exact uH hF k g
      ·rw [show k = i by omega];exact e))
     have HNO:=hide (fun (e:fFin (atB (mxL nt) i) = false)=>fnK_no (mxL nt) nq i (by omega) e)
     have KX:=hide (fun w'=>uH K3 w' _ hx)
     generalize atB (mxL nt) i = x at *
     clear hx hc5 ec
     go_wp2_with fail
     clear c5
     refine (uH KX _).mono ?_
     rintro e w6 ⟨rfl,hb⟩
     have S6:=hide ((uH hS).all hb)
     clear hb hS KX
     cases hfx:fFin x with
     | true =>
      go_wp2_with fail
      go_roundg g2
      case measure=>omega
      case rel=>exact ⟨i+1,by omega,by go_num,hide (uH HFI hfx),S6⟩
     | false =>
      have S3:=uH S6
      have hno:=hide (uH HNO hfx)
      have q0:=S3.qb.c0;have q1:=S3.qb.c1;have q2:=S3.qb.c2
      have s0:=S3.res.c0;have s1:=S3.res.c1;have s2:=S3.res.c2
      have f0:=S3.res.free 0;have f1:=S3.res.free 1;have f2:=S3.res.free 2
      have XP:=S3.res.put (.int .i64 r) (.int .i64 r) (.slice (some ⟨b5,o5,none⟩) nq qc5)
      have z0:=XP.c0;have z1:=XP.c1;have z2:=XP.c2
      have BP:=hide (below_putM S3.bel (b:=w.heap.size) (Nat.le_refl _) (.int .i64 r) (.int .i64 r) (.slice (some ⟨b5,o5,none⟩) nq qc5))
      have QB:=hide (S3.bits.putM S3.res (.int .i64 r) (.int .i64 r) (.slice (some ⟨b5,o5,none⟩) nq qc5))
      have HN:=hide S3.new
      clear XP S3 S6
      go_wp2_with fail
      try rw [Exit.noGoto_ret]
      exact bodyPost_ret (v:=.agg #[.int .i64 r,.int .i64 r,.slice (some ⟨b5,o5,none⟩) nq qc5]) (by simp [results,Tryz.results175,go_sem,z0,z1,z2]) rfl ⟨t+1,_,_,by omega,.inr (by rw [hNT];exact uH hno),rfl,by rw [hNT];exact uH HN,by rw [hNT];exact uH QB,uH BP⟩
end Go.Proofs.YtlnphkioddknfaaGreatDoor
