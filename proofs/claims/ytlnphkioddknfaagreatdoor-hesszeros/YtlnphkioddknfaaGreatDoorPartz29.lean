/- Part 29 of the texts. -/
import Derived.Test.YtlnphkioddknfaaGreatDoorPartz27
import Derived.Test.YtlnphkioddknfaaGreatDoorPartz28
import Derived.Deep.RegionWith
import Derived.Deep.RegionLaw
import Derived.Test.YtlnphkioddknfaaGreatDoorPartz22
import Derived.Deep.RegionHeld3
import Derived.Test.YtlnphkioddknfaaGreatDoorPartz24
import Derived.Test.YtlnphkioddknfaaGreatDoorPartz25
import Derived.Laws.CopyOwn
set_option maxHeartbeats 8000000
set_option maxRecDepth 20000
namespace Go.Proofs.YtlnphkioddknfaaGreatDoor
open Go.RowKit
attribute [local go_sem ↓] Go.wp_at_zero Go.wp_at_succ
structure LpSt (w wr:World) (g gr p q:Nat) (mo:Option Addr) (mc:Nat) (S:List Nat):Prop where
 bel:Below w.heap.size w wr
 box:BoxM wr g (.int .i64 p) (.int .i64 q) (.slice mo S.length mc)
 res:BoxM wr gr (.int .i64 0) (.int .i64 0) (.slice none 0 0)
 bits:BitsAt wr mo mc (mxL S)
 ne:gr ≠ g
 lo:w.heap.size≤g
theorem LpSt.all {w wr w':World} {g gr p q:Nat} {mo:Option Addr} {mc:Nat} {S:List Nat} (h:LpSt w wr g gr p q mo mc S) (hb:Below wr.heap.size wr w'):LpSt w w' g gr p q mo mc S :=
 ⟨h.bel.trans (hb.mono h.bel.size),h.box.all hb,h.res.all hb,h.bits.below hb,h.ne,h.lo⟩
theorem LpSt.put {w wr:World} {g gr p q:Nat} {mo:Option Addr} {mc:Nat} {S:List Nat} (h:LpSt w wr g gr p q mo mc S) {no:Option Addr} {nc:Nat} {T:List Nat} (hT:BitsAt wr no nc (mxL T)) :
  LpSt w (((wr.setCell ⟨g,0,none⟩ (.int .i64 p)).setCell ⟨g,1,none⟩ (.int .i64 q)).setCell ⟨g,2,none⟩ (.slice no T.length nc)) g gr p q no nc T :=
 ⟨below_putM h.bel h.lo _ _ _,h.box.put _ _ _,((h.res.other (p:=⟨g,0,none⟩) h.ne _).other (p:=⟨g,1,none⟩) h.ne _).other (p:=⟨g,2,none⟩) h.ne _,hT.putM h.box _ _ _,h.ne,h.lo⟩
theorem NewM.any {w:World} {r c:Nat} {S:List Nat} {ao:Option Addr} {cap:Nat} (h:BitsAt w ao cap (mxL S)):NewM 0 w r c S (.agg #[.int .i64 r,.int .i64 c,.slice ao S.length cap]):=by
 refine ⟨ao,cap,rfl,?_,h⟩
 rcases h.2.2 with e | ⟨b,off,e1,_,_⟩
 ·exact .inl e
 ·exact .inr ⟨b,off,e1,Nat.zero_le _⟩
def eyJ (n j:Nat):List Nat:=mkM n n (fun i k=>if k = i∧i < j then 4607182418800017408 else 0)
theorem eyJ_0 (n:Nat):eyJ n 0 = List.replicate (n * n) 0:=by
 rw [mkM_noughts]
 exact mkM_congr (fun i k _ _=>if_neg (by omega))
theorem eyJ_set (n j:Nat) (hj:j < n):(eyJ n j).set (j * n+j) 4607182418800017408 = eyJ n (j+1):=by
 unfold eyJ
 rw [mkM_set n n _ _ hj hj]
 refine mkM_congr (fun x y _ _=>?_)
 by_cases h:x = j∧y = j
 ·rw [if_pos h,if_pos (by omega)]
 ·rw [if_neg h]
  by_cases e:y = x∧x < j
  ·rw [if_pos e,if_pos (by omega)]
  ·rw [if_neg e,if_neg (by omega)]
theorem eyJ_all (n:Nat):eyJ n n = eyM n:=mkM_congr (fun i k hi _=>by
 by_cases e:k = i
 ·rw [if_pos ⟨e,hi⟩,if_pos e]
 ·rw [if_neg (fun h=>e h.1),if_neg e])
theorem eyJ_len (n j:Nat):(eyJ n j).length = n * n:=mkM_len _ _ _
theorem reye_any (n:Nat) (w:World) (hn:n≤6) :
  Calls Tryz.prog 25 #[.int .i64 n] w fun e w'=>∃ v,e = .returned v∧NewM 0 w' n n (eyM n) v∧Below w.heap.size w w':=by
 have K1:=hide (fun w'=>rzeros_any n n w' hn hn)
 have b0:=below_alloc9 w (.cells #[.int .i64 0,.int .i64 0,.slice none 0 0] 24)
 have X0:=BoxM.new w (.int .i64 0) (.int .i64 0) (.slice none 0 0)
 have s0:=size_alloc9 w (.cells #[.int .i64 0,.int .i64 0,.slice none 0 0] 24)
 have HB0:=hide b0;have HX0:=hide X0;have HS0:=hide s0
 clear b0 X0 s0
 go_enter Tryz.func25,Tryz.ntmps25
 go_wp2_with fail
 refine (uH K1 _).mono ?_
 rintro e w1 ⟨v,rfl,⟨mo,mc,rfl,nw,qs⟩,hb1⟩
 have ba:=below_alloc9 w1 (.cells #[.int .i64 n,.int .i64 n,.slice mo (List.replicate (n * n) 0).length mc] 24)
 have BB:=(uH HB0).trans (hb1.mono (uH HB0).size)
 have L0:=hide (show LpSt w (w1.alloc (.cells #[.int .i64 n,.int .i64 n,.slice mo (eyJ n 0).length mc] 24)) w1.heap.size w.heap.size n n mo mc (eyJ n 0) from by
  rw [eyJ_0]
  exact ⟨BB.trans (ba.mono BB.size),BoxM.new w1 _ _ _,((uH HX0).all hb1).all ba,qs.below ba,by have:=hb1.size;rw [uH HS0] at this;omega,BB.size⟩)
 rw [← eyJ_0]
 clear K1 hb1 ba BB nw qs HB0 HX0 HS0
 go_wp2_with fail
 generalize w1.heap.size = g at *
 go_loopw [4] (fun i wr=>∃ (j:Nat) (no:Option Addr) (nc:Nat),j≤n∧i = .int .i64 j∧Hid (LpSt w wr g w.heap.size n n no nc (eyJ n j))) (fun i _=>n - (intOf i).toNat)
 case atStart=>exact ⟨0,mo,mc,Nat.zero_le _,rfl,L0⟩
 case round =>
  clear L0
  obtain ⟨j,no,nc,hj,rfl,hL⟩:=hrel
  have y0:=(uH hL).box.c0;have y1:=(uH hL).box.c1;have y2:=(uH hL).box.c2
  by_cases hlt:j < n
  ·have hjI:(j:Int) < (n:Int):=by omega
   have C:=hide (rwith_any n n nc j j 4607182418800017408 no (eyJ n j) _ ⟨(uH hL).bits,eyJ_len n j,hn,hn⟩ hlt hlt (by decide))
   rw [eyJ_set n j hlt,show ((4607182418800017408:Nat):Int) = 4607182418800017408 from rfl] at C
   generalize (eyJ n j).length = l at *
   go_wp2_with fail
   refine Calls.mono (uH C) ?_
   rintro e w2 ⟨v,rfl,⟨no',nc',rfl,_,q2⟩,hb2⟩
   have L2:=(uH hL).all hb2
   have f0:=L2.box.free 0;have f1:=L2.box.free 1;have f2:=L2.box.free 2
   have u0:=L2.box.c0;have u1:=L2.box.c1;have u2:=L2.box.c2
   have L3:=hide (L2.put q2)
   clear C hb2 L2 hL y0 y1 y2 q2
   go_wp2_with fail
   go_round
   case rel=>exact ⟨j+1,no',nc',by omega,by go_num,L3⟩
   case measure=>simp [intOf];omega
  ·have hjj:j = n:=by omega
   subst hjj
   rw [eyJ_all] at hL y2
   have r0:=(uH hL).res.c0;have r1:=(uH hL).res.c1;have r2:=(uH hL).res.c2
   have f0:=(uH hL).res.free 0;have f1:=(uH hL).res.free 1;have f2:=(uH hL).res.free 2
   have XP:=(uH hL).res.put (.int .i64 j) (.int .i64 j) (.slice no (eyM j).length nc)
   have z0:=XP.c0;have z1:=XP.c1;have z2:=XP.c2
   have Q:=hide (BitsAt.putM (uH hL).bits (uH hL).res (.int .i64 j) (.int .i64 j) (.slice no (eyM j).length nc))
   have BP:=hide (below_putM (uH hL).bel (Nat.le_refl _) (.int .i64 j) (.int .i64 j) (.slice no (eyM j).length nc))
   clear XP hL
   go_wp2
   exact bodyPost_ret (v:=.agg #[.int .i64 j,.int .i64 j,.slice no (eyM j).length nc]) (by simp [results,Tryz.results25,go_sem,z0,z1,z2]) rfl ⟨_,rfl,NewM.any (uH Q),uH BP⟩
end Go.Proofs.YtlnphkioddknfaaGreatDoor
namespace Go.Proofs.YtlnphkioddknfaaGreatDoor
open Go.RowKit
attribute [local go_sem ↓] Go.wp_at_zero Go.wp_at_succ
theorem gvK_range (f g:Nat):-1074≤gvK f g∧gvK f g≤1024:=by
 have h1:=fR_lt f;have h2:=fR_lt g
 exact eX_range _ (by omega)
end Go.Proofs.YtlnphkioddknfaaGreatDoor
namespace Go.Proofs.YtlnphkioddknfaaGreatDoor
open Go.RowKit
attribute [local go_sem ↓] Go.wp_at_zero Go.wp_at_succ
def roJ (r c:Nat) (S:List Nat) (i k C s j:Nat):List Nat:=mkM r c (fun p q=>if q < j then (if p = i then aV (mV C (elM c S i q)) (mV s (elM c S k q)) else if p = k then aV (mV C (elM c S k q)) (fN (mV s (elM c S i q))) else elM c S p q) else elM c S p q)
theorem roJ_0 (r c:Nat) (S:List Nat) (i k C s:Nat) (h:S.length = r * c):roJ r c S i k C s 0 = S:=by
 unfold roJ
 rw [← mkM_of r c S h]
 refine mkM_congr (fun p q _ _=>?_)
 rw [mkM_of r c S h,if_neg (by omega)]
 rfl
theorem roJ_all (r c:Nat) (S:List Nat) (i k C s:Nat):roJ r c S i k C s c = roM r c S i k C s:=by
 unfold roJ roM
 exact mkM_congr (fun p q _ hq=>if_pos hq)
theorem roJ_len (r c:Nat) (S:List Nat) (i k C s j:Nat):(roJ r c S i k C s j).length = r * c:=mkM_len _ _ _
theorem roJ_set (r c:Nat) (S:List Nat) {i k C s j:Nat} (hi:i < r) (hk:k < r) (hne:i ≠ k) (hj:j < c) :
  ((roJ r c S i k C s j).set (i * c+j) (aV (mV C (elM c S i j)) (mV s (elM c S k j)))).set (k * c+j) (aV (mV C (elM c S k j)) (fN (mV s (elM c S i j)))) = roJ r c S i k C s (j+1):=by
 unfold roJ
 rw [mkM_set r c _ _ hi hj,mkM_set r c _ _ hk hj]
 refine mkM_congr (fun p q _ _=>?_)
 by_cases q1:q < j
 ·rw [if_neg (fun e=>by omega),if_neg (fun e=>by omega),if_pos q1,if_pos (show q < j+1 by omega)]
 ·by_cases q2:q = j
  ·subst q2
   by_cases p2:p = k
   ·rw [if_pos ⟨p2,rfl⟩,if_pos (show q < q+1 by omega),if_neg (fun e=>hne (e.symm.trans p2)),if_pos p2]
   ·rw [if_neg (fun e=>p2 e.1)]
    by_cases p1:p = i
    ·rw [if_pos ⟨p1,rfl⟩,if_pos (show q < q+1 by omega),if_pos p1]
    ·rw [if_neg (fun e=>p1 e.1),if_neg (show ¬ q < q by omega),if_pos (show q < q+1 by omega),if_neg p1,if_neg p2]
  ·rw [if_neg (fun e=>q2 e.2),if_neg (fun e=>q2 e.2),if_neg q1,if_neg (show ¬ q < j+1 by omega)]
end Go.Proofs.YtlnphkioddknfaaGreatDoor
namespace Go.Proofs.YtlnphkioddknfaaGreatDoor
open Go.RowKit
attribute [local go_sem ↓] Go.wp_at_zero Go.wp_at_succ
def coM (r c:Nat) (S:List Nat) (i k C s:Nat):List Nat:=tuM c r (roM c r (tuM r c S) i k C s)
theorem coM_len (r c:Nat) (S:List Nat) (i k C s:Nat):(coM r c S i k C s).length = r * c:=by
 unfold coM tuM
 exact mkM_len _ _ _
end Go.Proofs.YtlnphkioddknfaaGreatDoor
namespace Go.Proofs.YtlnphkioddknfaaGreatDoor
open Go.RowKit
attribute [local go_sem ↓] Go.wp_at_zero Go.wp_at_succ
structure TuSt (w wr:World) (r c n cap f1 s1 k1 f2 s2 k2:Nat) (ao:Option Addr) (S:List Nat):Prop where
 bel:Below w.heap.size w wr
 m:BoxM wr w.heap.size (.int .i64 r) (.int .i64 c) (.slice ao n cap)
 u:BoxT 211 wr (w.heap.size+1) (.int .i64 f1) (.int .i64 s1) (.int .i64 k1)
 l:BoxT 211 wr (w.heap.size+1+1) (.int .i64 f2) (.int .i64 s2) (.int .i64 k2)
 res:BoxM wr (w.heap.size+1+1+1) (.int .i64 0) (.int .i64 0) (.slice none 0 0)
 row:RowB wr (w.heap.size+1+1+1+1) S
theorem TuSt.all {w wr w':World} {r c n cap f1 s1 k1 f2 s2 k2:Nat} {ao:Option Addr} {S:List Nat} (h:TuSt w wr r c n cap f1 s1 k1 f2 s2 k2 ao S) (hb:Below wr.heap.size wr w'):TuSt w w' r c n cap f1 s1 k1 f2 s2 k2 ao S :=
 ⟨h.bel.trans (hb.mono h.bel.size),h.m.all hb,h.u.all hb,h.l.all hb,h.res.all hb,h.row.below hb h.row.lt⟩
theorem TuSt.set {w wr:World} {r c n cap f1 s1 k1 f2 s2 k2:Nat} {ao:Option Addr} {S:List Nat} (h:TuSt w wr r c n cap f1 s1 k1 f2 s2 k2 ao S) (p x:Nat):TuSt w (wr.setCell ⟨w.heap.size+1+1+1+1,p,none⟩ (.int .u64 (x:Int))) r c n cap f1 s1 k1 f2 s2 k2 ao (S.set p x) :=
 ⟨h.bel.setCell (p:=⟨w.heap.size+1+1+1+1,p,none⟩) (by show w.heap.size≤w.heap.size+1+1+1+1;omega) _,h.m.other (p:=⟨w.heap.size+1+1+1+1,p,none⟩) (by show w.heap.size ≠ w.heap.size+1+1+1+1;omega) _,h.u.other (p:=⟨w.heap.size+1+1+1+1,p,none⟩) (by show w.heap.size+1 ≠ w.heap.size+1+1+1+1;omega) _,h.l.other (p:=⟨w.heap.size+1+1+1+1,p,none⟩) (by show w.heap.size+1+1 ≠ w.heap.size+1+1+1+1;omega) _,h.res.other (p:=⟨w.heap.size+1+1+1+1,p,none⟩) (by show w.heap.size+1+1+1 ≠ w.heap.size+1+1+1+1;omega) _,h.row.set p x⟩
theorem TuSt.start (w:World) (r c n cap f1 s1 k1 f2 s2 k2:Nat) (ao:Option Addr) :
  TuSt w (((((w.alloc (.cells #[.int .i64 r,.int .i64 c,.slice ao n cap] 24)).alloc (.cells #[.int .i64 f1,.int .i64 s1,.int .i64 k1] 211)).alloc (.cells #[.int .i64 f2,.int .i64 s2,.int .i64 k2] 211)).alloc (.cells #[.int .i64 0,.int .i64 0,.slice none 0 0] 24)).alloc (.cells (madeCells #[.int .u64 0] n) 37)) r c n cap f1 s1 k1 f2 s2 k2 ao (List.replicate n 0):=by
 have b0:=below_alloc9 w (.cells #[.int .i64 r,.int .i64 c,.slice ao n cap] 24)
 have s0:=size_alloc9 w (.cells #[.int .i64 r,.int .i64 c,.slice ao n cap] 24)
 have x0:=BoxM.new w (.int .i64 r) (.int .i64 c) (.slice ao n cap)
 generalize w.alloc (.cells #[.int .i64 r,.int .i64 c,.slice ao n cap] 24) = w0 at *
 have b1:=below_alloc9 w0 (.cells #[.int .i64 f1,.int .i64 s1,.int .i64 k1] 211)
 have z1:=size_alloc9 w0 (.cells #[.int .i64 f1,.int .i64 s1,.int .i64 k1] 211)
 have x1:=BoxT.new 211 w0 (.int .i64 f1) (.int .i64 s1) (.int .i64 k1)
 generalize w0.alloc (.cells #[.int .i64 f1,.int .i64 s1,.int .i64 k1] 211) = w1 at *
 have b2:=below_alloc9 w1 (.cells #[.int .i64 f2,.int .i64 s2,.int .i64 k2] 211)
 have z2:=size_alloc9 w1 (.cells #[.int .i64 f2,.int .i64 s2,.int .i64 k2] 211)
 have x2:=BoxT.new 211 w1 (.int .i64 f2) (.int .i64 s2) (.int .i64 k2)
 generalize w1.alloc (.cells #[.int .i64 f2,.int .i64 s2,.int .i64 k2] 211) = w2 at *
 have b3:=below_alloc9 w2 (.cells #[.int .i64 0,.int .i64 0,.slice none 0 0] 24)
 have z3:=size_alloc9 w2 (.cells #[.int .i64 0,.int .i64 0,.slice none 0 0] 24)
 have x3:=BoxM.new w2 (.int .i64 0) (.int .i64 0) (.slice none 0 0)
 generalize w2.alloc (.cells #[.int .i64 0,.int .i64 0,.slice none 0 0] 24) = w3 at *
 have b4:=below_alloc9 w3 (.cells (madeCells #[.int .u64 0] n) 37)
 have x4:=RowB.made w3 n
 rw [s0] at x1 z1
 rw [z1] at x2 z2
 rw [z2] at x3 z3
 rw [z3] at x4
 have c1:=b0.trans (b1.mono b0.size)
 have c2:=c1.trans (b2.mono c1.size)
 have c3:=c2.trans (b3.mono c2.size)
 exact ⟨c3.trans (b4.mono c3.size),(((x0.all b1).all b2).all b3).all b4,((x1.all b2).all b3).all b4,(x2.all b3).all b4,x3.all b4,x4⟩
theorem TuSt.copied {w wr w':World} {r c n cap f1 s1 k1 f2 s2 k2:Nat} {ao:Option Addr} {S T:List Nat} (h:TuSt w wr r c n cap f1 s1 k1 f2 s2 k2 ao S) (hb:Below (w.heap.size+1+1+1+1) wr w') (hr:RowB w' (w.heap.size+1+1+1+1) T):TuSt w w' r c n cap f1 s1 k1 f2 s2 k2 ao T :=
 ⟨h.bel.trans (hb.mono (by omega)),h.m.below hb (by omega),h.u.below hb (by omega),h.l.below hb (by omega),h.res.below hb (by omega),hr⟩
theorem RowB.three {w:World} {b g:Nat} {S:List Nat} (h:RowB w b S) (hg:b ≠ g) (u u' u'':Value):RowB (((w.setCell ⟨g,0,none⟩ u).setCell ⟨g,1,none⟩ u').setCell ⟨g,2,none⟩ u'') b S:=by
 unfold RowB
 rw [Below.heap_setCell _ ⟨g,2,none⟩ u'' b hg,Below.heap_setCell _ ⟨g,1,none⟩ u' b hg,Below.heap_setCell _ ⟨g,0,none⟩ u b hg]
 exact h
theorem rowB_neM {w:World} {g b:Nat} {S:List Nat} (h:RowB w g S) {x y z:Value} (hx:BoxM w b x y z):g ≠ b:=by
 intro e
 subst e
 unfold RowB at h
 unfold BoxM at hx
 rw [h] at hx
 simp at hx
theorem copy_run (W:World) (g n cap:Nat) (ao:Option Addr) (S:List Nat) (h:RowB W g (List.replicate n 0)) (hS:BitsAt W ao cap (mxL S)) (hl:S.length = n) :
  ∃ w',(∀ ty,(Builtin.copy_ #[22,22] ty #[.slice (some ⟨g,0,none⟩) n n,.slice ao n cap]).run Tryz.prog W = .ok (.int .i64 (n:Int)) w')∧RowB w' g S∧Below g W w':=by
 rcases Nat.eq_zero_or_pos n with e | e
 ·subst e
  obtain rfl:S = []:=List.eq_nil_of_length_eq_zero hl
  exact ⟨W,fun ty=>run_copy_none W _ _ ty 37 _ _ 0 0 0 cap Tryz.underlying22 (by kernel_rfl) rfl,h,Below.refl _ _⟩
 ·obtain ⟨b,off,rfl,hb,hc⟩:=hS.ne (by rw [mxL_len];omega)
  have hcs:∀ j v,(S.map bitV)[j]? = some v→W.cell? ((⟨b,off,none⟩:Addr).add j) = some v:=by
   intro j v hv
   rw [List.getElem?_map] at hv
   obtain ⟨x,hx,rfl⟩:=Option.map_eq_some_iff.1 hv
   have hj:j < S.length:=(List.getElem?_eq_some_iff.1 hx).1
   have:=hc j (by rw [mxL_len];exact hj)
   rw [mxL_at] at this
   rw [show (⟨b,off,none⟩:Addr).add j = ⟨b,off+j,none⟩ from by simp [Addr.add],this]
   rw [List.getD_eq_getElem?_getD,hx]
   rfl
  have hlen:(S.map bitV).length = n:=by rw [List.length_map,hl]
  have run:=fun ty=>run_copy_row Tryz.prog W 22 22 ty 37 g 0 n n ⟨b,off,none⟩ n cap ((List.replicate n 0).map bitV).toArray 37 (S.map bitV) Tryz.underlying22 (by kernel_rfl) h (by rw [hlen];exact (Nat.min_self n).symm) hcs (by rw [hlen];simp) (fun v hv=>by obtain ⟨x,_,rfl⟩:=List.mem_map.1 hv;rfl)
  refine ⟨_,fun ty=>(run ty).trans (by rw [hlen];rfl),?_,below_setRow (Below.refl _ _) (Nat.le_refl _) _⟩
  unfold RowB
  rw [setRow_heap W g _ _ 37 _ h]
  congr 3
  simp
theorem lineturned_of (r c n cap f1 s1 k f2 s2 k2 C s:Nat) (ao:Option Addr) (TJ:Nat→List Nat) (P Q X Y U V:Nat→Nat) (w:World) (h36:n≤36) (h6:k≤6) (hS:BitsAt w ao cap (mxL (TJ 0))) (lJ:∀ j,(TJ j).length = n)
  (hP:∀ j,j < k→P j < n∧Q j < n∧P j ≠ Q j∧(TJ j)[P j]?.getD 0 = X j∧(TJ j)[Q j]?.getD 0 = Y j∧((TJ j).set (P j) (U j)).set (Q j) (V j) = TJ (j+1))
  (C1:∀ w' j,j < k→Calls Tryz.prog 242 #[.agg #[.int .i64 f1,.int .i64 s1,.int .i64 k],.int .i64 (j:Nat)] w' fun e w''=>e = .returned (.int .i64 (P j:Nat))∧Below w'.heap.size w' w'')
  (C2:∀ w' j,j < k→Calls Tryz.prog 242 #[.agg #[.int .i64 f2,.int .i64 s2,.int .i64 k2],.int .i64 (j:Nat)] w' fun e w''=>e = .returned (.int .i64 (Q j:Nat))∧Below w'.heap.size w' w'')
  (C3:∀ w' j,Below w.heap.size w w'→j < k→Calls Tryz.prog 243 #[.int .u64 (X j:Nat),.int .u64 (Y j:Nat),.int .u64 C,.int .u64 s] w' fun e w''=>e = .returned (.tuple #[.int .u64 (U j:Nat),.int .u64 (V j:Nat)])∧Below w'.heap.size w' w'') :
  Calls Tryz.prog 219 #[.agg #[.int .i64 r,.int .i64 c,.slice ao n cap],.agg #[.int .i64 f1,.int .i64 s1,.int .i64 k],.agg #[.int .i64 f2,.int .i64 s2,.int .i64 k2],.int .u64 C,.int .u64 s] w fun e w'=>∃ g,e = .returned (.agg #[.int .i64 r,.int .i64 c,.slice (some ⟨g,0,none⟩) n n])∧w.heap.size≤g∧RowB w' g (TJ k)∧Below w.heap.size w w':=by
 have ST:=hide (TuSt.start w r c n cap f1 s1 k f2 s2 k2 ao)
 have hmk:=run_make_row' (P:=Tryz.prog) 22 37 (.int .u64 0) 8 Tryz.underlying22 (by kernel_rfl) rfl .i64 .i64 n (by omega) (by omega)
 have HP:=hide hP;have K1:=hide C1;have K2:=hide C2;have K3:=hide C3;have LJ:=hide lJ;have HS:=hide hS
 obtain ⟨w5,hcp,hr5,hb5⟩:=copy_run _ (w.heap.size+1+1+1+1) n cap ao (TJ 0) (uH ST).row (hS.below (uH ST).bel) (lJ 0)
 have ST5:=hide ((uH ST).copied hb5 hr5)
 clear hP C1 C2 C3 lJ hS hr5 hb5
 have y0:=(uH ST).m.c0;have y1:=(uH ST).m.c1;have y2:=(uH ST).m.c2
 have q0:=(uH ST5).u.c0;have q1:=(uH ST5).u.c1;have q2:=(uH ST5).u.c2
 go_enter Tryz.func219,Tryz.ntmps219
 go_wp2_with fail
 clear hmk hcp y0 y1 y2 q0 q1 q2 ST
 go_loopw [25] (fun a wr=>∃ j:Nat,j≤k∧a = .int .i64 j∧Hid (TuSt w wr r c n cap f1 s1 k f2 s2 k2 ao (TJ j))) (fun a _=>k - (intOf a).toNat)
 case atStart=>exact ⟨0,Nat.zero_le _,rfl,ST5⟩
 case round =>
  clear ST5
  obtain ⟨j,hj,rfl,hS⟩:=hrel
  by_cases hlt:j < k
  ·have hjI:(j:Int) < (k:Int):=by omega
   obtain ⟨hp,hq,hne,hx,hy,hset⟩:=uH HP j hlt
   have KP:=hide (fun w'=>uH K1 w' j hlt);have KQ:=hide (fun w'=>uH K2 w' j hlt);have KT:=hide (fun w' hb=>uH K3 w' j hb hlt)
   have LL:=hide (uH LJ j);have HX:=hide hx;have HY:=hide hy;have HN:=hide hset
   generalize hTT:TJ j = TT at *
   generalize hTN:TJ (j+1) = TN at *
   clear HP K1 K2 K3 LJ hx hy hset
   generalize P j = p at *
   generalize Q j = q at *
   generalize X j = x at *
   generalize Y j = y at *
   generalize U j = u at *
   generalize V j = v at *
   have hpI:(p:Int) < (n:Int):=by omega
   have hqI:(q:Int) < (n:Int):=by omega
   go_wp2_with fail
   refine at_world (fun W=>TuSt w W r c n cap f1 s1 k f2 s2 k2 ao TT) (uH hS) ?_
   clear hS
   intro W st
   have ST:=hide st
   have HK:=hide (fun w' (h:Below W.heap.size W w')=>(show Below W.heap.size W w'∧(w'.cell? ⟨w.heap.size+1,0,none⟩ = some (.int .i64 f1)∧w'.cell? ⟨w.heap.size+1,1,none⟩ = some (.int .i64 s1)∧w'.cell? ⟨w.heap.size+1,2,none⟩ = some (.int .i64 k))∧(w'.cell? ⟨w.heap.size+1+1,0,none⟩ = some (.int .i64 f2)∧w'.cell? ⟨w.heap.size+1+1,1,none⟩ = some (.int .i64 s2)∧w'.cell? ⟨w.heap.size+1+1,2,none⟩ = some (.int .i64 k2)) from
    have y:=st.all h;⟨h,⟨y.u.c0,y.u.c1,y.u.c2⟩,y.l.c0,y.l.c1,y.l.c2⟩))
   clear st
   go_region_held3 (fun w'=>Below W.heap.size W w'∧(w'.cell? ⟨w.heap.size+1,0,none⟩ = some (.int .i64 f1)∧w'.cell? ⟨w.heap.size+1,1,none⟩ = some (.int .i64 s1)∧w'.cell? ⟨w.heap.size+1,2,none⟩ = some (.int .i64 k))∧(w'.cell? ⟨w.heap.size+1+1,0,none⟩ = some (.int .i64 f2)∧w'.cell? ⟨w.heap.size+1+1,1,none⟩ = some (.int .i64 s2)∧w'.cell? ⟨w.heap.size+1+1,2,none⟩ = some (.int .i64 k2)))
    (first | exact uH HK _ (Below.refl _ _).drew | exact uH HK _ (by assumption) | fail "KK")
    (first | (go_at_call 242;refine (uH KP _).mono ?_;rintro e w6 ⟨rfl,hb5⟩;have hB5:Below W.heap.size W w6:=Below.trans (And.left (by assumption)) (hb5.mono (Below.size (And.left (by assumption))));clear hb5 KP) | (go_at_call 242;refine (uH KQ _).mono ?_;rintro e w7 ⟨rfl,hb5⟩;have hB5:Below W.heap.size W w7:=Below.trans (And.left (by assumption)) (hb5.mono (Below.size (And.left (by assumption))));clear hb5 KQ) | fail "NO ARM")
   all_goals
    have ST:=hide ((uH ST).all (And.left (by assumption)))
    clear HK
    go_wp2_with fail
    refine at_world (fun W=>TuSt w W r c n cap f1 s1 k f2 s2 k2 ao TT) (uH ST) ?_
    clear ST
    rintro W0 st
    have ST:=hide (st.all ((Below.refl W0.heap.size W0).drew))
    clear st
    have c1:=(uH ST).row.cell p (by rw [uH LL];exact hp)
    have c2:=(uH ST).row.cell q (by rw [uH LL];exact hq)
    rw [uH HX] at c1
    rw [uH HY] at c2
    go_region_with (first
     | (go_at_call 243;refine (uH KT _ (uH ST).bel).mono ?_;rintro e w8 ⟨rfl,hb⟩;clear c1 c2;have S8:=(uH ST).all hb;have d1:=S8.row.cell p (by rw [uH LL];exact hp);have d2:=S8.row.cell q (by rw [uH LL];exact hq);have f1':=S8.row.free p;have f2':=S8.row.free q;have S9:=S8.set p u;have d3:=S9.row.cell q (by rw [List.length_set,uH LL];exact hq);have f3':=S9.row.free q;have P9:=hide (S9.set q v);clear S8 S9 hb ST KT)
     | fail "NO ARM")
    all_goals
     clear d1 d2 d3 f1' f2' f3'
     go_wp2_with fail
     go_round
     case rel=>exact ⟨j+1,by omega,by go_num,by rw [hTN,← uH HN];exact P9⟩
     case measure=>simp [intOf];omega
  ·have hjj:j = k:=by omega
   subst hjj
   obtain ⟨h6,h1,h2,h3,h4,h5⟩:=uH hS
   have y0:=h1.c0;have y1:=h1.c1;have y2:=h1.c2
   have r0:=h4.c0;have r1:=h4.c1;have r2:=h4.c2
   have f0:=h4.free 0;have f1:=h4.free 1;have f2:=h4.free 2
   have XP:=h4.put (.int .i64 r) (.int .i64 c) (.slice (some ⟨w.heap.size+1+1+1+1,0,none⟩) n n)
   have z0:=XP.c0;have z1:=XP.c1;have z2:=XP.c2
   have RW:=hide (h5.three (g:=w.heap.size+1+1+1) (by omega) (.int .i64 r) (.int .i64 c) (.slice (some ⟨w.heap.size+1+1+1+1,0,none⟩) n n))
   have BP:=hide (below_putM h6 (b:=w.heap.size+1+1+1) (by omega) (.int .i64 r) (.int .i64 c) (.slice (some ⟨w.heap.size+1+1+1+1,0,none⟩) n n))
   clear XP h1 h2 h3 h4 h5 h6 hS
   go_wp2_with fail
   exact bodyPost_ret (v:=.agg #[.int .i64 r,.int .i64 c,.slice (some ⟨w.heap.size+1+1+1+1,0,none⟩) n n]) (by simp [results,Tryz.results219,go_sem,z0,z1,z2]) rfl ⟨_,rfl,by omega,uH RW,uH BP⟩
end Go.Proofs.YtlnphkioddknfaaGreatDoor
