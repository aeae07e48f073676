/- Part 32 of the texts. -/
import Derived.Test.YtlnphkioddknfaaGreatDoorParti28
import Derived.Test.YtlnphkioddknfaaGreatDoorParti29
import Derived.Test.YtlnphkioddknfaaGreatDoorParti30
import Derived.Test.YtlnphkioddknfaaGreatDoorParti16
import Derived.Test.YtlnphkioddknfaaGreatDoorParti17
import Derived.Test.YtlnphkioddknfaaGreatDoorParti18
import Derived.Deep.Cut
import Derived.BigQuiet
import Derived.Test.YtlnphkioddknfaaGreatDoorParti31
import Derived.Test.YtlnphkioddknfaaGreatDoorParti05
import Derived.Maps.AppendAt
import Derived.Test.YtlnphkioddknfaaGreatDoorParti09
import Derived.Lib.BitFns
import Derived.Maps.Own
import Derived.Maps.OwnOps
import Derived.Maps.OwnSet
import Derived.DeepKeys4
import Derived.Test.YtlnphkioddknfaaGreatDoorParti10
import Derived.WalkSmall
import Derived.Test.YtlnphkioddknfaaGreatDoorParti08
import Derived.Test.YtlnphkioddknfaaGreatDoorParti01
import Derived.OwnWalk
import Derived.Test.YtlnphkioddknfaaGreatDoorParti02
import Derived.Test.YtlnphkioddknfaaGreatDoorParti07
import Derived.Deep.RegionWith
import Derived.Deep.RegionLaw
import Derived.Test.YtlnphkioddknfaaGreatDoorParti26
import Derived.Deep.RegionHeld3
set_option maxHeartbeats 4000000
set_option maxRecDepth 20000
namespace Go.Proofs.YtlnphkioddknfaaGreatDoor
open Go.RowKit
def toN (I:List Int):List Nat:=I.map Int.toNat
theorem toN_len (I:List Int):(toN I).length = I.length:=by simp [toN]
theorem toN_at (I:List Int) (j:Nat) (hj:j < I.length):(toN I)[j]? = some (atB I j):=by simp [toN,atB,hj]
theorem toN_take (I:List Int) (j:Nat) (hj:j < I.length):(toN I).take (j+1) = (toN I).take j ++ [atB I j]:=by
 rw [List.take_add_one,toN_at I j hj]
 rfl
theorem toN_all (I:List Int) (P:Nat→Prop) (h:∀ j,j < I.length→P (atB I j)):∀ x ∈ toN I,P x:=by
 intro x hx
 obtain ⟨j,hj,rfl⟩:=List.getElem_of_mem hx
 have hj':j < I.length:=by rw [← toN_len];exact hj
 have e:=toN_at I j hj'
 rw [List.getElem?_eq_getElem hj] at e
 rw [Option.some.inj e]
 exact h j hj'
theorem bgF_snoc (x:Nat):∀ (xs:List Nat) (m:Nat),bgF m (xs ++ [x]) = mx (bgF m xs) (fR x):=by
 intro xs
 induction xs with
 | nil=>intro m;rfl
 | cons y ys ih=>intro m;exact ih _
theorem ssV_snoc (k:Int) (x:Nat):∀ (xs:List Nat) (s:Nat),ssV k s (xs ++ [x]) = sqV k (ssV k s xs) x:=by
 intro xs
 induction xs with
 | nil=>intro m;rfl
 | cons y ys ih=>intro m;exact ih _
theorem bgK_list (I:List Int):∀ j,j≤I.length→bgK I j = bgF 0 ((toN I).take j):=by
 intro j
 induction j with
 | zero=>intro _;rfl
 | succ j ih =>
  intro hj
  rw [toN_take I j (by omega),bgF_snoc,← ih (by omega)]
  rfl
theorem bgK_all (I:List Int):bgK I I.length = bgF 0 (toN I):=by
 rw [bgK_list I _ (Nat.le_refl _),List.take_of_length_le (by rw [toN_len];exact Nat.le_refl _)]
theorem dtK_list (k:Int) (I:List Int):∀ j,j≤I.length→dtK (tL k I) (tL k I) j = ssV k 0 ((toN I).take j):=by
 intro j
 induction j with
 | zero=>intro _;rfl
 | succ j ih =>
  intro hj
  rw [toN_take I j (by omega),ssV_snoc,← ih (by omega)]
  show aV (dtK (tL k I) (tL k I) j) (mV (atB (tL k I) j) (atB (tL k I) j)) = _
  rw [show atB (tL k I) j = xV (atB I j) (-k) from mkL_at _ _ j (by omega)]
  rfl
theorem dtK_all (k:Int) (I:List Int):dtK (tL k I) (tL k I) I.length = ssV k 0 (toN I):=by
 rw [dtK_list k I _ (Nat.le_refl _),List.take_of_length_le (by rw [toN_len];exact Nat.le_refl _)]
theorem nmV_nrV (I:List Int):nmV I = nrV (toN I):=by
 unfold nmV nrV
 rw [dtK_all,bgK_all]
end Go.Proofs.YtlnphkioddknfaaGreatDoor
namespace Go.Proofs.YtlnphkioddknfaaGreatDoor
def gvC (f g:Nat):Nat:=if fK g = 0 then 4607182418800017408 else if fK f = 0 then 0 else dV (xV f (-gvK f g)) (gvN f g)
def gvS (f g:Nat):Nat:=if fK g = 0 then 0 else if fK f = 0 then 4607182418800017408 else dV (xV g (-gvK f g)) (gvN f g)
def gvR (f g:Nat):Nat:=if fK g = 0 then f else if fK f = 0 then g else xV (gvN f g) (gvK f g)
end Go.Proofs.YtlnphkioddknfaaGreatDoor
namespace Go.Proofs.YtlnphkioddknfaaGreatDoor
def roM (r c:Nat) (S:List Nat) (i k C s:Nat):List Nat:=mkM r c (fun p q=>if p = i then aV (mV C (elM c S i q)) (mV s (elM c S k q)) else if p = k then aV (mV C (elM c S k q)) (fN (mV s (elM c S i q))) else elM c S p q)
theorem roM_len (r c:Nat) (S:List Nat) (i k C s:Nat):(roM r c S i k C s).length = r * c:=mkM_len _ _ _
theorem el_ro (r c:Nat) (S:List Nat) (i k C s:Nat) {p q:Nat} (hp:p < r) (hq:q < c):elM c (roM r c S i k C s) p q = if p = i then aV (mV C (elM c S i q)) (mV s (elM c S k q)) else if p = k then aV (mV C (elM c S k q)) (fN (mV s (elM c S i q))) else elM c S p q:=el_mk r c _ hp hq
end Go.Proofs.YtlnphkioddknfaaGreatDoor
namespace Go.Proofs.YtlnphkioddknfaaGreatDoor
open Go.RowKit
attribute [local go_sem ↓] Go.wp_at_zero Go.wp_at_succ
structure LpSt (w wr:World) (g gr p q:Nat) (mo:Option Addr) (mc:Nat) (S:List Nat):Prop where
 bel:Below w.heap.size w wr
 box:BoxM wr g (.int .i64 p) (.int .i64 q) (.slice mo S.length mc)
 res:BoxM wr gr (.int .i64 0) (.int .i64 0) (.slice none 0 0)
 bits:BitsAt wr mo mc (mxL S)
 ne:gr ≠ g
 lo:w.heap.size≤g
theorem LpSt.all {w wr w':World} {g gr p q:Nat} {mo:Option Addr} {mc:Nat} {S:List Nat} (h:LpSt w wr g gr p q mo mc S) (hb:Below wr.heap.size wr w'):LpSt w w' g gr p q mo mc S :=
 ⟨h.bel.trans (hb.mono h.bel.size),h.box.all hb,h.res.all hb,h.bits.below hb,h.ne,h.lo⟩
theorem LpSt.put {w wr:World} {g gr p q:Nat} {mo:Option Addr} {mc:Nat} {S:List Nat} (h:LpSt w wr g gr p q mo mc S) {no:Option Addr} {nc:Nat} {T:List Nat} (hT:BitsAt wr no nc (mxL T)) :
  LpSt w (((wr.setCell ⟨g,0,none⟩ (.int .i64 p)).setCell ⟨g,1,none⟩ (.int .i64 q)).setCell ⟨g,2,none⟩ (.slice no T.length nc)) g gr p q no nc T :=
 ⟨below_putM h.bel h.lo _ _ _,h.box.put _ _ _,((h.res.other (p:=⟨g,0,none⟩) h.ne _).other (p:=⟨g,1,none⟩) h.ne _).other (p:=⟨g,2,none⟩) h.ne _,hT.putM h.box _ _ _,h.ne,h.lo⟩
theorem NewM.any {w:World} {r c:Nat} {S:List Nat} {ao:Option Addr} {cap:Nat} (h:BitsAt w ao cap (mxL S)):NewM 0 w r c S (.agg #[.int .i64 r,.int .i64 c,.slice ao S.length cap]):=by
 refine ⟨ao,cap,rfl,?_,h⟩
 rcases h.2.2 with e | ⟨b,off,e1,_,_⟩
 ·exact .inl e
 ·exact .inr ⟨b,off,e1,Nat.zero_le _⟩
def eyJ (n j:Nat):List Nat:=mkM n n (fun i k=>if k = i∧i < j then 4607182418800017408 else 0)
theorem eyJ_0 (n:Nat):eyJ n 0 = List.replicate (n * n) 0:=by
 rw [mkM_noughts]
 exact mkM_congr (fun i k _ _=>if_neg (by omega))
theorem eyJ_set (n j:Nat) (hj:j < n):(eyJ n j).set (j * n+j) 4607182418800017408 = eyJ n (j+1):=by
 unfold eyJ
 rw [mkM_set n n _ _ hj hj]
 refine mkM_congr (fun x y _ _=>?_)
 by_cases h:x = j∧y = j
 ·rw [if_pos h,if_pos (by omega)]
 ·rw [if_neg h]
  by_cases e:y = x∧x < j
  ·rw [if_pos e,if_pos (by omega)]
  ·rw [if_neg e,if_neg (by omega)]
theorem eyJ_all (n:Nat):eyJ n n = eyM n:=mkM_congr (fun i k hi _=>by
 by_cases e:k = i
 ·rw [if_pos ⟨e,hi⟩,if_pos e]
 ·rw [if_neg (fun h=>e h.1),if_neg e])
theorem eyJ_len (n j:Nat):(eyJ n j).length = n * n:=mkM_len _ _ _
theorem reye_any (n:Nat) (w:World) (hn:n≤6) :
  Calls Tryz.prog 25 #[.int .i64 n] w fun e w'=>∃ v,e = .returned v∧NewM 0 w' n n (eyM n) v∧Below w.heap.size w w':=by
 have K1:=hide (fun w'=>rzeros_any n n w' hn hn)
 have b0:=below_alloc9 w (.cells #[.int .i64 0,.int .i64 0,.slice none 0 0] 24)
 have X0:=BoxM.new w (.int .i64 0) (.int .i64 0) (.slice none 0 0)
 have s0:=size_alloc9 w (.cells #[.int .i64 0,.int .i64 0,.slice none 0 0] 24)
 have HB0:=hide b0;have HX0:=hide X0;have HS0:=hide s0
 clear b0 X0 s0
 go_enter Tryz.func25,Tryz.ntmps25
 go_wp2_with fail
 refine (uH K1 _).mono ?_
 rintro e w1 ⟨v,rfl,⟨mo,mc,rfl,nw,qs⟩,hb1⟩
 have ba:=below_alloc9 w1 (.cells #[.int .i64 n,.int .i64 n,.slice mo (List.replicate (n * n) 0).length mc] 24)
 have BB:=(uH HB0).trans (hb1.mono (uH HB0).size)
 have L0:=hide (show LpSt w (w1.alloc (.cells #[.int .i64 n,.int .i64 n,.slice mo (eyJ n 0).length mc] 24)) w1.heap.size w.heap.size n n mo mc (eyJ n 0) from by
  rw [eyJ_0]
  exact ⟨BB.trans (ba.mono BB.size),BoxM.new w1 _ _ _,((uH HX0).all hb1).all ba,qs.below ba,by have:=hb1.size;rw [uH HS0] at this;omega,BB.size⟩)
 rw [← eyJ_0]
 clear K1 hb1 ba BB nw qs HB0 HX0 HS0
 go_wp2_with fail
 generalize w1.heap.size = g at *
 go_loopw [4] (fun i wr=>∃ (j:Nat) (no:Option Addr) (nc:Nat),j≤n∧i = .int .i64 j∧Hid (LpSt w wr g w.heap.size n n no nc (eyJ n j))) (fun i _=>n - (intOf i).toNat)
 case atStart=>exact ⟨0,mo,mc,Nat.zero_le _,rfl,L0⟩
 case round =>
  clear L0
  obtain ⟨j,no,nc,hj,rfl,hL⟩:=hrel
  have y0:=(uH hL).box.c0;have y1:=(uH hL).box.c1;have y2:=(uH hL).box.c2
  by_cases hlt:j < n
  ·have hjI:(j:Int) < (n:Int):=by omega
   have C:=hide (rwith_any n n nc j j 4607182418800017408 no (eyJ n j) _ ⟨(uH hL).bits,eyJ_len n j,hn,hn⟩ hlt hlt (by decide))
   rw [eyJ_set n j hlt,show ((4607182418800017408:Nat):Int) = 4607182418800017408 from rfl] at C
   generalize (eyJ n j).length = l at *
   go_wp2_with fail
   refine Calls.mono (uH C) ?_
   rintro e w2 ⟨v,rfl,⟨no',nc',rfl,_,q2⟩,hb2⟩
   have L2:=(uH hL).all hb2
   have f0:=L2.box.free 0;have f1:=L2.box.free 1;have f2:=L2.box.free 2
   have u0:=L2.box.c0;have u1:=L2.box.c1;have u2:=L2.box.c2
   have L3:=hide (L2.put q2)
   clear C hb2 L2 hL y0 y1 y2 q2
   go_wp2_with fail
   go_round
   case rel=>exact ⟨j+1,no',nc',by omega,by go_num,L3⟩
   case measure=>simp [intOf];omega
  ·have hjj:j = n:=by omega
   subst hjj
   rw [eyJ_all] at hL y2
   have r0:=(uH hL).res.c0;have r1:=(uH hL).res.c1;have r2:=(uH hL).res.c2
   have f0:=(uH hL).res.free 0;have f1:=(uH hL).res.free 1;have f2:=(uH hL).res.free 2
   have XP:=(uH hL).res.put (.int .i64 j) (.int .i64 j) (.slice no (eyM j).length nc)
   have z0:=XP.c0;have z1:=XP.c1;have z2:=XP.c2
   have Q:=hide (BitsAt.putM (uH hL).bits (uH hL).res (.int .i64 j) (.int .i64 j) (.slice no (eyM j).length nc))
   have BP:=hide (below_putM (uH hL).bel (Nat.le_refl _) (.int .i64 j) (.int .i64 j) (.slice no (eyM j).length nc))
   clear XP hL
   go_wp2
   exact bodyPost_ret (v:=.agg #[.int .i64 j,.int .i64 j,.slice no (eyM j).length nc]) (by simp [results,Tryz.results25,go_sem,z0,z1,z2]) rfl ⟨_,rfl,NewM.any (uH Q),uH BP⟩
end Go.Proofs.YtlnphkioddknfaaGreatDoor
namespace Go.Proofs.YtlnphkioddknfaaGreatDoor
open Go.RowKit
attribute [local go_sem ↓] Go.wp_at_zero Go.wp_at_succ
theorem gvK_range (f g:Nat):-1074≤gvK f g∧gvK f g≤1024:=by
 have h1:=fR_lt f;have h2:=fR_lt g
 exact eX_range _ (by omega)
end Go.Proofs.YtlnphkioddknfaaGreatDoor
