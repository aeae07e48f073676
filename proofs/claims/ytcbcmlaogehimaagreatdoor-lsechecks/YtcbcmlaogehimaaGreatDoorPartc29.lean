/- Part 29 of the texts. -/
import Derived.Test.YtcbcmlaogehimaaGreatDoorPartc28
import Derived.Test.YtcbcmlaogehimaaGreatDoorPartc18
import Derived.Test.YtcbcmlaogehimaaGreatDoorPartc27
import Derived.Test.YtcbcmlaogehimaaGreatDoorPartc26
import Derived.Test.YtcbcmlaogehimaaGreatDoorPartc21
import Derived.Deep.RegionLaw
import Derived.Test.YtcbcmlaogehimaaGreatDoorPartc22
import Derived.Test.YtcbcmlaogehimaaGreatDoorPartc20
import Derived.Test.YtcbcmlaogehimaaGreatDoorPartc17
import Derived.Test.YtcbcmlaogehimaaGreatDoorPartc16
import Derived.Test.YtcbcmlaogehimaaGreatDoorPartc14
import Derived.Test.YtcbcmlaogehimaaGreatDoorPartc19
import Derived.Test.YtcbcmlaogehimaaGreatDoorPartc11
import Derived.Test.YtcbcmlaogehimaaGreatDoorPartc12
import Derived.Test.YtcbcmlaogehimaaGreatDoorPartc13
import Derived.Deep.Cut
import Derived.BigQuiet
import Derived.Test.YtcbcmlaogehimaaGreatDoorPartc04
import Derived.Maps.AppendAt
import Derived.Test.YtcbcmlaogehimaaGreatDoorPartc06
import Derived.Lib.BitFns
import Derived.Test.YtcbcmlaogehimaaGreatDoorPartc05
import Derived.Test.YtcbcmlaogehimaaGreatDoorPartc07
import Derived.Maps.Own
import Derived.Maps.OwnOps
import Derived.Maps.OwnSet
import Derived.DeepKeys4
import Derived.Test.YtcbcmlaogehimaaGreatDoorPartc08
import Derived.WalkSmall
import Derived.Test.YtcbcmlaogehimaaGreatDoorPartc01
import Derived.OwnWalk
import Derived.Test.YtcbcmlaogehimaaGreatDoorPartc02
import Derived.ChangeKeysEq
set_option maxHeartbeats 8000000
set_option maxRecDepth 20000
namespace Go.Proofs.YtcbcmlaogehimaaGreatDoor
open Go.RowKit
attribute [local go_sem ↓] Go.wp_at_zero Go.wp_at_succ
theorem less17_any (a b:Nat) (w:World) (ha:a < 18446744073709551616) (hb:b < 18446744073709551616) :
  Calls Tryz.prog 101 #[.int .u64 a,.int .u64 b] w fun r w'=>r = .returned (.bool (ltB a b))∧Below w.heap.size w w':=by
 have C:=fun w'=>corder_any a b w' ha hb
 have hB:cB a b = false→cO a b = 0:=by
  unfold cB cO
  split
  ·intro _;rfl
  ·intro e;cases e
 have hc3:cO a b = -1 ∨ cO a b = 0 ∨ cO a b = 1:=by
  unfold cO cmpI
  repeat' split
  all_goals simp
 unfold ltB
 cases hc:cB a b
 ·have h0:=hB hc
  rw [h0,hc] at C
  rw [h0]
  exact less_of a b 0 false false false w (.inl ⟨rfl,rfl,rfl,rfl⟩) C
 ·rw [hc] at C
  rcases hc3 with e | e | e
  ·rw [e] at C ⊢
   exact less_of a b (-1) true true false w (.inr (.inl ⟨rfl,rfl,rfl,rfl⟩)) C
  ·rw [e] at C ⊢
   exact less_of a b 0 true false true w (.inr (.inr (.inl ⟨rfl,rfl,rfl,rfl⟩))) C
  ·rw [e] at C ⊢
   exact less_of a b 1 true false false w (.inr (.inr (.inr ⟨rfl,rfl,rfl,rfl⟩))) C
theorem cfFlat1 (args:Array Value) (w:World):(callFunc 100 args).run Tryz.prog w = .ok (.enter 100 args) w:=by
 simp only [callFunc,go_sem]
 rfl
theorem cfSolved1 (args:Array Value) (w:World):(callFunc 163 args).run Tryz.prog w = .ok (.enter 163 args) w:=by
 simp only [callFunc,go_sem]
 rfl
theorem flat1_of (x b a g:Nat) (o:Bool) (w:World) (h1:w.cell? ⟨g,0,none⟩ = some (.int .u64 (b:Nat)))
  (C1:∀ w',Below w.heap.size w w'→Calls Tryz.prog 102 #[.int .u64 x] w' fun r w''=>r = .returned (.int .u64 (a:Nat))∧Below w'.heap.size w' w'')
  (C2:∀ w',Below w.heap.size w w'→Calls Tryz.prog 101 #[.int .u64 b,.int .u64 a] w' fun r w''=>r = .returned (.bool o)∧Below w'.heap.size w' w'') :
  Calls Tryz.prog 100 #[.int .u64 x,.pointer (some ⟨g,0,none⟩)] w fun e w'=>e = .returned (.bool (!o))∧Below w.heap.size w w':=by
 have K1:=hide C1;have K2:=hide C2
 have HK:=hide (fun w' (h:Below w.heap.size w w')=>(show Below w.heap.size w w'∧w'.cell? ⟨g,0,none⟩ = some (.int .u64 (b:Nat)) from ⟨h,cell_keep h1 h⟩))
 clear C1 C2 h1
 go_enter Tryz.func100,Tryz.ntmps100
 go_wp2_with fail
 go_region_held3 (fun w'=>Below w.heap.size w w'∧w'.cell? ⟨g,0,none⟩ = some (.int .u64 (b:Nat)))
  (first | exact uH HK _ (Below.refl _ _).drew | exact uH HK _ (by assumption) | fail "KK")
  (first | (go_at_call 102;refine (uH K1 _ (And.left (by assumption))).mono ?_;rintro e w1 ⟨rfl,hb1⟩;have hB1:Below w.heap.size w w1:=Below.trans (And.left (by assumption)) (hb1.mono (Below.size (And.left (by assumption))));clear hb1) | (go_at_call 101;refine (uH K2 _ (And.left (by assumption))).mono ?_;rintro e w2 ⟨rfl,hb2⟩;have hB2:Below w.heap.size w w2:=Below.trans (And.left (by assumption)) (hb2.mono (Below.size (And.left (by assumption))));clear hb2) | fail "NO ARM")
 go_wp2
 go_ret
 exact ⟨rfl,And.left (by assumption)⟩
theorem solved1_any (x:Nat) (w:World) (hx:x < 18446744073709551616) :
  Calls Tryz.prog 163 #[.int .u64 x] w fun e w'=>e = .returned (.bool (decide (fK x = 0)))∧Below w.heap.size w w':=by
 have K:=hide (kind_any x w hx)
 have e1:((fK x:Int) == 0) = decide (fK x = 0):=by
  rw [Bool.eq_iff_iff]
  simp
 generalize hk:decide (fK x = 0) = b at *
 generalize fK x = k at *
 go_enter Tryz.func163,Tryz.ntmps163
 go_wp2_with fail
 refine (uH K).mono ?_
 rintro e w1 ⟨rfl,hb⟩
 have HB:=hide hb
 clear hb K
 go_wp2
 go_ret
 exact ⟨by first | (rw [e1];done) | (rw [e1];rfl) | simp,uH HB⟩
theorem flat_of (r c n cap q g0 s:Nat) (ao:Option Addr) (D:List Nat) (o:Bool) (w:World)
  (C1:∀ w',Below w.heap.size w w'→Calls Tryz.prog 63 #[.agg #[.int .i64 r,.int .i64 c,.slice ao n cap]] w' fun e w''=>e = .returned (.int .i64 0)∧Below w'.heap.size w' w'')
  (C2:∀ w',Below w.heap.size w w'→Calls Tryz.prog 96 #[.agg #[.int .i64 r,.int .i64 c,.slice ao n cap]] w' fun e w''=>∃ g,e = .returned (.slice (some ⟨g,0,none⟩) q q)∧w'.heap.size≤g∧RowB w'' g D∧Below w'.heap.size w' w'')
  (C3:∀ w' g,Below w.heap.size w w'→RowB w' g D→Calls Tryz.prog 98 #[.slice (some ⟨g,0,none⟩) q q] w' fun e w''=>e = .returned (.int .u64 (g0:Nat))∧Below w'.heap.size w' w'')
  (C4:∀ w',Below w.heap.size w w'→Calls Tryz.prog 97 #[.int .u64 g0,.int .i64 (-40)] w' fun e w''=>e = .returned (.int .u64 (s:Nat))∧Below w'.heap.size w' w'')
  (C5:∀ w' g b,Below w.heap.size w w'→RowB w' g D→w'.cell? ⟨b,0,none⟩ = some (.int .u64 (s:Nat))→Calls Tryz.prog 99 #[.slice (some ⟨g,0,none⟩) q q,.func (.func 100) #[] #[.pointer (some ⟨b,0,none⟩)]] w' fun e w''=>e = .returned (.bool o)∧Below w'.heap.size w' w'') :
  Calls Tryz.prog 50 #[.agg #[.int .i64 r,.int .i64 c,.slice ao n cap]] w fun e w'=>e = .returned (.tuple #[.bool o,.int .i64 0])∧Below w.heap.size w w':=by
 have HB:=hide (below_alloc9 w (.cells #[.int .i64 r,.int .i64 c,.slice ao n cap] 24))
 have HX:=hide (BoxM.new w (.int .i64 r) (.int .i64 c) (.slice ao n cap))
 have K1:=hide (C1 _ (uH HB));have K2:=hide C2;have K3:=hide C3;have K4:=hide C4;have K5:=hide C5
 have y0:=(uH HX).c0;have y1:=(uH HX).c1;have y2:=(uH HX).c2
 clear C1 C2 C3 C4 C5
 go_enter Tryz.func50,Tryz.ntmps50
 go_wp2_with fail
 clear y0 y1 y2
 refine (uH K1).mono ?_
 rintro e w1 ⟨rfl,hb⟩
 replace HX:=hide ((uH HX).all hb)
 replace HB:=hide ((uH HB).trans (hb.mono (uH HB).size))
 clear hb K1
 have y0:=(uH HX).c0;have y1:=(uH HX).c1;have y2:=(uH HX).c2
 go_wp2_with fail
 clear y0 y1 y2
 refine (uH K2 _ (uH HB)).mono ?_
 rintro e w2 ⟨g,rfl,_,hr,hb⟩
 replace HB:=hide ((uH HB).trans (hb.mono (uH HB).size))
 have HG:=hide hr
 clear hb hr K2 HX
 go_wp2_with fail
 refine (uH K3 _ _ (uH HB) (uH HG)).mono ?_
 rintro e w3 ⟨rfl,hb⟩
 replace HB:=hide ((uH HB).trans (hb.mono (uH HB).size))
 replace HG:=hide ((uH HG).below hb (uH HG).lt)
 clear hb K3
 go_wp2_with fail
 refine (uH K4 _ (uH HB)).mono ?_
 rintro e w4 ⟨rfl,hb⟩
 replace HB:=hide ((uH HB).trans (hb.mono (uH HB).size))
 replace HG:=hide ((uH HG).below hb (uH HG).lt)
 have ba:=below_alloc9 w4 (.cells #[.int .u64 (s:Nat)] 69)
 have HC:=hide (new_cell w4 (.int .u64 (s:Nat)) 69)
 replace HB:=hide ((uH HB).trans (ba.mono (uH HB).size))
 replace HG:=hide ((uH HG).below ba (uH HG).lt)
 clear hb ba K4
 go_wp2_with fail
 refine (uH K5 _ _ _ (uH HB) (uH HG) (uH HC)).mono ?_
 rintro e w5 ⟨rfl,hb⟩
 replace HB:=hide ((uH HB).trans (hb.mono (uH HB).size))
 clear hb K5 HG HC
 go_wp2_with fail
 exact bodyPost_ret (v:=.tuple #[.bool o,.int .i64 0]) (by simp [results,Tryz.results50,go_sem]) rfl ⟨rfl,uH HB⟩
end Go.Proofs.YtcbcmlaogehimaaGreatDoor
namespace Go.Proofs.YtcbcmlaogehimaaGreatDoor
open Go.RowKit
attribute [local go_sem ↓] Go.wp_at_zero Go.wp_at_succ
theorem ck_mx {w:World} {ao:Option Addr} {cap r c:Nat} {S:List Nat} (h:Mx w ao cap r c S) (hf:finL S = true):ckE (r:Int) (c:Int) (mxL S) = 0:=by
 unfold ckE
 rw [mxL_len,mx_ok h]
 have:fnK (mxL S) S.length = true:=hf
 rw [this]
 rfl
theorem dgL_lt {w:World} {ao:Option Addr} {cap r c:Nat} {S:List Nat} (h:Mx w ao cap r c S):∀ x ∈ dgL r c S,x < 18446744073709551616:=by
 intro x hx
 obtain ⟨i,_,rfl⟩:=List.mem_map.1 hx
 exact h.el_lt _ _
theorem getD_ltA {xs:List Nat} (h:∀ x ∈ xs,x < 18446744073709551616) (k:Nat):xs.getD k 0 < 18446744073709551616:=by
 rw [List.getD_eq_getElem?_getD]
 rcases Nat.lt_or_ge k xs.length with g | g
 ·rw [List.getElem?_eq_getElem g];exact h _ (List.getElem_mem g)
 ·rw [List.getElem?_eq_none g];decide
theorem rowb_bits {w:World} {g q:Nat} {xs:List Nat} (h:RowB w g xs) (hl:xs.length = q) (hx:∀ x ∈ xs,x < 18446744073709551616):BitsAt w (some ⟨g,0,none⟩) q (mxL xs):=by
 have:=h.bits hx
 rwa [hl] at this
def usE (n:Nat) (T M:List Nat):Int:=if zdB (dgL n n T) = true then 5 else if finL M = true then 0 else 2
def SvAns (w w':World) (f:Int) (n q:Nat) (M:List Nat) (e:Ending):Prop :=
 (f = 0∧∃ xo xc,e = .returned (.tuple #[.agg #[.int .i64 n,.int .i64 q,.slice xo (n * q) xc],.int .i64 0])∧NewB w.heap.size xo (mxL M)∧BitsAt w' xo xc (mxL M)∧M.length = n * q∧finL M = true) ∨
 (f ≠ 0∧e = .returned (.tuple #[.agg #[.int .i64 0,.int .i64 0,.slice none 0 0],.int .i64 f]))
theorem solved_mx (n q tc bc fo fd:Nat) (tq bo:Option Addr) (T B:List Nat) (o:Nat→Nat) (dn:Nat→Nat→Bool) (w:World) (hT:Mx w tq tc n n T) (hB:Mx w bo bc n q B) (fT:finL T = true) (fB:finL B = true) (hO:Ordr n o)
  (hfo:∀ args w,(callFunc fo args).run Tryz.prog w = .ok (.enter fo args) w) (hfd:∀ args w,(callFunc fd args).run Tryz.prog w = .ok (.enter fd args) w)
  (CO:∀ w' m,m < n→Calls Tryz.prog fo #[.int .i64 n,.int .i64 (m:Nat)] w' fun e w''=>e = .returned (.int .i64 (o m:Nat))∧Below w'.heap.size w' w'')
  (CD:∀ w' i k,i < n→k < n→Calls Tryz.prog fd #[.int .i64 (i:Nat),.int .i64 (k:Nat)] w' fun e w''=>e = .returned (.bool (dn i k))∧Below w'.heap.size w' w'') (hTab:Tab w) :
  Calls Tryz.prog 104 #[.agg #[.int .i64 n,.int .i64 n,.slice tq T.length tc],.agg #[.int .i64 n,.int .i64 q,.slice bo B.length bc],.func (.func fo) #[.int .i64 n] #[],.func (.func fd) #[] #[]] w fun e w' =>
   SvAns w w' (usE n T (trM n q (elM n T) (elM q B) o dn)) n q (trM n q (elM n T) (elM q B) o dn) e∧Below w.heap.size w w':=by
 have n6:=hT.2.2.1
 have hm:min n n = n:=Nat.min_self n
 have hT36:=hT.small;have hB36:=hB.small
 have C1:∀ w',Below w.heap.size w w'→Calls Tryz.prog 48 #[.agg #[.int .i64 n,.int .i64 n,.slice tq T.length tc],.agg #[.int .i64 n,.int .i64 q,.slice bo B.length bc]] w' fun e w''=>e = .returned (.int .i64 0)∧Below w'.heap.size w' w'':=fun w' hb=>by
  have:=checked_any n n n q tq bo tc bc (mxL T) (mxL B) w' (hT.1.below hb) (hB.1.below hb) (by rw [mxL_len];omega) (by rw [mxL_len];omega)
  rw [mxL_len,mxL_len] at this
  unfold ck2 at this
  rw [if_pos (ck_mx hT fT),ck_mx hB fB] at this
  exact this
 have C2:∀ w',Below w.heap.size w w'→Calls Tryz.prog 96 #[.agg #[.int .i64 n,.int .i64 n,.slice tq T.length tc]] w' fun e w''=>∃ g,e = .returned (.slice (some ⟨g,0,none⟩) n n)∧w'.heap.size≤g∧RowB w'' g (dgL n n T)∧Below w'.heap.size w' w'':=fun w' hb =>
  diagonal_any n n tc n tq T w' (hT.below hb) hm
 have C3:∀ w' g,Below w.heap.size w w'→RowB w' g (dgL n n T)→Calls Tryz.prog 99 #[.slice (some ⟨g,0,none⟩) n n,.func (.func 163) #[] #[]] w' fun e w''=>e = .returned (.bool (zdB (dgL n n T)))∧Below w'.heap.size w' w'':=fun w' g hb hr =>
  contF_any 163 #[] (some ⟨g,0,none⟩) n n (dgL n n T) (fun x=>decide (fK x = 0)) w' (by rw [dgL_len,hm]) (by omega) (rowb_bits hr (by rw [dgL_len,hm]) (dgL_lt hT)) cfSolved1 (fun w'' k _ _=>solved1_any _ w'' (getD_ltA (dgL_lt hT) k))
 have C4:=fun w' (hb:Below w.heap.size w w')=>through_of n q tc bc T.length B.length (n * q) fo fd tq bo T B o dn w' (hT.below hb) (hB.below hb) rfl rfl rfl hO hfo hfd CO CD (hTab.all hb)
 unfold usE
 cases hz:zdB (dgL n n T) with
 | true =>
  rw [hz] at C3
  refine (solved_rank n q T.length tc B.length bc n (dgL n n T) tq bo _ _ w C1 C2 C3).mono ?_
  rintro e w' ⟨rfl,hb⟩
  exact ⟨.inr ⟨by simp,by simp⟩,hb⟩
 | false =>
  rw [hz] at C3
  rw [if_neg (by decide)]
  cases hf:finL (trM n q (elM n T) (elM q B) o dn) with
  | true =>
   rw [if_pos rfl]
   refine (solved_ok n q T.length tc B.length bc n (n * q) (dgL n n T) (trM n q (elM n T) (elM q B) o dn) tq bo _ _ w C1 C2 C3 (fun w' hb=>(C4 w' hb).mono ?_)).mono ?_
   ·rintro e w'' ⟨S,xo,xc,e1,e2,e3,e4,e5,e6⟩
    rw [hf] at e1
    rw [e2 hf] at e4 e5
    exact ⟨xo,xc,e1,e4,e5,e6⟩
   ·rintro e w' ⟨xo,xc,rfl,h1,h2,hb⟩
    exact ⟨.inl ⟨rfl,xo,xc,rfl,h1,h2,trM_len _ _ _ _ _ _,hf⟩,hb⟩
  | false =>
   rw [if_neg (by decide)]
   refine (solved_inf n q T.length tc B.length bc n (n * q) (dgL n n T) tq bo _ _ w C1 C2 C3 (fun w' hb=>(C4 w' hb).mono ?_)).mono ?_
   ·rintro e w'' ⟨S,xo,xc,e1,e2,e3,e4,e5,e6⟩
    rw [hf] at e1
    exact ⟨xo,xc,e1,e6⟩
   ·rintro e w' ⟨rfl,hb⟩
    exact ⟨.inr ⟨by decide,rfl⟩,hb⟩
def trE17 (r c p q:Int) (I J:List Int):Int:=if ck2 r c I p q J = 0 then (if r = c∧r = p then 0 else 3) else ck2 r c I p q J
theorem solved_no (r c p q:Int) (ao bo:Option Addr) (cap d:Nat) (I J:List Int) (fo fd:Value) (w:World) (hI:BitsAt w ao cap I) (hJ:BitsAt w bo d J) (hi:I.length≤35184372088830) (hj:J.length≤35184372088830) (h:trE17 r c p q I J ≠ 0) :
  Calls Tryz.prog 104 #[.agg #[.int .i64 r,.int .i64 c,.slice ao I.length cap],.agg #[.int .i64 p,.int .i64 q,.slice bo J.length d],fo,fd] w fun e w'=>e = .returned (.tuple #[.agg #[.int .i64 0,.int .i64 0,.slice none 0 0],.int .i64 (trE17 r c p q I J)])∧Below w.heap.size w w':=by
 have C:=fun w' (hb:Below w.heap.size w w')=>checked_any r c p q ao bo cap d I J w' (hI.below hb) (hJ.below hb) hi hj
 unfold trE17 at h ⊢
 by_cases h0:ck2 r c I p q J = 0
 ·rw [if_pos h0] at h ⊢
  rw [h0] at C
  by_cases hs:r = c∧r = p
  ·rw [if_pos hs] at h;exact absurd rfl h
  ·rw [if_neg hs]
   refine solved_shape r c p q I.length cap J.length d ao bo fo fd w ?_ C
   by_cases e:r = c
   ·exact .inr ⟨e,fun e2=>hs ⟨e,e2⟩⟩
   ·exact .inl e
 ·rw [if_neg h0] at h ⊢
  refine solved_err r c p q (ck2 r c I p q J) I.length cap J.length d ao bo fo fd w ?_ C
  unfold ck2 at h0 ⊢
  split at h0
  ·rename_i g
   rw [if_pos g]
   rcases ckE_cases p q J with e | e | e
   ·exact absurd e h0
   ·exact .inl e
   ·exact .inr e
  ·rename_i g
   rw [if_neg g]
   rcases ckE_cases r c I with e | e | e
   ·exact absurd e g
   ·exact .inl e
   ·exact .inr e
end Go.Proofs.YtcbcmlaogehimaaGreatDoor
namespace Go.Proofs.YtcbcmlaogehimaaGreatDoor
open Go.RowKit
attribute [local go_sem ↓] Go.wp_at_zero Go.wp_at_succ
theorem upper_of (r c p q f:Int) (ao bo:Option Addr) (k cap m d n u:Nat) (M:List Nat) (w:World)
  (C1:∀ w',Below w.heap.size w w'→Calls Tryz.prog 104 #[.agg #[.int .i64 r,.int .i64 c,.slice ao k cap],.agg #[.int .i64 p,.int .i64 q,.slice bo m d],.func (.func 105) #[.int .i64 r] #[],.func (.func 106) #[] #[]] w' fun e w''=>SvAns w' w'' f n u M e∧Below w'.heap.size w' w'') :
  Calls Tryz.prog 52 #[.agg #[.int .i64 r,.int .i64 c,.slice ao k cap],.agg #[.int .i64 p,.int .i64 q,.slice bo m d]] w fun e w'=>SvAns w w' f n u M e∧Below w.heap.size w w':=by
 have KB:=hide (boxes3_17 w (.int .i64 r) (.int .i64 c) (.slice ao k cap) (.int .i64 p) (.int .i64 q) (.slice bo m d) (.int .i64 0) (.int .i64 0) (.slice none 0 0))
 obtain ⟨b0,x0,x1,x2⟩:=uH KB _ (by have:=Below.refl (((w.alloc (.cells #[.int .i64 r,.int .i64 c,.slice ao k cap] 24)).alloc (.cells #[.int .i64 p,.int .i64 q,.slice bo m d] 24)).alloc (.cells #[.int .i64 0,.int .i64 0,.slice none 0 0] 24)).heap.size (((w.alloc (.cells #[.int .i64 r,.int .i64 c,.slice ao k cap] 24)).alloc (.cells #[.int .i64 p,.int .i64 q,.slice bo m d] 24)).alloc (.cells #[.int .i64 0,.int .i64 0,.slice none 0 0] 24));simpa only [size_alloc9] using this)
 have K1:=hide (C1 _ b0)
 have HB:=hide b0;have HR:=hide x2
 have y0:=x0.c0;have y1:=x0.c1;have y2:=x0.c2;have u0:=x1.c0;have u1:=x1.c1;have u2:=x1.c2
 clear C1 KB b0 x0 x1 x2
 go_enter Tryz.func52,Tryz.ntmps52
 go_wp2_with fail
 clear y0 y1 y2 u0 u1 u2
 refine (uH K1).mono ?_
 rintro e w1 ⟨hans,hb⟩
 replace HR:=hide ((uH HR).all hb)
 have HB0:=hide (uH HB).size
 replace HB:=hide ((uH HB).trans (hb.mono (uH HB).size))
 clear hb K1
 rcases hans with ⟨rfl,xo,xc,rfl,hn,hq,hl,hf⟩ | ⟨hf,rfl⟩
 ·have HN:=hide (hn.least (uH HB0))
  have HQ:=hide hq
  have HL:=hide hl;have HF:=hide hf
  obtain ⟨L,hL⟩:∃ L,n * u = L:=⟨_,rfl⟩
  rw [hL]
  have EL:=hide hL
  have X3:=uH HR
  have f0:=X3.free 0;have f1:=X3.free 1;have f2:=X3.free 2
  have s0:=X3.c0;have s1:=X3.c1;have s2:=X3.c2
  have XP:=X3.put (.int .i64 n) (.int .i64 u) (.slice xo L xc)
  have z0:=XP.c0;have z1:=XP.c1;have z2:=XP.c2
  have BP:=hide (below_putM (uH HB) (b:=w.heap.size+1+1) (by omega) (.int .i64 n) (.int .i64 u) (.slice xo L xc))
  have QP:=hide ((uH HQ).putM X3 (.int .i64 n) (.int .i64 u) (.slice xo L xc))
  clear XP X3 hn hq hl hf hL
  go_wp2_with fail
  exact bodyPost_ret (v:=.tuple #[.agg #[.int .i64 n,.int .i64 u,.slice xo L xc],.int .i64 0]) (by simp [results,Tryz.results52,go_sem,z0,z1,z2]) rfl ⟨.inl ⟨rfl,xo,xc,by rw [uH EL],uH HN,uH QP,uH HL,uH HF⟩,uH BP⟩
 ·have X3:=uH HR
  have f0:=X3.free 0;have f1:=X3.free 1;have f2:=X3.free 2
  have s0:=X3.c0;have s1:=X3.c1;have s2:=X3.c2
  have XP:=X3.put (.int .i64 0) (.int .i64 0) (.slice none 0 0)
  have z0:=XP.c0;have z1:=XP.c1;have z2:=XP.c2
  have BP:=hide (below_putM (uH HB) (b:=w.heap.size+1+1) (by omega) (.int .i64 0) (.int .i64 0) (.slice none 0 0))
  have HF:=hide hf
  clear XP X3 hf
  go_wp2_with fail
  exact bodyPost_ret (v:=.tuple #[.agg #[.int .i64 0,.int .i64 0,.slice none 0 0],.int .i64 f]) (by simp [results,Tryz.results52,go_sem,z0,z1,z2]) rfl ⟨.inr ⟨uH HF,rfl⟩,uH BP⟩
theorem lower_of (r c p q f:Int) (ao bo:Option Addr) (k cap m d n u:Nat) (M:List Nat) (w:World)
  (C1:∀ w',Below w.heap.size w w'→Calls Tryz.prog 104 #[.agg #[.int .i64 r,.int .i64 c,.slice ao k cap],.agg #[.int .i64 p,.int .i64 q,.slice bo m d],.func (.func 178) #[.int .i64 r] #[],.func (.func 179) #[] #[]] w' fun e w''=>SvAns w' w'' f n u M e∧Below w'.heap.size w' w'') :
  Calls Tryz.prog 128 #[.agg #[.int .i64 r,.int .i64 c,.slice ao k cap],.agg #[.int .i64 p,.int .i64 q,.slice bo m d]] w fun e w'=>SvAns w w' f n u M e∧Below w.heap.size w w':=by
 have KB:=hide (boxes3_17 w (.int .i64 r) (.int .i64 c) (.slice ao k cap) (.int .i64 p) (.int .i64 q) (.slice bo m d) (.int .i64 0) (.int .i64 0) (.slice none 0 0))
 obtain ⟨b0,x0,x1,x2⟩:=uH KB _ (by have:=Below.refl (((w.alloc (.cells #[.int .i64 r,.int .i64 c,.slice ao k cap] 24)).alloc (.cells #[.int .i64 p,.int .i64 q,.slice bo m d] 24)).alloc (.cells #[.int .i64 0,.int .i64 0,.slice none 0 0] 24)).heap.size (((w.alloc (.cells #[.int .i64 r,.int .i64 c,.slice ao k cap] 24)).alloc (.cells #[.int .i64 p,.int .i64 q,.slice bo m d] 24)).alloc (.cells #[.int .i64 0,.int .i64 0,.slice none 0 0] 24));simpa only [size_alloc9] using this)
 have K1:=hide (C1 _ b0)
 have HB:=hide b0;have HR:=hide x2
 have y0:=x0.c0;have y1:=x0.c1;have y2:=x0.c2;have u0:=x1.c0;have u1:=x1.c1;have u2:=x1.c2
 clear C1 KB b0 x0 x1 x2
 go_enter Tryz.func128,Tryz.ntmps128
 go_wp2_with fail
 clear y0 y1 y2 u0 u1 u2
 refine (uH K1).mono ?_
 rintro e w1 ⟨hans,hb⟩
 replace HR:=hide ((uH HR).all hb)
 have HB0:=hide (uH HB).size
 replace HB:=hide ((uH HB).trans (hb.mono (uH HB).size))
 clear hb K1
 rcases hans with ⟨rfl,xo,xc,rfl,hn,hq,hl,hf⟩ | ⟨hf,rfl⟩
 ·have HN:=hide (hn.least (uH HB0))
  have HQ:=hide hq
  have HL:=hide hl;have HF:=hide hf
  obtain ⟨L,hL⟩:∃ L,n * u = L:=⟨_,rfl⟩
  rw [hL]
  have EL:=hide hL
  have X3:=uH HR
  have f0:=X3.free 0;have f1:=X3.free 1;have f2:=X3.free 2
  have s0:=X3.c0;have s1:=X3.c1;have s2:=X3.c2
  have XP:=X3.put (.int .i64 n) (.int .i64 u) (.slice xo L xc)
  have z0:=XP.c0;have z1:=XP.c1;have z2:=XP.c2
  have BP:=hide (below_putM (uH HB) (b:=w.heap.size+1+1) (by omega) (.int .i64 n) (.int .i64 u) (.slice xo L xc))
  have QP:=hide ((uH HQ).putM X3 (.int .i64 n) (.int .i64 u) (.slice xo L xc))
  clear XP X3 hn hq hl hf hL
  go_wp2_with fail
  exact bodyPost_ret (v:=.tuple #[.agg #[.int .i64 n,.int .i64 u,.slice xo L xc],.int .i64 0]) (by simp [results,Tryz.results128,go_sem,z0,z1,z2]) rfl ⟨.inl ⟨rfl,xo,xc,by rw [uH EL],uH HN,uH QP,uH HL,uH HF⟩,uH BP⟩
 ·have X3:=uH HR
  have f0:=X3.free 0;have f1:=X3.free 1;have f2:=X3.free 2
  have s0:=X3.c0;have s1:=X3.c1;have s2:=X3.c2
  have XP:=X3.put (.int .i64 0) (.int .i64 0) (.slice none 0 0)
  have z0:=XP.c0;have z1:=XP.c1;have z2:=XP.c2
  have BP:=hide (below_putM (uH HB) (b:=w.heap.size+1+1) (by omega) (.int .i64 0) (.int .i64 0) (.slice none 0 0))
  have HF:=hide hf
  clear XP X3 hf
  go_wp2_with fail
  exact bodyPost_ret (v:=.tuple #[.agg #[.int .i64 0,.int .i64 0,.slice none 0 0],.int .i64 f]) (by simp [results,Tryz.results128,go_sem,z0,z1,z2]) rfl ⟨.inr ⟨uH HF,rfl⟩,uH BP⟩
theorem upper_mx (n q tc bc:Nat) (tq bo:Option Addr) (T B:List Nat) (w:World) (hT:Mx w tq tc n n T) (hB:Mx w bo bc n q B) (fT:finL T = true) (fB:finL B = true) (hTab:Tab w) :
  Calls Tryz.prog 52 #[.agg #[.int .i64 n,.int .i64 n,.slice tq T.length tc],.agg #[.int .i64 n,.int .i64 q,.slice bo B.length bc]] w fun e w'=>SvAns w w' (usE n T (upM n q T B)) n q (upM n q T B) e∧Below w.heap.size w w' :=
 upper_of n n n q (usE n T (upM n q T B)) tq bo T.length tc B.length bc n q (upM n q T B) w (fun w' hb=>solved_mx n q tc bc 105 106 tq bo T B (fun m=>n - 1 - m) dnU w' (hT.below hb) (hB.below hb) fT fB (ord_last n) cfLast cfUp1 (fun w' m hm=>fromLast_any n m w' hT.2.2.1 hm) (fun w' i k _ _=>up1_any i k w') (hTab.all hb))
theorem upper_no (r c p q:Int) (ao bo:Option Addr) (cap d:Nat) (I J:List Int) (w:World) (hI:BitsAt w ao cap I) (hJ:BitsAt w bo d J) (hi:I.length≤35184372088830) (hj:J.length≤35184372088830) (h:trE17 r c p q I J ≠ 0) :
  Calls Tryz.prog 52 #[.agg #[.int .i64 r,.int .i64 c,.slice ao I.length cap],.agg #[.int .i64 p,.int .i64 q,.slice bo J.length d]] w fun e w'=>SvAns w w' (trE17 r c p q I J) 0 0 [] e∧Below w.heap.size w w' :=
 upper_of r c p q (trE17 r c p q I J) ao bo I.length cap J.length d 0 0 [] w (fun w' hb=>(solved_no r c p q ao bo cap d I J _ _ w' (hI.below hb) (hJ.below hb) hi hj h).mono (by
  rintro e w'' ⟨rfl,hb2⟩
  exact ⟨.inr ⟨h,rfl⟩,hb2⟩))
theorem lower_mx (n q tc bc:Nat) (tq bo:Option Addr) (T B:List Nat) (w:World) (hT:Mx w tq tc n n T) (hB:Mx w bo bc n q B) (fT:finL T = true) (fB:finL B = true) (hTab:Tab w) :
  Calls Tryz.prog 128 #[.agg #[.int .i64 n,.int .i64 n,.slice tq T.length tc],.agg #[.int .i64 n,.int .i64 q,.slice bo B.length bc]] w fun e w'=>SvAns w w' (usE n T (loM n q T B)) n q (loM n q T B) e∧Below w.heap.size w w' :=
 lower_of n n n q (usE n T (loM n q T B)) tq bo T.length tc B.length bc n q (loM n q T B) w (fun w' hb=>solved_mx n q tc bc 178 179 tq bo T B (fun m=>m) dnL w' (hT.below hb) (hB.below hb) fT fB (ord_first n) cfFirst cfLo1 (fun w' m _=>fromFirst_any n m w') (fun w' i k _ _=>lo1_any i k w') (hTab.all hb))
theorem bg_dg (D:List Nat):bgK (mxL D) D.length = bgF 0 D:=by
 have:=bgK_all (mxL D)
 rwa [mxL_len,toN_mxL] at this
theorem bgF_lt17 (D:List Nat):bgF 0 D < 18446744073709551616:=by
 rw [← bg_dg]
 exact bgK_lt _ _
theorem fR_lt17 (a:Nat):fR a < 18446744073709551616:=by unfold fR;omega
theorem flat_any (r c cap:Nat) (ao:Option Addr) (S:List Nat) (w:World) (h:Mx w ao cap r c S) (hf:finL S = true) (hT:Tab w) :
  Calls Tryz.prog 50 #[.agg #[.int .i64 r,.int .i64 c,.slice ao S.length cap]] w fun e w'=>e = .returned (.tuple #[.bool (ftB r c S),.int .i64 0])∧Below w.heap.size w w':=by
 have h36:=h.small
 have r6:=h.2.2.1
 have hl:(dgL r c S).length = min r c:=dgL_len r c S
 refine flat_of r c S.length cap (min r c) (bgF 0 (dgL r c S)) (xV (bgF 0 (dgL r c S)) (-40)) ao (dgL r c S) (ftB r c S) w (fun w' hb=>?_) (fun w' hb=>diagonal_any r c cap (min r c) ao S w' (h.below hb) rfl) (fun w' g hb hr=>?_) (fun w' hb=>vscale_any _ (-40) w' (bgF_lt17 _) (hT.all hb)) (fun w' g b hb hr hc=>?_)
 ·have:=ccheck_any r c ao cap (mxL S) w' (h.1.below hb) (by rw [mxL_len];omega)
  rw [mxL_len,ck_mx h hf] at this
  exact this
 ·have:=vBiggest_any (some ⟨g,0,none⟩) (min r c) (mxL (dgL r c S)) w' (rowb_bits hr hl (dgL_lt h)) (by rw [mxL_len,hl];omega)
  rw [mxL_len,bg_dg,hl] at this
  exact this
 ·refine contF_any 100 #[.pointer (some ⟨b,0,none⟩)] (some ⟨g,0,none⟩) (min r c) (min r c) (dgL r c S) (fun x=>!ltB (xV (bgF 0 (dgL r c S)) (-40)) (fR x)) w' hl (by omega) (rowb_bits hr hl (dgL_lt h)) cfFlat1 (fun w'' k hb2 hk=>?_)
  have hx:=getD_ltA (dgL_lt h) k
  exact flat1_of _ _ (fR ((dgL r c S).getD k 0)) b (ltB (xV (bgF 0 (dgL r c S)) (-40)) (fR ((dgL r c S).getD k 0))) w'' (cell_keep hc hb2) (fun w3 _=>cabs_any _ w3 hx) (fun w3 _=>less17_any _ _ w3 (xV_lt _ _ (bgF_lt17 _)) (fR_lt17 _))
end Go.Proofs.YtcbcmlaogehimaaGreatDoor
namespace Go.Proofs.YtcbcmlaogehimaaGreatDoor
open Go.RowKit
attribute [local go_sem ↓] Go.wp_at_zero Go.wp_at_succ
theorem least_err (r c p q er:Int) (tn tc bn bc:Nat) (tq bo:Option Addr) (w:World) (her:er = 1 ∨ er = 4)
  (C1:∀ w',Below w.heap.size w w'→Calls Tryz.prog 48 #[.agg #[.int .i64 r,.int .i64 c,.slice tq tn tc],.agg #[.int .i64 p,.int .i64 q,.slice bo bn bc]] w' fun e w''=>e = .returned (.int .i64 er)∧Below w'.heap.size w' w'') :
  Calls Tryz.prog 15 #[.agg #[.int .i64 r,.int .i64 c,.slice tq tn tc],.agg #[.int .i64 p,.int .i64 q,.slice bo bn bc]] w fun e w'=>e = .returned (.tuple #[.agg #[.int .i64 0,.int .i64 0,.slice none 0 0],.int .i64 er])∧Below w.heap.size w w':=by
 have KB:=hide (boxes3_17 w (.int .i64 r) (.int .i64 c) (.slice tq tn tc) (.int .i64 p) (.int .i64 q) (.slice bo bn bc) (.int .i64 0) (.int .i64 0) (.slice none 0 0))
 obtain ⟨b0,x0,x1,x2⟩:=uH KB _ (by have:=Below.refl (((w.alloc (.cells #[.int .i64 r,.int .i64 c,.slice tq tn tc] 24)).alloc (.cells #[.int .i64 p,.int .i64 q,.slice bo bn bc] 24)).alloc (.cells #[.int .i64 0,.int .i64 0,.slice none 0 0] 24)).heap.size (((w.alloc (.cells #[.int .i64 r,.int .i64 c,.slice tq tn tc] 24)).alloc (.cells #[.int .i64 p,.int .i64 q,.slice bo bn bc] 24)).alloc (.cells #[.int .i64 0,.int .i64 0,.slice none 0 0] 24));simpa only [size_alloc9] using this)
 have K1:=hide (C1 _ b0)
 have HB:=hide b0;have HT:=hide x0;have HU:=hide x1;have HR:=hide x2
 have y0:=x0.c0;have y1:=x0.c1;have y2:=x0.c2;have u0:=x1.c0;have u1:=x1.c1;have u2:=x1.c2
 clear C1 KB b0 x0 x1 x2
 rcases her with rfl | rfl
 all_goals
  go_enter Tryz.func15,Tryz.ntmps15
  go_wp2_with fail
  clear y0 y1 y2 u0 u1 u2
  refine (uH K1).mono ?_
  rintro e w1 ⟨rfl,hb⟩
  replace HT:=hide ((uH HT).all hb)
  replace HU:=hide ((uH HU).all hb)
  replace HR:=hide ((uH HR).all hb)
  replace HB:=hide ((uH HB).trans (hb.mono (uH HB).size))
  clear hb K1
  have y0:=(uH HT).c0;have y1:=(uH HT).c1;have y2:=(uH HT).c2;have u0:=(uH HU).c0;have u1:=(uH HU).c1;have u2:=(uH HU).c2
  clear y0 y1 y2 u0 u1 u2
  have X3:=uH HR
  have f0:=X3.free 0;have f1:=X3.free 1;have f2:=X3.free 2
  have s0:=X3.c0;have s1:=X3.c1;have s2:=X3.c2
  have XP:=X3.put (.int .i64 0) (.int .i64 0) (.slice none 0 0)
  have z0:=XP.c0;have z1:=XP.c1;have z2:=XP.c2
  have BP:=hide (below_putM (uH HB) (b:=w.heap.size+1+1) (by omega) (.int .i64 0) (.int .i64 0) (.slice none 0 0))
  clear XP X3
  go_wp2_with fail
  exact bodyPost_ret (v:=.tuple #[.agg #[.int .i64 0,.int .i64 0,.slice none 0 0],.int .i64 _]) (by simp [results,Tryz.results15,go_sem,z0,z1,z2]) rfl ⟨rfl,uH BP⟩
theorem least_shape (r c p q:Int) (tn tc bn bc:Nat) (tq bo:Option Addr) (w:World) (hsh:r < c ∨ (¬ r < c∧¬ r = p))
  (C1:∀ w',Below w.heap.size w w'→Calls Tryz.prog 48 #[.agg #[.int .i64 r,.int .i64 c,.slice tq tn tc],.agg #[.int .i64 p,.int .i64 q,.slice bo bn bc]] w' fun e w''=>e = .returned (.int .i64 0)∧Below w'.heap.size w' w'') :
  Calls Tryz.prog 15 #[.agg #[.int .i64 r,.int .i64 c,.slice tq tn tc],.agg #[.int .i64 p,.int .i64 q,.slice bo bn bc]] w fun e w'=>e = .returned (.tuple #[.agg #[.int .i64 0,.int .i64 0,.slice none 0 0],.int .i64 3])∧Below w.heap.size w w':=by
 have KB:=hide (boxes3_17 w (.int .i64 r) (.int .i64 c) (.slice tq tn tc) (.int .i64 p) (.int .i64 q) (.slice bo bn bc) (.int .i64 0) (.int .i64 0) (.slice none 0 0))
 obtain ⟨b0,x0,x1,x2⟩:=uH KB _ (by have:=Below.refl (((w.alloc (.cells #[.int .i64 r,.int .i64 c,.slice tq tn tc] 24)).alloc (.cells #[.int .i64 p,.int .i64 q,.slice bo bn bc] 24)).alloc (.cells #[.int .i64 0,.int .i64 0,.slice none 0 0] 24)).heap.size (((w.alloc (.cells #[.int .i64 r,.int .i64 c,.slice tq tn tc] 24)).alloc (.cells #[.int .i64 p,.int .i64 q,.slice bo bn bc] 24)).alloc (.cells #[.int .i64 0,.int .i64 0,.slice none 0 0] 24));simpa only [size_alloc9] using this)
 have K1:=hide (C1 _ b0)
 have HB:=hide b0;have HT:=hide x0;have HU:=hide x1;have HR:=hide x2
 have y0:=x0.c0;have y1:=x0.c1;have y2:=x0.c2;have u0:=x1.c0;have u1:=x1.c1;have u2:=x1.c2
 clear C1 KB b0 x0 x1 x2
 have hne:¬ r < c→¬ r = p→(r != p) = true:=fun _ e=>bne_iff_ne.2 e
 rcases hsh with hsh | ⟨hsh,hsh2⟩
 ·clear hne
  go_enter Tryz.func15,Tryz.ntmps15
  go_wp2_with fail
  clear y0 y1 y2 u0 u1 u2
  refine (uH K1).mono ?_
  rintro e w1 ⟨rfl,hb⟩
  replace HT:=hide ((uH HT).all hb)
  replace HU:=hide ((uH HU).all hb)
  replace HR:=hide ((uH HR).all hb)
  replace HB:=hide ((uH HB).trans (hb.mono (uH HB).size))
  clear hb K1
  have y0:=(uH HT).c0;have y1:=(uH HT).c1;have y2:=(uH HT).c2;have u0:=(uH HU).c0;have u1:=(uH HU).c1;have u2:=(uH HU).c2
  have X3:=uH HR
  have f0:=X3.free 0;have f1:=X3.free 1;have f2:=X3.free 2
  have s0:=X3.c0;have s1:=X3.c1;have s2:=X3.c2
  have XP:=X3.put (.int .i64 0) (.int .i64 0) (.slice none 0 0)
  have z0:=XP.c0;have z1:=XP.c1;have z2:=XP.c2
  have BP:=hide (below_putM (uH HB) (b:=w.heap.size+1+1) (by omega) (.int .i64 0) (.int .i64 0) (.slice none 0 0))
  clear XP X3
  go_wp2_with fail
  exact bodyPost_ret (v:=.tuple #[.agg #[.int .i64 0,.int .i64 0,.slice none 0 0],.int .i64 3]) (by simp [results,Tryz.results15,go_sem,z0,z1,z2]) rfl ⟨rfl,uH BP⟩
 ·replace hne:=hne hsh hsh2
  go_enter Tryz.func15,Tryz.ntmps15
  go_wp2_with fail
  clear y0 y1 y2 u0 u1 u2
  refine (uH K1).mono ?_
  rintro e w1 ⟨rfl,hb⟩
  replace HT:=hide ((uH HT).all hb)
  replace HU:=hide ((uH HU).all hb)
  replace HR:=hide ((uH HR).all hb)
  replace HB:=hide ((uH HB).trans (hb.mono (uH HB).size))
  clear hb K1
  have y0:=(uH HT).c0;have y1:=(uH HT).c1;have y2:=(uH HT).c2;have u0:=(uH HU).c0;have u1:=(uH HU).c1;have u2:=(uH HU).c2
  have X3:=uH HR
  have f0:=X3.free 0;have f1:=X3.free 1;have f2:=X3.free 2
  have s0:=X3.c0;have s1:=X3.c1;have s2:=X3.c2
  have XP:=X3.put (.int .i64 0) (.int .i64 0) (.slice none 0 0)
  have z0:=XP.c0;have z1:=XP.c1;have z2:=XP.c2
  have BP:=hide (below_putM (uH HB) (b:=w.heap.size+1+1) (by omega) (.int .i64 0) (.int .i64 0) (.slice none 0 0))
  clear XP X3
  go_wp2_with fail
  exact bodyPost_ret (v:=.tuple #[.agg #[.int .i64 0,.int .i64 0,.slice none 0 0],.int .i64 3]) (by simp [results,Tryz.results15,go_sem,z0,z1,z2]) rfl ⟨rfl,uH BP⟩
theorem least_range (r c q:Int) (tn tc bn bc:Nat) (tq bo:Option Addr) (w:World) (hsh:¬ r < c)
  (C1:∀ w',Below w.heap.size w w'→Calls Tryz.prog 48 #[.agg #[.int .i64 r,.int .i64 c,.slice tq tn tc],.agg #[.int .i64 r,.int .i64 q,.slice bo bn bc]] w' fun e w''=>e = .returned (.int .i64 0)∧Below w'.heap.size w' w'')
  (C2:∀ w',Below w.heap.size w w'→Calls Tryz.prog 49 #[.agg #[.int .i64 r,.int .i64 c,.slice tq tn tc]] w' fun e w''=>∃ (a1 a2 b1 b2:Int) (so vo:Option Addr) (sn sd vn vd:Nat),e = .returned (.tuple #[.agg #[.int .i64 a1,.int .i64 a2,.slice so sn sd],.agg #[.int .i64 b1,.int .i64 b2,.slice vo vn vd],.int .i64 2])∧Below w'.heap.size w' w'') :
  Calls Tryz.prog 15 #[.agg #[.int .i64 r,.int .i64 c,.slice tq tn tc],.agg #[.int .i64 r,.int .i64 q,.slice bo bn bc]] w fun e w'=>e = .returned (.tuple #[.agg #[.int .i64 0,.int .i64 0,.slice none 0 0],.int .i64 2])∧Below w.heap.size w w':=by
 have KB:=hide (boxes3_17 w (.int .i64 r) (.int .i64 c) (.slice tq tn tc) (.int .i64 r) (.int .i64 q) (.slice bo bn bc) (.int .i64 0) (.int .i64 0) (.slice none 0 0))
 obtain ⟨b0,x0,x1,x2⟩:=uH KB _ (by have:=Below.refl (((w.alloc (.cells #[.int .i64 r,.int .i64 c,.slice tq tn tc] 24)).alloc (.cells #[.int .i64 r,.int .i64 q,.slice bo bn bc] 24)).alloc (.cells #[.int .i64 0,.int .i64 0,.slice none 0 0] 24)).heap.size (((w.alloc (.cells #[.int .i64 r,.int .i64 c,.slice tq tn tc] 24)).alloc (.cells #[.int .i64 r,.int .i64 q,.slice bo bn bc] 24)).alloc (.cells #[.int .i64 0,.int .i64 0,.slice none 0 0] 24));simpa only [size_alloc9] using this)
 have K1:=hide (C1 _ b0)
 have HB:=hide b0;have HT:=hide x0;have HU:=hide x1;have HR:=hide x2
 have K2:=hide C2
 have y0:=x0.c0;have y1:=x0.c1;have y2:=x0.c2;have u0:=x1.c0;have u1:=x1.c1;have u2:=x1.c2
 clear C2 C1 KB b0 x0 x1 x2
 go_enter Tryz.func15,Tryz.ntmps15
 go_wp2_with fail
 clear y0 y1 y2 u0 u1 u2
 refine (uH K1).mono ?_
 rintro e w1 ⟨rfl,hb⟩
 replace HT:=hide ((uH HT).all hb)
 replace HU:=hide ((uH HU).all hb)
 replace HR:=hide ((uH HR).all hb)
 replace HB:=hide ((uH HB).trans (hb.mono (uH HB).size))
 clear hb K1
 have y0:=(uH HT).c0;have y1:=(uH HT).c1;have y2:=(uH HT).c2;have u0:=(uH HU).c0;have u1:=(uH HU).c1;have u2:=(uH HU).c2
 go_wp2_with fail
 clear y0 y1 y2 u0 u1 u2
 refine (uH K2 _ (uH HB)).mono ?_
 rintro e w2 ⟨a1,a2,b1,b2,so,vo,sn,sd,vn,vd,rfl,hb⟩
 replace HU:=hide ((uH HU).all hb)
 replace HR:=hide ((uH HR).all hb)
 replace HB:=hide ((uH HB).trans (hb.mono (uH HB).size))
 clear hb K2
 have ba:=below_alloc9 w2 (.cells #[.int .i64 a1,.int .i64 a2,.slice so sn sd] 24)
 have ba2:=below_alloc9 (w2.alloc (.cells #[.int .i64 a1,.int .i64 a2,.slice so sn sd] 24)) (.cells #[.int .i64 b1,.int .i64 b2,.slice vo vn vd] 24)
 replace HR:=hide (((uH HR).all ba).all ba2)
 replace HB:=hide (((uH HB).trans (ba.mono (uH HB).size)).trans (ba2.mono ((uH HB).trans (ba.mono (uH HB).size)).size))
 clear ba ba2 HT HU
 have X3:=uH HR
 have f0:=X3.free 0;have f1:=X3.free 1;have f2:=X3.free 2
 have s0:=X3.c0;have s1:=X3.c1;have s2:=X3.c2
 have XP:=X3.put (.int .i64 0) (.int .i64 0) (.slice none 0 0)
 have z0:=XP.c0;have z1:=XP.c1;have z2:=XP.c2
 have BP:=hide (below_putM (uH HB) (b:=w.heap.size+1+1) (by omega) (.int .i64 0) (.int .i64 0) (.slice none 0 0))
 clear XP X3
 go_wp2_with fail
 exact bodyPost_ret (v:=.tuple #[.agg #[.int .i64 0,.int .i64 0,.slice none 0 0],.int .i64 2]) (by simp [results,Tryz.results15,go_sem,z0,z1,z2]) rfl ⟨rfl,uH BP⟩
theorem least_rank (r c q:Int) (tn tc bn bc sn vn:Nat) (S V:List Nat) (tq bo:Option Addr) (w:World) (hsh:¬ r < c)
  (C1:∀ w',Below w.heap.size w w'→Calls Tryz.prog 48 #[.agg #[.int .i64 r,.int .i64 c,.slice tq tn tc],.agg #[.int .i64 r,.int .i64 q,.slice bo bn bc]] w' fun e w''=>e = .returned (.int .i64 0)∧Below w'.heap.size w' w'')
  (C2:∀ w',Below w.heap.size w w'→Calls Tryz.prog 49 #[.agg #[.int .i64 r,.int .i64 c,.slice tq tn tc]] w' fun e w''=>∃ so sd vo vd,e = .returned (.tuple #[.agg #[.int .i64 r,.int .i64 c,.slice so sn sd],.agg #[.int .i64 c,.int .i64 c,.slice vo vn vd],.int .i64 0])∧BitsAt w'' so sd (mxL S)∧BitsAt w'' vo vd (mxL V)∧Below w'.heap.size w' w'')
  (C3:∀ w' vo vd,Below w.heap.size w w'→BitsAt w' vo vd (mxL V)→Calls Tryz.prog 50 #[.agg #[.int .i64 c,.int .i64 c,.slice vo vn vd]] w' fun e w''=>e = .returned (.tuple #[.bool true,.int .i64 0])∧Below w'.heap.size w' w'') :
  Calls Tryz.prog 15 #[.agg #[.int .i64 r,.int .i64 c,.slice tq tn tc],.agg #[.int .i64 r,.int .i64 q,.slice bo bn bc]] w fun e w'=>e = .returned (.tuple #[.agg #[.int .i64 0,.int .i64 0,.slice none 0 0],.int .i64 5])∧Below w.heap.size w w':=by
 have KB:=hide (boxes3_17 w (.int .i64 r) (.int .i64 c) (.slice tq tn tc) (.int .i64 r) (.int .i64 q) (.slice bo bn bc) (.int .i64 0) (.int .i64 0) (.slice none 0 0))
 obtain ⟨b0,x0,x1,x2⟩:=uH KB _ (by have:=Below.refl (((w.alloc (.cells #[.int .i64 r,.int .i64 c,.slice tq tn tc] 24)).alloc (.cells #[.int .i64 r,.int .i64 q,.slice bo bn bc] 24)).alloc (.cells #[.int .i64 0,.int .i64 0,.slice none 0 0] 24)).heap.size (((w.alloc (.cells #[.int .i64 r,.int .i64 c,.slice tq tn tc] 24)).alloc (.cells #[.int .i64 r,.int .i64 q,.slice bo bn bc] 24)).alloc (.cells #[.int .i64 0,.int .i64 0,.slice none 0 0] 24));simpa only [size_alloc9] using this)
 have K1:=hide (C1 _ b0)
 have HB:=hide b0;have HT:=hide x0;have HU:=hide x1;have HR:=hide x2
 have K2:=hide C2;have K3:=hide C3
 have y0:=x0.c0;have y1:=x0.c1;have y2:=x0.c2;have u0:=x1.c0;have u1:=x1.c1;have u2:=x1.c2
 clear C3 C2 C1 KB b0 x0 x1 x2
 go_enter Tryz.func15,Tryz.ntmps15
 go_wp2_with fail
 clear y0 y1 y2 u0 u1 u2
 refine (uH K1).mono ?_
 rintro e w1 ⟨rfl,hb⟩
 replace HT:=hide ((uH HT).all hb)
 replace HU:=hide ((uH HU).all hb)
 replace HR:=hide ((uH HR).all hb)
 replace HB:=hide ((uH HB).trans (hb.mono (uH HB).size))
 clear hb K1
 have y0:=(uH HT).c0;have y1:=(uH HT).c1;have y2:=(uH HT).c2;have u0:=(uH HU).c0;have u1:=(uH HU).c1;have u2:=(uH HU).c2
 go_wp2_with fail
 clear y0 y1 y2 u0 u1 u2
 refine (uH K2 _ (uH HB)).mono ?_
 rintro e w2 ⟨so,sd,vo,vd,rfl,hs,hv,hb⟩
 replace HU:=hide ((uH HU).all hb)
 replace HR:=hide ((uH HR).all hb)
 replace HB:=hide ((uH HB).trans (hb.mono (uH HB).size))
 have ba:=below_alloc9 w2 (.cells #[.int .i64 r,.int .i64 c,.slice so sn sd] 24)
 have sa:=size_alloc9 w2 (.cells #[.int .i64 r,.int .i64 c,.slice so sn sd] 24)
 have xs:=BoxM.new w2 (.int .i64 r) (.int .i64 c) (.slice so sn sd)
 have ba2:=below_alloc9 (w2.alloc (.cells #[.int .i64 r,.int .i64 c,.slice so sn sd] 24)) (.cells #[.int .i64 c,.int .i64 c,.slice vo vn vd] 24)
 have xv:=BoxM.new (w2.alloc (.cells #[.int .i64 r,.int .i64 c,.slice so sn sd] 24)) (.int .i64 c) (.int .i64 c) (.slice vo vn vd)
 rw [sa] at xv
 have HS:=hide ((hs.below ba).below ba2)
 have HV:=hide ((hv.below ba).below ba2)
 have HXS:=hide (xs.all ba2)
 have HXV:=hide xv
 replace HU:=hide (((uH HU).all ba).all ba2)
 replace HR:=hide (((uH HR).all ba).all ba2)
 replace HB:=hide (((uH HB).trans (ba.mono (uH HB).size)).trans (ba2.mono ((uH HB).trans (ba.mono (uH HB).size)).size))
 clear hb K2 ba ba2 sa xs xv hs hv HT
 have v0:=(uH HXV).c0;have v1:=(uH HXV).c1;have v2:=(uH HXV).c2
 go_wp2_with fail
 clear v0 v1 v2
 refine (uH K3 _ vo vd (uH HB) (uH HV)).mono ?_
 rintro e w3 ⟨rfl,hb⟩
 replace HU:=hide ((uH HU).all hb)
 replace HR:=hide ((uH HR).all hb)
 replace HXS:=hide ((uH HXS).all hb)
 replace HXV:=hide ((uH HXV).all hb)
 replace HS:=hide ((uH HS).below hb)
 replace HV:=hide ((uH HV).below hb)
 replace HB:=hide ((uH HB).trans (hb.mono (uH HB).size))
 clear hb K3
 have X3:=uH HR
 have f0:=X3.free 0;have f1:=X3.free 1;have f2:=X3.free 2
 have s0:=X3.c0;have s1:=X3.c1;have s2:=X3.c2
 have XP:=X3.put (.int .i64 0) (.int .i64 0) (.slice none 0 0)
 have z0:=XP.c0;have z1:=XP.c1;have z2:=XP.c2
 have BP:=hide (below_putM (uH HB) (b:=w.heap.size+1+1) (by omega) (.int .i64 0) (.int .i64 0) (.slice none 0 0))
 clear XP X3
 go_wp2_with fail
 exact bodyPost_ret (v:=.tuple #[.agg #[.int .i64 0,.int .i64 0,.slice none 0 0],.int .i64 5]) (by simp [results,Tryz.results15,go_sem,z0,z1,z2]) rfl ⟨rfl,uH BP⟩
theorem least_of (r c q f:Int) (tn tc bn bc sn vn yn m u:Nat) (S V Y M:List Nat) (tq bo:Option Addr) (w:World) (hsh:¬ r < c)
  (C1:∀ w',Below w.heap.size w w'→Calls Tryz.prog 48 #[.agg #[.int .i64 r,.int .i64 c,.slice tq tn tc],.agg #[.int .i64 r,.int .i64 q,.slice bo bn bc]] w' fun e w''=>e = .returned (.int .i64 0)∧Below w'.heap.size w' w'')
  (C2:∀ w',Below w.heap.size w w'→Calls Tryz.prog 49 #[.agg #[.int .i64 r,.int .i64 c,.slice tq tn tc]] w' fun e w''=>∃ so sd vo vd,e = .returned (.tuple #[.agg #[.int .i64 r,.int .i64 c,.slice so sn sd],.agg #[.int .i64 c,.int .i64 c,.slice vo vn vd],.int .i64 0])∧BitsAt w'' so sd (mxL S)∧BitsAt w'' vo vd (mxL V)∧Below w'.heap.size w' w'')
  (C3:∀ w' vo vd,Below w.heap.size w w'→BitsAt w' vo vd (mxL V)→Calls Tryz.prog 50 #[.agg #[.int .i64 c,.int .i64 c,.slice vo vn vd]] w' fun e w''=>e = .returned (.tuple #[.bool false,.int .i64 0])∧Below w'.heap.size w' w'')
  (C4:∀ w' so sd,Below w.heap.size w w'→BitsAt w' so sd (mxL S)→Calls Tryz.prog 51 #[.agg #[.int .i64 r,.int .i64 c,.slice so sn sd],.agg #[.int .i64 r,.int .i64 q,.slice bo bn bc]] w' fun e w''=>∃ yo yd,e = .returned (.tuple #[.agg #[.int .i64 c,.int .i64 q,.slice yo yn yd],.int .i64 0])∧BitsAt w'' yo yd (mxL Y)∧Below w'.heap.size w' w'')
  (C5:∀ w' vo vd yo yd,Below w.heap.size w w'→BitsAt w' vo vd (mxL V)→BitsAt w' yo yd (mxL Y)→Calls Tryz.prog 52 #[.agg #[.int .i64 c,.int .i64 c,.slice vo vn vd],.agg #[.int .i64 c,.int .i64 q,.slice yo yn yd]] w' fun e w''=>SvAns w' w'' f m u M e∧Below w'.heap.size w' w'') :
  Calls Tryz.prog 15 #[.agg #[.int .i64 r,.int .i64 c,.slice tq tn tc],.agg #[.int .i64 r,.int .i64 q,.slice bo bn bc]] w fun e w'=>SvAns w w' f m u M e∧Below w.heap.size w w':=by
 have KB:=hide (boxes3_17 w (.int .i64 r) (.int .i64 c) (.slice tq tn tc) (.int .i64 r) (.int .i64 q) (.slice bo bn bc) (.int .i64 0) (.int .i64 0) (.slice none 0 0))
 obtain ⟨b0,x0,x1,x2⟩:=uH KB _ (by have:=Below.refl (((w.alloc (.cells #[.int .i64 r,.int .i64 c,.slice tq tn tc] 24)).alloc (.cells #[.int .i64 r,.int .i64 q,.slice bo bn bc] 24)).alloc (.cells #[.int .i64 0,.int .i64 0,.slice none 0 0] 24)).heap.size (((w.alloc (.cells #[.int .i64 r,.int .i64 c,.slice tq tn tc] 24)).alloc (.cells #[.int .i64 r,.int .i64 q,.slice bo bn bc] 24)).alloc (.cells #[.int .i64 0,.int .i64 0,.slice none 0 0] 24));simpa only [size_alloc9] using this)
 have K1:=hide (C1 _ b0)
 have HB:=hide b0;have HT:=hide x0;have HU:=hide x1;have HR:=hide x2
 have K2:=hide C2;have K3:=hide C3;have K4:=hide C4;have K5:=hide C5
 have y0:=x0.c0;have y1:=x0.c1;have y2:=x0.c2;have u0:=x1.c0;have u1:=x1.c1;have u2:=x1.c2
 clear C5 C4 C3 C2 C1 KB b0 x0 x1 x2
 go_enter Tryz.func15,Tryz.ntmps15
 go_wp2_with fail
 clear y0 y1 y2 u0 u1 u2
 refine (uH K1).mono ?_
 rintro e w1 ⟨rfl,hb⟩
 replace HT:=hide ((uH HT).all hb)
 replace HU:=hide ((uH HU).all hb)
 replace HR:=hide ((uH HR).all hb)
 replace HB:=hide ((uH HB).trans (hb.mono (uH HB).size))
 clear hb K1
 have y0:=(uH HT).c0;have y1:=(uH HT).c1;have y2:=(uH HT).c2;have u0:=(uH HU).c0;have u1:=(uH HU).c1;have u2:=(uH HU).c2
 go_wp2_with fail
 clear y0 y1 y2 u0 u1 u2
 refine (uH K2 _ (uH HB)).mono ?_
 rintro e w2 ⟨so,sd,vo,vd,rfl,hs,hv,hb⟩
 replace HU:=hide ((uH HU).all hb)
 replace HR:=hide ((uH HR).all hb)
 replace HB:=hide ((uH HB).trans (hb.mono (uH HB).size))
 have ba:=below_alloc9 w2 (.cells #[.int .i64 r,.int .i64 c,.slice so sn sd] 24)
 have sa:=size_alloc9 w2 (.cells #[.int .i64 r,.int .i64 c,.slice so sn sd] 24)
 have xs:=BoxM.new w2 (.int .i64 r) (.int .i64 c) (.slice so sn sd)
 have ba2:=below_alloc9 (w2.alloc (.cells #[.int .i64 r,.int .i64 c,.slice so sn sd] 24)) (.cells #[.int .i64 c,.int .i64 c,.slice vo vn vd] 24)
 have xv:=BoxM.new (w2.alloc (.cells #[.int .i64 r,.int .i64 c,.slice so sn sd] 24)) (.int .i64 c) (.int .i64 c) (.slice vo vn vd)
 rw [sa] at xv
 have HS:=hide ((hs.below ba).below ba2)
 have HV:=hide ((hv.below ba).below ba2)
 have HXS:=hide (xs.all ba2)
 have HXV:=hide xv
 replace HU:=hide (((uH HU).all ba).all ba2)
 replace HR:=hide (((uH HR).all ba).all ba2)
 replace HB:=hide (((uH HB).trans (ba.mono (uH HB).size)).trans (ba2.mono ((uH HB).trans (ba.mono (uH HB).size)).size))
 clear hb K2 ba ba2 sa xs xv hs hv HT
 have v0:=(uH HXV).c0;have v1:=(uH HXV).c1;have v2:=(uH HXV).c2
 go_wp2_with fail
 clear v0 v1 v2
 refine (uH K3 _ vo vd (uH HB) (uH HV)).mono ?_
 rintro e w3 ⟨rfl,hb⟩
 replace HU:=hide ((uH HU).all hb)
 replace HR:=hide ((uH HR).all hb)
 replace HXS:=hide ((uH HXS).all hb)
 replace HXV:=hide ((uH HXV).all hb)
 replace HS:=hide ((uH HS).below hb)
 replace HV:=hide ((uH HV).below hb)
 replace HB:=hide ((uH HB).trans (hb.mono (uH HB).size))
 clear hb K3
 have v0:=(uH HXS).c0;have v1:=(uH HXS).c1;have v2:=(uH HXS).c2;have u0:=(uH HU).c0;have u1:=(uH HU).c1;have u2:=(uH HU).c2
 go_wp2_with fail
 clear v0 v1 v2 u0 u1 u2
 refine (uH K4 _ so sd (uH HB) (uH HS)).mono ?_
 rintro e w4 ⟨yo,yd,rfl,hy,hb⟩
 have ba:=below_alloc9 w4 (.cells #[.int .i64 c,.int .i64 q,.slice yo yn yd] 24)
 have HY:=hide (hy.below ba)
 have HXY:=hide (BoxM.new w4 (.int .i64 c) (.int .i64 q) (.slice yo yn yd))
 replace HR:=hide (((uH HR).all hb).all ba)
 replace HXV:=hide (((uH HXV).all hb).all ba)
 replace HV:=hide (((uH HV).below hb).below ba)
 replace HB:=hide (((uH HB).trans (hb.mono (uH HB).size)).trans (ba.mono ((uH HB).trans (hb.mono (uH HB).size)).size))
 clear hb ba hy K4 HU HXS HS
 have v0:=(uH HXV).c0;have v1:=(uH HXV).c1;have v2:=(uH HXV).c2;have u0:=(uH HXY).c0;have u1:=(uH HXY).c1;have u2:=(uH HXY).c2
 go_wp2_with fail
 clear v0 v1 v2 u0 u1 u2
 refine (uH K5 _ vo vd yo yd (uH HB) (uH HV) (uH HY)).mono ?_
 rintro e w5 ⟨hans,hb⟩
 replace HR:=hide ((uH HR).all hb)
 have HB0:=hide (uH HB).size
 replace HB:=hide ((uH HB).trans (hb.mono (uH HB).size))
 clear hb K5 HXV HXY HV HY
 rcases hans with ⟨rfl,xo,xc,rfl,hn,hq,hl,hf⟩ | ⟨hf,rfl⟩
 ·have HN:=hide (hn.least (uH HB0))
  have HQ:=hide hq
  have HL:=hide hl;have HF:=hide hf
  obtain ⟨L,hL⟩:∃ L,m * u = L:=⟨_,rfl⟩
  rw [hL]
  have EL:=hide hL
  have X3:=uH HR
  have f0:=X3.free 0;have f1:=X3.free 1;have f2:=X3.free 2
  have s0:=X3.c0;have s1:=X3.c1;have s2:=X3.c2
  have XP:=X3.put (.int .i64 m) (.int .i64 u) (.slice xo L xc)
  have z0:=XP.c0;have z1:=XP.c1;have z2:=XP.c2
  have BP:=hide (below_putM (uH HB) (b:=w.heap.size+1+1) (by omega) (.int .i64 m) (.int .i64 u) (.slice xo L xc))
  have QP:=hide ((uH HQ).putM X3 (.int .i64 m) (.int .i64 u) (.slice xo L xc))
  clear XP X3 hn hq hl hf hL
  go_wp2_with fail
  exact bodyPost_ret (v:=.tuple #[.agg #[.int .i64 m,.int .i64 u,.slice xo L xc],.int .i64 0]) (by simp [results,Tryz.results15,go_sem,z0,z1,z2]) rfl ⟨.inl ⟨rfl,xo,xc,by rw [uH EL],uH HN,uH QP,uH HL,uH HF⟩,uH BP⟩
 ·have X3:=uH HR
  have f0:=X3.free 0;have f1:=X3.free 1;have f2:=X3.free 2
  have s0:=X3.c0;have s1:=X3.c1;have s2:=X3.c2
  have XP:=X3.put (.int .i64 0) (.int .i64 0) (.slice none 0 0)
  have z0:=XP.c0;have z1:=XP.c1;have z2:=XP.c2
  have BP:=hide (below_putM (uH HB) (b:=w.heap.size+1+1) (by omega) (.int .i64 0) (.int .i64 0) (.slice none 0 0))
  have HF:=hide hf
  clear XP X3 hf
  go_wp2_with fail
  exact bodyPost_ret (v:=.tuple #[.agg #[.int .i64 0,.int .i64 0,.slice none 0 0],.int .i64 f]) (by simp [results,Tryz.results15,go_sem,z0,z1,z2]) rfl ⟨.inr ⟨uH HF,rfl⟩,uH BP⟩
end Go.Proofs.YtcbcmlaogehimaaGreatDoor
namespace Go.Proofs.YtcbcmlaogehimaaGreatDoor
open Go.RowKit
attribute [local go_sem ↓] Go.wp_at_zero Go.wp_at_succ
theorem one_bits17 (w:World) (a:Nat) (ha:a < 18446744073709551616):BitsAt (w.alloc (.cells #[.int .u64 (a:Nat)] 69)) (some ⟨w.heap.size,0,none⟩) 1 [(a:Int)]:=by
 have h:RowB (w.alloc (.cells #[.int .u64 (a:Nat)] 69)) w.heap.size [a]:=heap_alloc_new w _
 exact h.bits (fun x hx=>by simp at hx;subst hx;exact ha)
theorem pa_fin17 {S:List Nat} {r n:Nat} (hl:S.length = r * n) (h:finL S = true) {i k p q:Nat} (hp:i+p≤r) (hq:k+q≤n):finL (paM n S i k p q) = true:=by
 rw [finL_all] at h ⊢
 rw [show (paM n S i k p q).length = p * q from mkM_len _ _ _]
 intro x hx
 obtain ⟨h1,h2,h3⟩:=place_in hx
 unfold paM
 rw [← h3,mkM_atD _ _ _ h1 h2]
 exact h _ (by rw [hl];exact place_lt (show i+x / q < r by omega) (show k+x % q < n by omega))
def lqQ (r c:Nat) (S:List Nat):List Nat:=paM r (facQ r c S) 0 0 r c
def lqT (r c:Nat) (S:List Nat):List Nat:=paM c (facR r c S) 0 0 c c
def lqY (r c q:Nat) (S B:List Nat):List Nat:=muM c r q (tuM r c (lqQ r c S)) B
def lqU (r c q:Nat) (S B:List Nat):List Nat:=upM c q (lqT r c S) (lqY r c q S B)
def lqE (r c q:Nat) (S B:List Nat):Int:=if facK r c S = true then (if ftB c c (lqT r c S) = true then 5 else if finL (lqY r c q S B) = true then usE c (lqT r c S) (lqU r c q S B) else 4) else 2
theorem lqT_fin {r c:Nat} {S:List Nat} (hl:S.length = r * c) (hcr:c≤r) (hk:facK r c S = true):finL (lqT r c S) = true:=by
 unfold facK at hk
 rw [Bool.and_eq_true,Bool.and_eq_true] at hk
 exact pa_fin17 (r:=r) (qrR_len r c S hl _) hk.2.2 (by omega) (by omega)
theorem chk17 {r c p q cap d:Nat} {ao bo:Option Addr} {S B:List Nat} {w:World} (h:Mx w ao cap r c S) (h2:Mx w bo d p q B) (fS:finL S = true) (fB:finL B = true) :
  Calls Tryz.prog 48 #[.agg #[.int .i64 r,.int .i64 c,.slice ao S.length cap],.agg #[.int .i64 p,.int .i64 q,.slice bo B.length d]] w fun e w'=>e = .returned (.int .i64 0)∧Below w.heap.size w w':=by
 have s1:=h.small;have s2:=h2.small
 have:=checked_any r c p q ao bo cap d (mxL S) (mxL B) w h.1 h2.1 (by rw [mxL_len];omega) (by rw [mxL_len];omega)
 rw [mxL_len,mxL_len] at this
 unfold ck2 at this
 rwa [if_pos (ck_mx h fS),ck_mx h2 fB] at this
theorem least_mx (r c q tc bc:Nat) (tq bo:Option Addr) (S B:List Nat) (w:World) (hS:Mx w tq tc r c S) (hB:Mx w bo bc r q B) (fS:finL S = true) (fB:finL B = true) (hcr:c≤r) (hT:Tab w) :
  Calls Tryz.prog 15 #[.agg #[.int .i64 r,.int .i64 c,.slice tq S.length tc],.agg #[.int .i64 r,.int .i64 q,.slice bo B.length bc]] w fun e w'=>SvAns w w' (lqE r c q S B) c q (lqU r c q S B) e∧Below w.heap.size w w':=by
 have r6:=hS.2.2.1;have c6:=hS.2.2.2;have q6:=hB.2.2.2
 have hsh:¬ (r:Int) < (c:Int):=by omega
 have hm:min r c = c:=by omega
 have C1:=fun w' (hb:Below w.heap.size w w')=>chk17 (hS.below hb) (hB.below hb) fS fB
 unfold lqE
 cases hk:facK r c S with
 | false =>
  rw [if_neg (by decide)]
  refine (least_range r c q S.length tc B.length bc tq bo w hsh C1 (fun w' hb=>(qThin_no r c tc tq S w' (hS.below hb) fS hk (hT.all hb)).mono ?_)).mono ?_
  ·rintro e w'' ⟨v,u,rfl,⟨ao,cap,rfl,_,_⟩,⟨bo',cap',rfl,_,_⟩,hb2⟩
   exact ⟨0,0,0,0,ao,bo',0,cap,0,cap',rfl,hb2⟩
  ·rintro e w' ⟨rfl,hb⟩
   exact ⟨.inr ⟨by decide,rfl⟩,hb⟩
 | true =>
  rw [if_pos rfl]
  have fT:=lqT_fin hS.2.1 hcr hk
  have lT:(lqT r c S).length = c * c:=by unfold lqT paM;exact mkM_len _ _ _
  have lQ:(lqQ r c S).length = r * c:=by unfold lqQ paM;exact mkM_len _ _ _
  have lY:(lqY r c q S B).length = c * q:=by unfold lqY muM;exact mkM_len _ _ _
  have C2:∀ w',Below w.heap.size w w'→Calls Tryz.prog 49 #[.agg #[.int .i64 r,.int .i64 c,.slice tq S.length tc]] w' fun e w''=>∃ so sd vo vd,e = .returned (.tuple #[.agg #[.int .i64 r,.int .i64 c,.slice so (lqQ r c S).length sd],.agg #[.int .i64 c,.int .i64 c,.slice vo (lqT r c S).length vd],.int .i64 0])∧BitsAt w'' so sd (mxL (lqQ r c S))∧BitsAt w'' vo vd (mxL (lqT r c S))∧Below w'.heap.size w' w'':=fun w' hb=>by
   have:=qThin_yes r c tc tq S w' (hS.below hb) fS hk (hT.all hb)
   rw [hm] at this
   refine this.mono ?_
   rintro e w'' ⟨v,u,rfl,⟨ao,cap,rfl,_,h1⟩,⟨bo',cap',rfl,_,h2⟩,hb2⟩
   exact ⟨ao,cap,bo',cap',rfl,h1,h2,hb2⟩
  have C3:∀ w' vo vd,Below w.heap.size w w'→BitsAt w' vo vd (mxL (lqT r c S))→Calls Tryz.prog 50 #[.agg #[.int .i64 c,.int .i64 c,.slice vo (lqT r c S).length vd]] w' fun e w''=>e = .returned (.tuple #[.bool (ftB c c (lqT r c S)),.int .i64 0])∧Below w'.heap.size w' w'':=fun w' vo vd hb hv =>
   flat_any c c vd vo (lqT r c S) w' ⟨hv,lT,c6,c6⟩ fT (hT.all hb)
  cases hf:ftB c c (lqT r c S) with
  | true =>
   rw [hf] at C3
   rw [if_pos rfl]
   refine (least_rank r c q S.length tc B.length bc (lqQ r c S).length (lqT r c S).length (lqQ r c S) (lqT r c S) tq bo w hsh C1 C2 C3).mono ?_
   rintro e w' ⟨rfl,hb⟩
   exact ⟨.inr ⟨by decide,rfl⟩,hb⟩
  | false =>
   rw [hf] at C3
   rw [if_neg (by decide)]
   refine least_of r c q (if finL (lqY r c q S B) = true then usE c (lqT r c S) (lqU r c q S B) else 4) S.length tc B.length bc (lqQ r c S).length (lqT r c S).length (lqY r c q S B).length c q (lqQ r c S) (lqT r c S) (lqY r c q S B) (lqU r c q S B) tq bo w hsh C1 C2 C3 (fun w' so sd hb hs=>?_) (fun w' vo vd yo yd hb hv hy=>?_)
   ·refine (qTurned_yes r c q sd bc so bo (lqQ r c S) B w' ⟨hs,lQ,r6,c6⟩ (hB.below hb) (hT.all hb)).mono ?_
    rintro e w'' ⟨v,rfl,⟨ao,cap,rfl,_,h1⟩,hb2⟩
    exact ⟨ao,cap,rfl,h1,hb2⟩
   ·cases hy2:finL (lqY r c q S B) with
    | true =>
     rw [if_pos rfl]
     exact upper_mx c q vd yd vo yo (lqT r c S) (lqY r c q S B) w' ⟨hv,lT,c6,c6⟩ ⟨hy,lY,c6,q6⟩ fT hy2 (hT.all hb)
    | false =>
     rw [if_neg (by decide)]
     have e4:trE17 c c c q (mxL (lqT r c S)) (mxL (lqY r c q S B)) = 4:=by
      have h1:ckE (c:Int) (c:Int) (mxL (lqT r c S)) = 0:=ck_mx (w:=w') (ao:=vo) (cap:=vd) ⟨hv,lT,c6,c6⟩ fT
      have h2:ckE (c:Int) (q:Int) (mxL (lqY r c q S B)) = 4:=by
       unfold ckE
       have hm2:Mx w' yo yd c q (lqY r c q S B):=⟨hy,lY,c6,q6⟩
       rw [mxL_len,mx_ok hm2]
       have:fnK (mxL (lqY r c q S B)) (lqY r c q S B).length = false:=hy2
       rw [this]
       rfl
      unfold trE17 ck2
      rw [h1,h2]
      rfl
     have t36:c * c≤36:=Nat.mul_le_mul c6 c6
     have y36:c * q≤36:=Nat.mul_le_mul c6 q6
     have:=upper_no c c c q vo yo vd yd (mxL (lqT r c S)) (mxL (lqY r c q S B)) w' hv hy (by rw [mxL_len,lT];omega) (by rw [mxL_len,lY];omega) (by rw [e4];decide)
     rw [e4,mxL_len,mxL_len] at this
     refine this.mono ?_
     rintro e w'' ⟨hans,hb2⟩
     rcases hans with ⟨h0,_⟩ | ⟨_,rfl⟩
     ·cases h0
     ·exact ⟨.inr ⟨by decide,rfl⟩,hb2⟩
end Go.Proofs.YtcbcmlaogehimaaGreatDoor
namespace Go.Proofs.YtcbcmlaogehimaaGreatDoor
open Go.RowKit
attribute [local go_sem ↓] Go.wp_at_zero Go.wp_at_succ
theorem eq_sizes (w:World) (r c p q:Int) :
  (Op.equalIn 10000 167 (.agg #[.int .i64 r,.int .i64 c]) (.agg #[.int .i64 p,.int .i64 q])).run Tryz.prog w = .ok (decide (r = p) && decide (c = q)) w:=by
 have h:=run_equalIn_array (P:=Tryz.prog) (w:=w) 9999 (t:=167) (e:=3) (n:=2) #[.int .i64 r,.int .i64 c] #[.int .i64 p,.int .i64 q] (by kernel_rfl) rfl
 have p0:=run_part_plain (P:=Tryz.prog) w (e:=3) (by kernel_rfl) (xs:=#[.int .i64 r,.int .i64 c]) (off:=0) (v:=.int .i64 r) rfl
 have p1:=run_part_plain (P:=Tryz.prog) w (e:=3) (by kernel_rfl) (xs:=#[.int .i64 r,.int .i64 c]) (off:=1) (v:=.int .i64 c) rfl
 have q0:=run_part_plain (P:=Tryz.prog) w (e:=3) (by kernel_rfl) (xs:=#[.int .i64 p,.int .i64 q]) (off:=0) (v:=.int .i64 p) rfl
 have q1:=run_part_plain (P:=Tryz.prog) w (e:=3) (by kernel_rfl) (xs:=#[.int .i64 p,.int .i64 q]) (off:=1) (v:=.int .i64 q) rfl
 have r0:=run_equalIn_int (P:=Tryz.prog) w 9998 3 .i64 .i64 r p Tryz.underlying3
 have r1:=run_equalIn_int (P:=Tryz.prog) w 9998 3 .i64 .i64 c q Tryz.underlying3
 rw [show (10000:Nat) = 9999+1 from rfl,h,show Tryz.prog.cellsOf 3 = 1 by kernel_rfl,show List.range 2 = [0,1] from rfl]
 simp only [Op.eqItems,Sem.run_bind,Nat.zero_mul,Nat.one_mul,p0,q0,r0,Result.andThen_ok]
 by_cases e1:r = p
 ·subst e1
  by_cases e2:c = q
  ·subst e2
   simp [r1,p1]
  ·simp [r1,p1,q1,e2]
 ·simp [e1]
theorem msub_rows (r c n cap p q m d:Nat) (ao bo:Option Addr) (w:World) (hn:n≤36) (hm:m≤36) (_hr:r≤6) (_hc:c≤6) (_hp:p≤6) (_hq:q≤6) (h:(okB r c n && okB p q m) = true) (hne:r ≠ p) :
  Calls Tryz.prog 129 #[.agg #[.int .i64 r,.int .i64 c,.slice ao n cap],.agg #[.int .i64 p,.int .i64 q,.slice bo m d]] w fun e w'=>∃ v,e = .returned (.tuple #[v,.int .i64 3])∧NewM w.heap.size w' 0 0 [] v∧Below w.heap.size w w':=by
 have K:=hide (right2_any r c ao n cap p q bo m d (((w.alloc (.cells #[.int .i64 r,.int .i64 c,.slice ao n cap] 24)).alloc (.cells #[.int .i64 p,.int .i64 q,.slice bo m d] 24)).alloc (.cells #[.int .i64 0,.int .i64 0,.slice none 0 0] 24)) (by omega) (by omega))
 rw [h] at K
 simp only [size_alloc9] at K
 have KB:=hide (boxes3 w (.int .i64 r) (.int .i64 c) (.slice ao n cap) (.int .i64 p) (.int .i64 q) (.slice bo m d) (.int .i64 0) (.int .i64 0) (.slice none 0 0))
 have hEq:∀ w',(Op.equalIn 10000 167 (.agg #[.int .i64 (r:Nat),.int .i64 (c:Nat)]) (.agg #[.int .i64 (p:Nat),.int .i64 (q:Nat)])).run Tryz.prog w' = .ok false w':=fun w'=>by rw [eq_sizes];simp;omega
 clear h hne
 go_enter Tryz.func129,Tryz.ntmps129
 go_wp2_with fail
 refine Calls.mono (uH K) ?_
 rintro e w1 ⟨rfl,hb1⟩
 obtain ⟨hB,hA,hA2,hX⟩:=uH KB w1 hb1
 have HK:=hide (fun w' (h:Below w1.heap.size w1 w')=>(show Below w1.heap.size w1 w'∧(w'.cell? ⟨w.heap.size,0,none⟩ = some (.int .i64 r)∧w'.cell? ⟨w.heap.size,1,none⟩ = some (.int .i64 c)∧w'.cell? ⟨w.heap.size,2,none⟩ = some (.slice ao n cap))∧(w'.cell? ⟨w.heap.size+1,0,none⟩ = some (.int .i64 p)∧w'.cell? ⟨w.heap.size+1,1,none⟩ = some (.int .i64 q)∧w'.cell? ⟨w.heap.size+1,2,none⟩ = some (.slice bo m d)) from ⟨h,⟨(hA.all h).c0,(hA.all h).c1,(hA.all h).c2⟩,(hA2.all h).c0,(hA2.all h).c1,(hA2.all h).c2⟩))
 have HHB:=hide hB;have HHA:=hide hA;have HHC:=hide hA2;have HHX:=hide hX
 clear K KB hb1 hA hA2 hX hB
 go_wp2_with fail
 go_region_held3 (fun w'=>Below w1.heap.size w1 w'∧(w'.cell? ⟨w.heap.size,0,none⟩ = some (.int .i64 r)∧w'.cell? ⟨w.heap.size,1,none⟩ = some (.int .i64 c)∧w'.cell? ⟨w.heap.size,2,none⟩ = some (.slice ao n cap))∧(w'.cell? ⟨w.heap.size+1,0,none⟩ = some (.int .i64 p)∧w'.cell? ⟨w.heap.size+1,1,none⟩ = some (.int .i64 q)∧w'.cell? ⟨w.heap.size+1,2,none⟩ = some (.slice bo m d)))
  (first | exact uH HK _ (Below.refl _ _).drew | exact uH HK _ (by assumption) | fail "KK")
  (first | (go_at_call_of 180 (Value.agg #[.int .i64 r,.int .i64 c,.slice ao n cap]);refine (msize_any _ _ _ _ _ _).mono ?_;rintro e w2 ⟨rfl,hb2⟩;have hB2:Below w1.heap.size w1 w2:=Below.trans (And.left (by assumption)) (hb2.mono (Below.size (And.left (by assumption))));clear hb2) | (go_at_call_of 180 (Value.agg #[.int .i64 p,.int .i64 q,.slice bo m d]);refine (msize_any _ _ _ _ _ _).mono ?_;rintro e w3 ⟨rfl,hb3⟩;have hB3:Below w1.heap.size w1 w3:=Below.trans (And.left (by assumption)) (hb3.mono (Below.size (And.left (by assumption))));clear hb3) | fail "NO ARM")
 all_goals
  have hW:Below w1.heap.size w1 _:=And.left (by assumption)
  have hB:=(uH HHB).trans (hW.mono (uH HHB).size);have hA:=(uH HHA).all hW;have hA2:=(uH HHC).all hW;have hX:=(uH HHX).all hW
  clear HK HHB HHA HHC HHX hW
  have f0:=hX.free 0;have f1:=hX.free 1;have f2:=hX.free 2
  have s0:=hX.c0;have s1:=hX.c1;have s2:=hX.c2
  have XP:=hX.put (.int .i64 0) (.int .i64 0) (.slice none 0 0)
  have z0:=XP.c0;have z1:=XP.c1;have z2:=XP.c2
  have BP:=hide (below_putM hB (b:=w.heap.size+1+1) (by omega) (.int .i64 0) (.int .i64 0) (.slice none 0 0))
  clear XP hX hB
  go_wp2
  exact bodyPost_ret (v:=.tuple #[.agg #[.int .i64 0,.int .i64 0,.slice none 0 0],.int .i64 3]) (by simp [results,Tryz.results129,go_sem,z0,z1,z2]) rfl ⟨_,rfl,NewM.zero _ _,uH BP⟩
theorem msub_of (r c n cap p q m d:Nat) (ao bo:Option Addr) (x y:Nat) (S:List Nat) (w:World) (hn:n≤36) (hm:m≤36) (_hr:r≤6) (_hc:c≤6) (_hp:p≤6) (_hq:q≤6) (h:(okB r c n && okB p q m) = true) (he:r = p) (he2:c = q)
  (C:∀ w1,Below w.heap.size w w1→BoxM w1 w.heap.size (.int .i64 r) (.int .i64 c) (.slice ao n cap)→BoxM w1 (w.heap.size+1) (.int .i64 p) (.int .i64 q) (.slice bo m d)→Calls Tryz.prog 131 #[.int .i64 r,.int .i64 c,.func (.func 181) #[] #[.pointer (some ⟨w.heap.size,0,none⟩),.pointer (some ⟨w.heap.size+1,0,none⟩)]] w1 fun e w''=>∃ v,e = .returned v∧NewM w1.heap.size w'' x y S v∧Below w1.heap.size w1 w'') :
  Calls Tryz.prog 129 #[.agg #[.int .i64 r,.int .i64 c,.slice ao n cap],.agg #[.int .i64 p,.int .i64 q,.slice bo m d]] w fun e w'=>∃ v,e = .returned (.tuple #[v,.int .i64 0])∧NewM w.heap.size w' x y S v∧Below w.heap.size w w':=by
 have K:=hide (right2_any r c ao n cap p q bo m d (((w.alloc (.cells #[.int .i64 r,.int .i64 c,.slice ao n cap] 24)).alloc (.cells #[.int .i64 p,.int .i64 q,.slice bo m d] 24)).alloc (.cells #[.int .i64 0,.int .i64 0,.slice none 0 0] 24)) (by omega) (by omega))
 rw [h] at K
 simp only [size_alloc9] at K
 have KB:=hide (boxes3 w (.int .i64 r) (.int .i64 c) (.slice ao n cap) (.int .i64 p) (.int .i64 q) (.slice bo m d) (.int .i64 0) (.int .i64 0) (.slice none 0 0))
 have KT:=hide (fun w1 (hB:Below w.heap.size w w1) (hA:BoxM w1 w.heap.size (.int .i64 r) (.int .i64 c) (.slice ao n cap)) (hA2:BoxM w1 (w.heap.size+1) (.int .i64 p) (.int .i64 q) (.slice bo m d)) (hX:BoxM w1 (w.heap.size+1+1) (.int .i64 0) (.int .i64 0) (.slice none 0 0))=>(C w1 hB hA hA2).mono (R':=fun e w''=>∃ v,e = .returned v∧NewM w.heap.size w'' x y S v∧Below w.heap.size w w''∧BoxM w'' (w.heap.size+1+1) (.int .i64 0) (.int .i64 0) (.slice none 0 0)) (by
  rintro e w'' ⟨v,rfl,h1,h2⟩
  exact ⟨v,rfl,h1.least hB.size,hB.trans (h2.mono hB.size),hX.all h2⟩))
 have hEq:∀ w',(Op.equalIn 10000 167 (.agg #[.int .i64 (r:Nat),.int .i64 (c:Nat)]) (.agg #[.int .i64 (p:Nat),.int .i64 (q:Nat)])).run Tryz.prog w' = .ok true w':=fun w'=>by rw [eq_sizes];simp;omega
 clear h C he he2
 go_enter Tryz.func129,Tryz.ntmps129
 go_wp2_with fail
 refine Calls.mono (uH K) ?_
 rintro e w1 ⟨rfl,hb1⟩
 obtain ⟨hB,hA,hA2,hX⟩:=uH KB w1 hb1
 have HK:=hide (fun w' (h:Below w1.heap.size w1 w')=>(show Below w1.heap.size w1 w'∧(w'.cell? ⟨w.heap.size,0,none⟩ = some (.int .i64 r)∧w'.cell? ⟨w.heap.size,1,none⟩ = some (.int .i64 c)∧w'.cell? ⟨w.heap.size,2,none⟩ = some (.slice ao n cap))∧(w'.cell? ⟨w.heap.size+1,0,none⟩ = some (.int .i64 p)∧w'.cell? ⟨w.heap.size+1,1,none⟩ = some (.int .i64 q)∧w'.cell? ⟨w.heap.size+1,2,none⟩ = some (.slice bo m d)) from ⟨h,⟨(hA.all h).c0,(hA.all h).c1,(hA.all h).c2⟩,(hA2.all h).c0,(hA2.all h).c1,(hA2.all h).c2⟩))
 have HHB:=hide hB;have HHA:=hide hA;have HHC:=hide hA2;have HHX:=hide hX
 clear K KB hb1 hA hA2 hX hB
 go_wp2_with fail
 go_region_held3 (fun w'=>Below w1.heap.size w1 w'∧(w'.cell? ⟨w.heap.size,0,none⟩ = some (.int .i64 r)∧w'.cell? ⟨w.heap.size,1,none⟩ = some (.int .i64 c)∧w'.cell? ⟨w.heap.size,2,none⟩ = some (.slice ao n cap))∧(w'.cell? ⟨w.heap.size+1,0,none⟩ = some (.int .i64 p)∧w'.cell? ⟨w.heap.size+1,1,none⟩ = some (.int .i64 q)∧w'.cell? ⟨w.heap.size+1,2,none⟩ = some (.slice bo m d)))
  (first | exact uH HK _ (Below.refl _ _).drew | exact uH HK _ (by assumption) | fail "KK")
  (first | (go_at_call_of 180 (Value.agg #[.int .i64 r,.int .i64 c,.slice ao n cap]);refine (msize_any _ _ _ _ _ _).mono ?_;rintro e w2 ⟨rfl,hb2⟩;have hB2:Below w1.heap.size w1 w2:=Below.trans (And.left (by assumption)) (hb2.mono (Below.size (And.left (by assumption))));clear hb2) | (go_at_call_of 180 (Value.agg #[.int .i64 p,.int .i64 q,.slice bo m d]);refine (msize_any _ _ _ _ _ _).mono ?_;rintro e w3 ⟨rfl,hb3⟩;have hB3:Below w1.heap.size w1 w3:=Below.trans (And.left (by assumption)) (hb3.mono (Below.size (And.left (by assumption))));clear hb3) | fail "NO ARM")
 all_goals
  have hW:Below w1.heap.size w1 _:=And.left (by assumption)
  have hB:=(uH HHB).trans (hW.mono (uH HHB).size);have hA:=(uH HHA).all hW;have hA2:=(uH HHC).all hW;have hX:=(uH HHX).all hW
  clear HK HHB HHA HHC HHX hW
  have p0:=hA.c0;have p1:=hA.c1;have p2:=hA.c2
  have KC:=hide (uH KT _ hB hA hA2 hX)
  clear KT hA hA2 hX hB
  go_wp2_with fail
  refine Calls.mono (uH KC) ?_
  clear KC
  rintro e w9 ⟨v,rfl,⟨ro,rd,rfl,n1,q1⟩,hb2,hX⟩
  have f0:=hX.free 0;have f1:=hX.free 1;have f2:=hX.free 2
  have XP:=hX.put (.int .i64 x) (.int .i64 y) (.slice ro S.length rd)
  have z0:=XP.c0;have z1:=XP.c1;have z2:=XP.c2
  have s0:=hX.c0;have s1:=hX.c1;have s2:=hX.c2
  have Q:=hide (q1.putM hX (.int .i64 x) (.int .i64 y) (.slice ro S.length rd))
  have BP:=hide (below_putM hb2 (b:=w.heap.size+1+1) (by omega) (.int .i64 x) (.int .i64 y) (.slice ro S.length rd))
  clear XP q1 hb2 hX
  go_wp2
  exact bodyPost_ret (v:=.tuple #[.agg #[.int .i64 x,.int .i64 y,.slice ro S.length rd],.int .i64 0]) (by simp [results,Tryz.results129,go_sem,z0,z1,z2]) rfl ⟨_,rfl,⟨ro,rd,rfl,n1,uH Q⟩,uH BP⟩
theorem cfSub1 (args:Array Value) (w:World):(callFunc 181 args).run Tryz.prog w = .ok (.enter 181 args) w:=by
 simp only [callFunc,go_sem]
 rfl
def suM (r c:Nat) (S T:List Nat):List Nat:=mkM r c (fun i k=>aV (elM c S i k) (fN (elM c T i k)))
theorem mSub_ok (r c cap d:Nat) (ao bo:Option Addr) (S T:List Nat) (w:World) (h:Mx w ao cap r c S) (h2:Mx w bo d r c T) (hT:Tab w) :
  Calls Tryz.prog 129 #[.agg #[.int .i64 r,.int .i64 c,.slice ao S.length cap],.agg #[.int .i64 r,.int .i64 c,.slice bo T.length d]] w fun e w'=>∃ v,e = .returned (.tuple #[v,.int .i64 0])∧NewM w.heap.size w' r c (suM r c S T) v∧Below w.heap.size w w':=by
 refine msub_of r c S.length cap r c T.length d ao bo r c (suM r c S T) w h.small h2.small h.2.2.1 h.2.2.2 h2.2.2.1 h2.2.2.2 (by rw [mx_ok h,mx_ok h2];rfl) rfl rfl ?_
 intro w1 hB hA hA2
 refine build_any 181 _ r c _ w1 cfSub1 h.2.2.1 h.2.2.2 (fun i k _ _=>aV_lt _ _ (h.el_lt i k) (fN_lt _ (h2.el_lt i k))) ?_
 intro w' i k hb hi hk
 have hb':Below w.heap.size w w':=hB.trans (hb.mono hB.size)
 exact sub1_of r c S.length cap r c T.length d i k (elM c S i k) (elM c T i k) _ w.heap.size (w.heap.size+1) _ ao bo w' (hA.all hb) (hA2.all hb)
  (fun w'' hb''=>mat_any r c cap i k ao S w'' ((h.below hb').below hb'') hi hk) (fun w'' hb''=>mat_any r c d i k bo T w'' ((h2.below hb').below hb'') hi hk)
  (fun w'' hb''=>ssub_any _ _ w'' (h.el_lt i k) (h2.el_lt i k) ((hT.all hb').all hb''))
end Go.Proofs.YtcbcmlaogehimaaGreatDoor
namespace Go.Proofs.YtcbcmlaogehimaaGreatDoor
open Go.RowKit
theorem tu_fin20 (r c:Nat) (S:List Nat) (hl:S.length = r * c) (h:finL S = true):finL (tuM r c S) = true:=by
 rw [finL_all] at h ⊢
 intro x hx
 rw [tu_len] at hx
 obtain ⟨h1,h2,h3⟩:=place_in hx
 unfold tuM
 rw [← h3,mkM_atD _ _ _ h1 h2]
 exact h _ (by rw [hl];exact place_lt h2 h1)
def lsQ (p n:Nat) (S:List Nat):List Nat:=facQ n p (tuM p n S)
def lsT (p n:Nat) (S:List Nat):List Nat:=paM p (facR n p (tuM p n S)) 0 0 p p
def lsS (p n:Nat) (S:List Nat):List Nat:=tuM p p (lsT p n S)
def lsY (p n:Nat) (S D:List Nat):List Nat:=loM p 1 (lsS p n S) D
def lsB (p n:Nat) (S D:List Nat):Int:=if facK n p (tuM p n S) = true then (if ftB p p (lsS p n S) = true then 5 else usE p (lsS p n S) (lsY p n S D)) else 2
def lsH (m p n:Nat) (A S:List Nat):List Nat:=muM m n n A (lsQ p n S)
def lsI (m p n:Nat) (A S:List Nat):List Nat:=paM n (lsH m p n A S) 0 0 m p
def lsJ (m p n:Nat) (A S:List Nat):List Nat:=paM n (lsH m p n A S) 0 p m (n - p)
def lsF (m p n:Nat) (A S C D:List Nat):List Nat:=suM m 1 C (muM m p 1 (lsI m p n A S) (lsY p n S D))
def lsO (m p n:Nat) (A S C D:List Nat):Int:=if finL (lsH m p n A S) = true then (if finL (lsF m p n A S C D) = true then lqE m (n - p) 1 (lsJ m p n A S) (lsF m p n A S C D) else 2) else 2
def lsZ (m p n:Nat) (A S C D:List Nat):List Nat:=lqU m (n - p) 1 (lsJ m p n A S) (lsF m p n A S C D)
def lsX (m p n:Nat) (A S C D:List Nat):List Nat:=muM n n 1 (lsQ p n S) (lsY p n S D ++ lsZ m p n A S C D)
def lsV (m p n:Nat) (A S C D:List Nat):Int:=if lsB p n S D = 0 then (if lsO m p n A S C D = 0 then (if finL (lsX m p n A S C D) = true then 0 else 2) else lsO m p n A S C D) else lsB p n S D
theorem lsT_len (p n:Nat) (S:List Nat):(lsT p n S).length = p * p:=by unfold lsT paM;exact mkM_len _ _ _
theorem lsH_len (m p n:Nat) (A S:List Nat):(lsH m p n A S).length = m * n:=by unfold lsH muM;exact mkM_len _ _ _
theorem lsI_len (m p n:Nat) (A S:List Nat):(lsI m p n A S).length = m * p:=by unfold lsI paM;exact mkM_len _ _ _
theorem lsJ_len (m p n:Nat) (A S:List Nat):(lsJ m p n A S).length = m * (n - p):=by unfold lsJ paM;exact mkM_len _ _ _
theorem lsF_len (m p n:Nat) (A S C D:List Nat):(lsF m p n A S C D).length = m * 1:=by unfold lsF suM;exact mkM_len _ _ _
theorem lsX_len (m p n:Nat) (A S C D:List Nat):(lsX m p n A S C D).length = n * 1:=by unfold lsX muM;exact mkM_len _ _ _
theorem lsQ_len (p n:Nat) (S:List Nat):(lsQ p n S).length = n * n:=qrQ_len _ _ _ _ _
theorem lsY_len (p n:Nat) (S D:List Nat):(lsY p n S D).length = p * 1:=trM_len _ _ _ _ _ _
theorem lsZ_len (m p n:Nat) (A S C D:List Nat):(lsZ m p n A S C D).length = (n - p) * 1:=trM_len _ _ _ _ _ _
theorem lsS_fin {p n:Nat} {S:List Nat} (hpn:p≤n) (hk:facK n p (tuM p n S) = true):finL (lsS p n S) = true:=by
 unfold facK at hk
 rw [Bool.and_eq_true,Bool.and_eq_true] at hk
 exact tu_fin20 p p _ (lsT_len _ _ _) (pa_fin17 (r:=n) (qrR_len n p _ (tu_len _ _ _) _) hk.2.2 (by omega) (by omega))
theorem lfin_any (r c cap:Nat) (ao:Option Addr) (S:List Nat) (w:World) (h:Mx w ao cap r c S) :
  Calls Tryz.prog 76 #[.agg #[.int .i64 (r:Nat),.int .i64 (c:Nat),.slice ao S.length cap]] w fun e w'=>e = .returned (.bool (finL S))∧Below w.heap.size w w':=by
 have C:∀ w',Below w.heap.size w w'→Calls Tryz.prog 63 #[.agg #[.int .i64 (r:Nat),.int .i64 (c:Nat),.slice ao S.length cap]] w' fun e w''=>e = .returned (.int .i64 (ckE r c (mxL S)))∧Below w'.heap.size w' w'':=fun w' hb=>by
  have:=ccheck_any r c ao cap (mxL S) w' (h.1.below hb) (by rw [mxL_len];have:=h.small;omega)
  rw [mxL_len] at this
  exact this
 cases hf:finL S with
 | true =>
  rw [ck_mx h hf] at C
  exact lfin_yes r c S.length cap ao w C
 | false =>
  have e:ckE r c (mxL S) = 4:=by
   unfold ckE
   rw [mxL_len,mx_ok h]
   have:fnK (mxL S) S.length = false:=hf
   rw [this]
   rfl
  rw [e] at C
  exact lfin_no r c S.length cap ao w C
theorem lbound_any (p n cap d:Nat) (ao bo:Option Addr) (S D:List Nat) (w:World) (hS:Mx w ao cap p n S) (hD:Mx w bo d p 1 D) (fS:finL S = true) (fD:finL D = true) (hpn:p≤n) (hT:Tab w) :
  Calls Tryz.prog 72 #[.agg #[.int .i64 (p:Nat),.int .i64 (n:Nat),.slice ao S.length cap],.agg #[.int .i64 (p:Nat),.int .i64 1,.slice bo D.length d]] w fun e w'=>LbAns w' p n (lsQ p n S).length (p * 1) (lsB p n S D) (lsQ p n S) (lsY p n S D) e∧Below w.heap.size w w':=by
 have p6:=hS.2.2.1;have n6:=hS.2.2.2
 have lU:(tuM p n S).length = n * p:=tu_len p n S
 have lR:(facR n p (tuM p n S)).length = n * p:=qrR_len n p _ lU _
 have lT:=lsT_len p n S
 have lS:(lsS p n S).length = p * p:=tu_len _ _ _
 unfold lsB
 refine lbound_of p n S.length cap D.length d (tuM p n S).length (lsQ p n S).length (facR n p (tuM p n S)).length (lsT p n S).length (lsS p n S).length (p * 1) ao bo (tuM p n S) (lsQ p n S) (facR n p (tuM p n S)) (lsT p n S) (lsS p n S) (lsY p n S D) (facK n p (tuM p n S)) (ftB p p (lsS p n S)) (usE p (lsS p n S) (lsY p n S D)) 2 w (by decide)
  (fun w' hb=>(mTurn_ok p n cap ao S w' (hS.below hb)).mono ?_) (fun w' uo uc hb hu=>(qFactor_any n p uc uo (tuM p n S) w' ⟨hu,lU,n6,p6⟩ (tu_fin20 p n S hS.2.1 fS) (hT.all hb)).mono ?_) (fun w' ro rc hb hr=>(mPart_ok n p rc 0 0 p p ro (facR n p (tuM p n S)) w' ⟨hr,lR,n6,p6⟩ (by omega) (by omega)).mono ?_)
  (fun w' jo jc hb hj=>(mTurn_ok p p jc jo (lsT p n S) w' ⟨hj,lT,p6,p6⟩).mono ?_) (fun hk w' so sc hb hs=>flat_any p p sc so (lsS p n S) w' ⟨hs,lS,p6,p6⟩ (lsS_fin hpn hk) (hT.all hb)) (fun hk w' so sc hb hs=>(lower_mx p 1 sc d so bo (lsS p n S) D w' ⟨hs,lS,p6,p6⟩ (hD.below hb) (lsS_fin hpn hk) fD (hT.all hb)).mono ?_)
 ·rintro e w'' ⟨v,rfl,⟨uo,uc,rfl,_,hu⟩,hb2⟩
  exact ⟨⟨uo,uc,rfl,hu⟩,hb2⟩
 ·rintro e w'' ⟨⟨hk,v,u,rfl,⟨qo,qc,rfl,_,hq⟩,⟨ro,rc,rfl,_,hr⟩⟩ | ⟨hk,v,u,rfl,⟨qo,qc,rfl,_,hq⟩,⟨ro,rc,rfl,_,hr⟩⟩,hb2⟩
  ·exact ⟨.inl ⟨hk,qo,qc,ro,rc,rfl,hq,hr⟩,hb2⟩
  ·exact ⟨.inr ⟨hk,0,0,0,0,qo,ro,0,qc,0,rc,rfl⟩,hb2⟩
 ·rintro e w'' ⟨v,rfl,⟨jo,jc,rfl,_,hj⟩,hb2⟩
  exact ⟨⟨jo,jc,rfl,hj⟩,hb2⟩
 ·rintro e w'' ⟨v,rfl,⟨so,sc,rfl,_,hs⟩,hb2⟩
  exact ⟨⟨so,sc,rfl,hs⟩,hb2⟩
 ·rintro e w'' ⟨⟨h0,yo,yc,rfl,_,hy,_,_⟩ | ⟨h0,rfl⟩,hb2⟩
  ·exact ⟨.inl ⟨h0,yo,yc,rfl,hy⟩,hb2⟩
  ·exact ⟨.inr ⟨h0,rfl⟩,hb2⟩
theorem lopen_any (m n p ac bc cc ec qc yc:Nat) (ao bo co eo qo yo:Option Addr) (A S C D:List Nat) (w:World) (hA:Mx w ao ac m n A) (hC:Mx w co cc m 1 C) (hQ:Mx w qo qc n n (lsQ p n S)) (hY:Mx w yo yc p 1 (lsY p n S D)) (hpn:p≤n) (hnm:n≤m+p) (hT:Tab w) :
  Calls Tryz.prog 73 #[.agg #[.int .i64 (m:Nat),.int .i64 (n:Nat),.slice ao A.length ac,.int .i64 (p:Nat),.int .i64 (n:Nat),.slice bo S.length bc,.int .i64 (m:Nat),.int .i64 1,.slice co C.length cc,.int .i64 (p:Nat),.int .i64 1,.slice eo D.length ec],.agg #[.int .i64 (n:Nat),.int .i64 (n:Nat),.slice qo (lsQ p n S).length qc],.agg #[.int .i64 (p:Nat),.int .i64 1,.slice yo (p * 1) yc]] w fun e w' =>
   ((lsO m p n A S C D = 0∧∃ zo zc,e = .returned (.tuple #[.agg #[.int .i64 ((n - p:Nat):Nat),.int .i64 1,.slice zo ((n - p) * 1) zc],.int .i64 0])∧BitsAt w' zo zc (mxL (lsZ m p n A S C D))) ∨ (lsO m p n A S C D ≠ 0∧e = .returned (.tuple #[.agg #[.int .i64 0,.int .i64 0,.slice none 0 0],.int .i64 (lsO m p n A S C D)])))∧Below w.heap.size w w':=by
 have m6:=hA.2.2.1;have n6:=hA.2.2.2;have p6:p≤6:=by omega
 have lH:=lsH_len m p n A S
 have lI:=lsI_len m p n A S
 have lJ:=lsJ_len m p n A S
 have lK:(muM m p 1 (lsI m p n A S) (lsY p n S D)).length = m * 1:=by unfold muM;exact mkM_len _ _ _
 have lF:=lsF_len m p n A S C D
 unfold lsO
 refine lopen_of m n p (n - p) A.length ac S.length bc C.length cc D.length ec (lsQ p n S).length qc (p * 1) yc (lsH m p n A S).length (lsI m p n A S).length (lsJ m p n A S).length (muM m p 1 (lsI m p n A S) (lsY p n S D)).length (lsF m p n A S C D).length ((n - p) * 1) ao bo co eo qo yo (lsH m p n A S) (lsI m p n A S) (lsJ m p n A S) (muM m p 1 (lsI m p n A S) (lsY p n S D)) (lsF m p n A S C D) (lsZ m p n A S C D) (finL (lsH m p n A S)) (finL (lsF m p n A S C D)) (lqE m (n - p) 1 (lsJ m p n A S) (lsF m p n A S C D)) w (by omega) (by omega)
  (fun w' hb=>(mMul_ok m n ac n qc ao qo A (lsQ p n S) w' (hA.below hb) (hQ.below hb) (hT.all hb)).mono ?_) (fun w' ho hc hb hh=>lfin_any m n hc ho (lsH m p n A S) w' ⟨hh,lH,m6,n6⟩) (fun w' ho hc hb hh=>(mPart_ok m n hc 0 0 m p ho (lsH m p n A S) w' ⟨hh,lH,m6,n6⟩ (by omega) (by omega)).mono ?_) (fun w' ho hc hb hh=>(mPart_ok m n hc 0 p m (n - p) ho (lsH m p n A S) w' ⟨hh,lH,m6,n6⟩ (by omega) (by omega)).mono ?_)
  (fun w' io ic hb hi=>?_) (fun w' ko kc hb hk=>(mSub_ok m 1 cc kc co ko C (muM m p 1 (lsI m p n A S) (lsY p n S D)) w' (hC.below hb) ⟨hk,lK,m6,by decide⟩ (hT.all hb)).mono ?_) (fun w' lo lc hb hl=>lfin_any m 1 lc lo (lsF m p n A S C D) w' ⟨hl,lF,m6,by decide⟩)
  (fun fE fF w' jo jc lo lc hb hj hl=>(least_mx m (n - p) 1 jc lc jo lo (lsJ m p n A S) (lsF m p n A S C D) w' ⟨hj,lJ,m6,by omega⟩ ⟨hl,lF,m6,by decide⟩ (pa_fin17 (r:=m) lH fE (by omega) (by omega)) fF (by omega) (hT.all hb)).mono ?_)
 ·rintro e w'' ⟨v,rfl,⟨ho,hc,rfl,_,hh⟩,hb2⟩
  exact ⟨⟨ho,hc,rfl,hh⟩,hb2⟩
 ·rintro e w'' ⟨v,rfl,⟨ho,hc,rfl,_,hh⟩,hb2⟩
  exact ⟨⟨ho,hc,rfl,hh⟩,hb2⟩
 ·rintro e w'' ⟨v,rfl,⟨ho,hc,rfl,_,hh⟩,hb2⟩
  exact ⟨⟨ho,hc,rfl,hh⟩,hb2⟩
 ·have:=mMul_ok m p ic 1 yc io yo (lsI m p n A S) (lsY p n S D) w' ⟨hi,lI,m6,p6⟩ (hY.below hb) (hT.all hb)
  rw [lsY_len] at this
  refine this.mono ?_
  rintro e w'' ⟨v,rfl,⟨ho,hc,rfl,_,hh⟩,hb2⟩
  exact ⟨⟨ho,hc,rfl,hh⟩,hb2⟩
 ·rintro e w'' ⟨v,rfl,⟨ho,hc,rfl,_,hh⟩,hb2⟩
  exact ⟨⟨ho,hc,rfl,hh⟩,hb2⟩
 ·rintro e w'' ⟨⟨h0,yo,yc,rfl,_,hy,_,_⟩ | ⟨h0,rfl⟩,hb2⟩
  ·exact ⟨.inl ⟨h0,yo,yc,rfl,hy⟩,hb2⟩
  ·exact ⟨.inr ⟨h0,rfl⟩,hb2⟩
theorem lsolve_any (m n p ac bc cc ec:Nat) (ao bo co eo:Option Addr) (A S C D:List Nat) (w:World) (hA:Mx w ao ac m n A) (hS:Mx w bo bc p n S) (hC:Mx w co cc m 1 C) (hD:Mx w eo ec p 1 D) (fS:finL S = true) (fD:finL D = true) (hpn:p≤n) (hnm:n≤m+p) (hT:Tab w)
  (C1:∀ w',Below w.heap.size w w'→Calls Tryz.prog 34 #[.agg #[.int .i64 (m:Nat),.int .i64 (n:Nat),.slice ao A.length ac,.int .i64 (p:Nat),.int .i64 (n:Nat),.slice bo S.length bc,.int .i64 (m:Nat),.int .i64 1,.slice co C.length cc,.int .i64 (p:Nat),.int .i64 1,.slice eo D.length ec]] w' fun e w''=>e = .returned (.int .i64 0)∧Below w'.heap.size w' w'') :
  Calls Tryz.prog 39 #[.agg #[.int .i64 (m:Nat),.int .i64 (n:Nat),.slice ao A.length ac,.int .i64 (p:Nat),.int .i64 (n:Nat),.slice bo S.length bc,.int .i64 (m:Nat),.int .i64 1,.slice co C.length cc,.int .i64 (p:Nat),.int .i64 1,.slice eo D.length ec]] w fun e w' =>
   ((lsV m p n A S C D = 0∧∃ xo xc,e = .returned (.tuple #[.agg #[.int .i64 (n:Nat),.int .i64 1,.slice xo (lsX m p n A S C D).length xc],.int .i64 0])∧BitsAt w' xo xc (mxL (lsX m p n A S C D))) ∨ (lsV m p n A S C D ≠ 0∧e = .returned (.tuple #[.agg #[.int .i64 0,.int .i64 0,.slice none 0 0],.int .i64 (lsV m p n A S C D)])))∧Below w.heap.size w w':=by
 have m6:=hA.2.2.1;have n6:=hA.2.2.2;have p6:=hS.2.2.1
 have lV:(lsY p n S D ++ lsZ m p n A S C D).length = n * 1:=by rw [List.length_append,lsY_len,lsZ_len];omega
 have lX:=lsX_len m p n A S C D
 have e:lsV m p n A S C D = (if (0:Int) = 0 then (if lsB p n S D = 0 then (if lsO m p n A S C D = 0 then (if finL (lsX m p n A S C D) = true then 0 else 2) else lsO m p n A S C D) else lsB p n S D) else 0):=by
  rw [if_pos rfl];rfl
 rw [e]
 refine lsolve_of m n p (n - p) A.length ac S.length bc C.length cc D.length ec (lsQ p n S).length (p * 1) ((n - p) * 1) (lsY p n S D ++ lsZ m p n A S C D).length (lsX m p n A S C D).length ao bo co eo (lsQ p n S) (lsY p n S D) (lsZ m p n A S C D) (lsY p n S D ++ lsZ m p n A S C D) (lsX m p n A S C D) 0 (lsB p n S D) (lsO m p n A S C D) (finL (lsX m p n A S C D)) w
  C1 (fun _ w' hb=>lbound_any p n bc ec bo eo S D w' (hS.below hb) (hD.below hb) fS fD hpn (hT.all hb)) (fun _ _ w' qo qc yo yc hb hq hy=>lopen_any m n p ac bc cc ec qc yc ao bo co eo qo yo A S C D w' (hA.below hb) (hC.below hb) ⟨hq,lsQ_len _ _ _,n6,n6⟩ ⟨hy,lsY_len _ _ _ _,p6,by decide⟩ hpn hnm (hT.all hb))
  (fun _ _ _ w' yo yc zo zc hb hy hz=>?_) (fun _ _ _ w' qo qc vo vc hb hq hv=>(mMul_ok n n qc 1 vc qo vo (lsQ p n S) (lsY p n S D ++ lsZ m p n A S C D) w' ⟨hq,lsQ_len _ _ _,n6,n6⟩ ⟨hv,lV,n6,by decide⟩ (hT.all hb)).mono ?_) (fun _ _ _ w' xo xc hb hx=>lfin_any n 1 xc xo (lsX m p n A S C D) w' ⟨hx,lX,n6,by decide⟩)
 ·have:=mStack_ok p 1 yc (n - p) zc yo zo (lsY p n S D) (lsZ m p n A S C D) w' ⟨hy,lsY_len _ _ _ _,p6,by decide⟩ ⟨hz,lsZ_len _ _ _ _ _ _ _,by omega,by decide⟩ (by omega)
  rw [lsY_len,lsZ_len] at this
  refine this.mono ?_
  rintro e w'' ⟨v,rfl,⟨vo,vc,rfl,_,hv⟩,hb2⟩
  have en:((p+(n - p):Nat):Int) = ((n:Nat):Int):=by congr 1;omega
  exact ⟨⟨vo,vc,by rw [en];rfl,hv⟩,hb2⟩
 ·rintro e w'' ⟨v,rfl,⟨ho,hc,rfl,_,hh⟩,hb2⟩
  exact ⟨⟨ho,hc,rfl,hh⟩,hb2⟩
end Go.Proofs.YtcbcmlaogehimaaGreatDoor
