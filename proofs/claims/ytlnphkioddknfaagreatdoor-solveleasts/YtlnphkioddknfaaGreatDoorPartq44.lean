/- Part 44 of the texts. -/
import Derived.Test.YtlnphkioddknfaaGreatDoorPartq43
import Derived.Test.YtlnphkioddknfaaGreatDoorPartq28
import Derived.Test.YtlnphkioddknfaaGreatDoorPartq42
import Derived.Test.YtlnphkioddknfaaGreatDoorPartq41
import Derived.Test.YtlnphkioddknfaaGreatDoorPartq32
import Derived.Test.YtlnphkioddknfaaGreatDoorPartq35
set_option maxHeartbeats 8000000
set_option maxRecDepth 20000
namespace Go.Proofs.YtlnphkioddknfaaGreatDoor
open Go.RowKit
attribute [local go_sem ↓] Go.wp_at_zero Go.wp_at_succ
theorem less17_any (a b:Nat) (w:World) (ha:a < 18446744073709551616) (hb:b < 18446744073709551616) :
  Calls Tryz.prog 62 #[.int .u64 a,.int .u64 b] w fun r w'=>r = .returned (.bool (ltB a b))∧Below w.heap.size w w':=by
 have C:=fun w'=>corder_any a b w' ha hb
 have hB:cB a b = false→cO a b = 0:=by
  unfold cB cO
  split
  ·intro _;rfl
  ·intro e;cases e
 have hc3:cO a b = -1 ∨ cO a b = 0 ∨ cO a b = 1:=by
  unfold cO cmpI
  repeat' split
  all_goals simp
 unfold ltB
 cases hc:cB a b
 ·have h0:=hB hc
  rw [h0,hc] at C
  rw [h0]
  exact less_of a b 0 false false false w (.inl ⟨rfl,rfl,rfl,rfl⟩) C
 ·rw [hc] at C
  rcases hc3 with e | e | e
  ·rw [e] at C ⊢
   exact less_of a b (-1) true true false w (.inr (.inl ⟨rfl,rfl,rfl,rfl⟩)) C
  ·rw [e] at C ⊢
   exact less_of a b 0 true false true w (.inr (.inr (.inl ⟨rfl,rfl,rfl,rfl⟩))) C
  ·rw [e] at C ⊢
   exact less_of a b 1 true false false w (.inr (.inr (.inr ⟨rfl,rfl,rfl,rfl⟩))) C
theorem cfFlat1 (args:Array Value) (w:World):(callFunc 61 args).run Tryz.prog w = .ok (.enter 61 args) w:=by
 simp only [callFunc,go_sem]
 rfl
theorem cfSolved1 (args:Array Value) (w:World):(callFunc 107 args).run Tryz.prog w = .ok (.enter 107 args) w:=by
 simp only [callFunc,go_sem]
 rfl
theorem flat1_of (x b a g:Nat) (o:Bool) (w:World) (h1:w.cell? ⟨g,0,none⟩ = some (.int .u64 (b:Nat)))
  (C1:∀ w',Below w.heap.size w w'→Calls Tryz.prog 63 #[.int .u64 x] w' fun r w''=>r = .returned (.int .u64 (a:Nat))∧Below w'.heap.size w' w'')
  (C2:∀ w',Below w.heap.size w w'→Calls Tryz.prog 62 #[.int .u64 b,.int .u64 a] w' fun r w''=>r = .returned (.bool o)∧Below w'.heap.size w' w'') :
  Calls Tryz.prog 61 #[.int .u64 x,.pointer (some ⟨g,0,none⟩)] w fun e w'=>e = .returned (.bool (!o))∧Below w.heap.size w w':=by
 have K1:=hide C1;have K2:=hide C2
 have HK:=hide (fun w' (h:Below w.heap.size w w')=>(show Below w.heap.size w w'∧w'.cell? ⟨g,0,none⟩ = some (.int .u64 (b:Nat)) from ⟨h,cell_keep h1 h⟩))
 clear C1 C2 h1
 go_enter Tryz.func61,Tryz.ntmps61
 go_wp2_with fail
 go_region_held3 (fun w'=>Below w.heap.size w w'∧w'.cell? ⟨g,0,none⟩ = some (.int .u64 (b:Nat)))
  (first | exact uH HK _ (Below.refl _ _).drew | exact uH HK _ (by assumption) | fail "KK")
  (first | (go_at_call 63;refine (uH K1 _ (And.left (by assumption))).mono ?_;rintro e w1 ⟨rfl,hb1⟩;have hB1:Below w.heap.size w w1:=Below.trans (And.left (by assumption)) (hb1.mono (Below.size (And.left (by assumption))));clear hb1) | (go_at_call 62;refine (uH K2 _ (And.left (by assumption))).mono ?_;rintro e w2 ⟨rfl,hb2⟩;have hB2:Below w.heap.size w w2:=Below.trans (And.left (by assumption)) (hb2.mono (Below.size (And.left (by assumption))));clear hb2) | fail "NO ARM")
 go_wp2
 go_ret
 exact ⟨rfl,And.left (by assumption)⟩
theorem solved1_any (x:Nat) (w:World) (hx:x < 18446744073709551616) :
  Calls Tryz.prog 107 #[.int .u64 x] w fun e w'=>e = .returned (.bool (decide (fK x = 0)))∧Below w.heap.size w w':=by
 have K:=hide (kind_any x w hx)
 have e1:((fK x:Int) == 0) = decide (fK x = 0):=by
  rw [Bool.eq_iff_iff]
  simp
 generalize hk:decide (fK x = 0) = b at *
 generalize fK x = k at *
 go_enter Tryz.func107,Tryz.ntmps107
 go_wp2_with fail
 refine (uH K).mono ?_
 rintro e w1 ⟨rfl,hb⟩
 have HB:=hide hb
 clear hb K
 go_wp2
 go_ret
 exact ⟨by first | (rw [e1];done) | (rw [e1];rfl) | simp,uH HB⟩
theorem flat_of (r c n cap q g0 s:Nat) (ao:Option Addr) (D:List Nat) (o:Bool) (w:World)
  (C1:∀ w',Below w.heap.size w w'→Calls Tryz.prog 56 #[.agg #[.int .i64 r,.int .i64 c,.slice ao n cap]] w' fun e w''=>e = .returned (.int .i64 0)∧Below w'.heap.size w' w'')
  (C2:∀ w',Below w.heap.size w w'→Calls Tryz.prog 57 #[.agg #[.int .i64 r,.int .i64 c,.slice ao n cap]] w' fun e w''=>∃ g,e = .returned (.slice (some ⟨g,0,none⟩) q q)∧w'.heap.size≤g∧RowB w'' g D∧Below w'.heap.size w' w'')
  (C3:∀ w' g,Below w.heap.size w w'→RowB w' g D→Calls Tryz.prog 59 #[.slice (some ⟨g,0,none⟩) q q] w' fun e w''=>e = .returned (.int .u64 (g0:Nat))∧Below w'.heap.size w' w'')
  (C4:∀ w',Below w.heap.size w w'→Calls Tryz.prog 58 #[.int .u64 g0,.int .i64 (-40)] w' fun e w''=>e = .returned (.int .u64 (s:Nat))∧Below w'.heap.size w' w'')
  (C5:∀ w' g b,Below w.heap.size w w'→RowB w' g D→w'.cell? ⟨b,0,none⟩ = some (.int .u64 (s:Nat))→Calls Tryz.prog 60 #[.slice (some ⟨g,0,none⟩) q q,.func (.func 61) #[] #[.pointer (some ⟨b,0,none⟩)]] w' fun e w''=>e = .returned (.bool o)∧Below w'.heap.size w' w'') :
  Calls Tryz.prog 18 #[.agg #[.int .i64 r,.int .i64 c,.slice ao n cap]] w fun e w'=>e = .returned (.tuple #[.bool o,.int .i64 0])∧Below w.heap.size w w':=by
 have HB:=hide (below_alloc9 w (.cells #[.int .i64 r,.int .i64 c,.slice ao n cap] 24))
 have HX:=hide (BoxM.new w (.int .i64 r) (.int .i64 c) (.slice ao n cap))
 have K1:=hide (C1 _ (uH HB));have K2:=hide C2;have K3:=hide C3;have K4:=hide C4;have K5:=hide C5
 have y0:=(uH HX).c0;have y1:=(uH HX).c1;have y2:=(uH HX).c2
 clear C1 C2 C3 C4 C5
 go_enter Tryz.func18,Tryz.ntmps18
 go_wp2_with fail
 clear y0 y1 y2
 refine (uH K1).mono ?_
 rintro e w1 ⟨rfl,hb⟩
 replace HX:=hide ((uH HX).all hb)
 replace HB:=hide ((uH HB).trans (hb.mono (uH HB).size))
 clear hb K1
 have y0:=(uH HX).c0;have y1:=(uH HX).c1;have y2:=(uH HX).c2
 go_wp2_with fail
 clear y0 y1 y2
 refine (uH K2 _ (uH HB)).mono ?_
 rintro e w2 ⟨g,rfl,_,hr,hb⟩
 replace HB:=hide ((uH HB).trans (hb.mono (uH HB).size))
 have HG:=hide hr
 clear hb hr K2 HX
 go_wp2_with fail
 refine (uH K3 _ _ (uH HB) (uH HG)).mono ?_
 rintro e w3 ⟨rfl,hb⟩
 replace HB:=hide ((uH HB).trans (hb.mono (uH HB).size))
 replace HG:=hide ((uH HG).below hb (uH HG).lt)
 clear hb K3
 go_wp2_with fail
 refine (uH K4 _ (uH HB)).mono ?_
 rintro e w4 ⟨rfl,hb⟩
 replace HB:=hide ((uH HB).trans (hb.mono (uH HB).size))
 replace HG:=hide ((uH HG).below hb (uH HG).lt)
 have ba:=below_alloc9 w4 (.cells #[.int .u64 (s:Nat)] 37)
 have HC:=hide (new_cell w4 (.int .u64 (s:Nat)) 37)
 replace HB:=hide ((uH HB).trans (ba.mono (uH HB).size))
 replace HG:=hide ((uH HG).below ba (uH HG).lt)
 clear hb ba K4
 go_wp2_with fail
 refine (uH K5 _ _ _ (uH HB) (uH HG) (uH HC)).mono ?_
 rintro e w5 ⟨rfl,hb⟩
 replace HB:=hide ((uH HB).trans (hb.mono (uH HB).size))
 clear hb K5 HG HC
 go_wp2_with fail
 exact bodyPost_ret (v:=.tuple #[.bool o,.int .i64 0]) (by simp [results,Tryz.results18,go_sem]) rfl ⟨rfl,uH HB⟩
end Go.Proofs.YtlnphkioddknfaaGreatDoor
namespace Go.Proofs.YtlnphkioddknfaaGreatDoor
open Go.RowKit
attribute [local go_sem ↓] Go.wp_at_zero Go.wp_at_succ
theorem ck_mx {w:World} {ao:Option Addr} {cap r c:Nat} {S:List Nat} (h:Mx w ao cap r c S) (hf:finL S = true):ckE (r:Int) (c:Int) (mxL S) = 0:=by
 unfold ckE
 rw [mxL_len,mx_ok h]
 have:fnK (mxL S) S.length = true:=hf
 rw [this]
 rfl
theorem dgL_lt {w:World} {ao:Option Addr} {cap r c:Nat} {S:List Nat} (h:Mx w ao cap r c S):∀ x ∈ dgL r c S,x < 18446744073709551616:=by
 intro x hx
 obtain ⟨i,_,rfl⟩:=List.mem_map.1 hx
 exact h.el_lt _ _
theorem getD_ltA {xs:List Nat} (h:∀ x ∈ xs,x < 18446744073709551616) (k:Nat):xs.getD k 0 < 18446744073709551616:=by
 rw [List.getD_eq_getElem?_getD]
 rcases Nat.lt_or_ge k xs.length with g | g
 ·rw [List.getElem?_eq_getElem g];exact h _ (List.getElem_mem g)
 ·rw [List.getElem?_eq_none g];decide
theorem rowb_bits {w:World} {g q:Nat} {xs:List Nat} (h:RowB w g xs) (hl:xs.length = q) (hx:∀ x ∈ xs,x < 18446744073709551616):BitsAt w (some ⟨g,0,none⟩) q (mxL xs):=by
 have:=h.bits hx
 rwa [hl] at this
def usE (n:Nat) (T M:List Nat):Int:=if zdB (dgL n n T) = true then 5 else if finL M = true then 0 else 2
def SvAns (w w':World) (f:Int) (n q:Nat) (M:List Nat) (e:Ending):Prop :=
 (f = 0∧∃ xo xc,e = .returned (.tuple #[.agg #[.int .i64 n,.int .i64 q,.slice xo (n * q) xc],.int .i64 0])∧NewB w.heap.size xo (mxL M)∧BitsAt w' xo xc (mxL M)∧M.length = n * q∧finL M = true) ∨
 (f ≠ 0∧e = .returned (.tuple #[.agg #[.int .i64 0,.int .i64 0,.slice none 0 0],.int .i64 f]))
theorem solved_mx (n q tc bc fo fd:Nat) (tq bo:Option Addr) (T B:List Nat) (o:Nat→Nat) (dn:Nat→Nat→Bool) (w:World) (hT:Mx w tq tc n n T) (hB:Mx w bo bc n q B) (fT:finL T = true) (fB:finL B = true) (hO:Ordr n o)
  (hfo:∀ args w,(callFunc fo args).run Tryz.prog w = .ok (.enter fo args) w) (hfd:∀ args w,(callFunc fd args).run Tryz.prog w = .ok (.enter fd args) w)
  (CO:∀ w' m,m < n→Calls Tryz.prog fo #[.int .i64 n,.int .i64 (m:Nat)] w' fun e w''=>e = .returned (.int .i64 (o m:Nat))∧Below w'.heap.size w' w'')
  (CD:∀ w' i k,i < n→k < n→Calls Tryz.prog fd #[.int .i64 (i:Nat),.int .i64 (k:Nat)] w' fun e w''=>e = .returned (.bool (dn i k))∧Below w'.heap.size w' w'') (hTab:Tab w) :
  Calls Tryz.prog 45 #[.agg #[.int .i64 n,.int .i64 n,.slice tq T.length tc],.agg #[.int .i64 n,.int .i64 q,.slice bo B.length bc],.func (.func fo) #[.int .i64 n] #[],.func (.func fd) #[] #[]] w fun e w' =>
   SvAns w w' (usE n T (trM n q (elM n T) (elM q B) o dn)) n q (trM n q (elM n T) (elM q B) o dn) e∧Below w.heap.size w w':=by
 have n6:=hT.2.2.1
 have hm:min n n = n:=Nat.min_self n
 have hT36:=hT.small;have hB36:=hB.small
 have C1:∀ w',Below w.heap.size w w'→Calls Tryz.prog 70 #[.agg #[.int .i64 n,.int .i64 n,.slice tq T.length tc],.agg #[.int .i64 n,.int .i64 q,.slice bo B.length bc]] w' fun e w''=>e = .returned (.int .i64 0)∧Below w'.heap.size w' w'':=fun w' hb=>by
  have:=checked_any n n n q tq bo tc bc (mxL T) (mxL B) w' (hT.1.below hb) (hB.1.below hb) (by rw [mxL_len];omega) (by rw [mxL_len];omega)
  rw [mxL_len,mxL_len] at this
  unfold ck2 at this
  rw [if_pos (ck_mx hT fT),ck_mx hB fB] at this
  exact this
 have C2:∀ w',Below w.heap.size w w'→Calls Tryz.prog 57 #[.agg #[.int .i64 n,.int .i64 n,.slice tq T.length tc]] w' fun e w''=>∃ g,e = .returned (.slice (some ⟨g,0,none⟩) n n)∧w'.heap.size≤g∧RowB w'' g (dgL n n T)∧Below w'.heap.size w' w'':=fun w' hb =>
  diagonal_any n n tc n tq T w' (hT.below hb) hm
 have C3:∀ w' g,Below w.heap.size w w'→RowB w' g (dgL n n T)→Calls Tryz.prog 60 #[.slice (some ⟨g,0,none⟩) n n,.func (.func 107) #[] #[]] w' fun e w''=>e = .returned (.bool (zdB (dgL n n T)))∧Below w'.heap.size w' w'':=fun w' g hb hr =>
  contF_any 107 #[] (some ⟨g,0,none⟩) n n (dgL n n T) (fun x=>decide (fK x = 0)) w' (by rw [dgL_len,hm]) (by omega) (rowb_bits hr (by rw [dgL_len,hm]) (dgL_lt hT)) cfSolved1 (fun w'' k _ _=>solved1_any _ w'' (getD_ltA (dgL_lt hT) k))
 have C4:=fun w' (hb:Below w.heap.size w w')=>through_of n q tc bc T.length B.length (n * q) fo fd tq bo T B o dn w' (hT.below hb) (hB.below hb) rfl rfl rfl hO hfo hfd CO CD (hTab.all hb)
 unfold usE
 cases hz:zdB (dgL n n T) with
 | true =>
  rw [hz] at C3
  refine (solved_rank n q T.length tc B.length bc n (dgL n n T) tq bo _ _ w C1 C2 C3).mono ?_
  rintro e w' ⟨rfl,hb⟩
  exact ⟨.inr ⟨by simp,by simp⟩,hb⟩
 | false =>
  rw [hz] at C3
  rw [if_neg (by decide)]
  cases hf:finL (trM n q (elM n T) (elM q B) o dn) with
  | true =>
   rw [if_pos rfl]
   refine (solved_ok n q T.length tc B.length bc n (n * q) (dgL n n T) (trM n q (elM n T) (elM q B) o dn) tq bo _ _ w C1 C2 C3 (fun w' hb=>(C4 w' hb).mono ?_)).mono ?_
   ·rintro e w'' ⟨S,xo,xc,e1,e2,e3,e4,e5,e6⟩
    rw [hf] at e1
    rw [e2 hf] at e4 e5
    exact ⟨xo,xc,e1,e4,e5,e6⟩
   ·rintro e w' ⟨xo,xc,rfl,h1,h2,hb⟩
    exact ⟨.inl ⟨rfl,xo,xc,rfl,h1,h2,trM_len _ _ _ _ _ _,hf⟩,hb⟩
  | false =>
   rw [if_neg (by decide)]
   refine (solved_inf n q T.length tc B.length bc n (n * q) (dgL n n T) tq bo _ _ w C1 C2 C3 (fun w' hb=>(C4 w' hb).mono ?_)).mono ?_
   ·rintro e w'' ⟨S,xo,xc,e1,e2,e3,e4,e5,e6⟩
    rw [hf] at e1
    exact ⟨xo,xc,e1,e6⟩
   ·rintro e w' ⟨rfl,hb⟩
    exact ⟨.inr ⟨by decide,rfl⟩,hb⟩
def trE17 (r c p q:Int) (I J:List Int):Int:=if ck2 r c I p q J = 0 then (if r = c∧r = p then 0 else 3) else ck2 r c I p q J
theorem solved_no (r c p q:Int) (ao bo:Option Addr) (cap d:Nat) (I J:List Int) (fo fd:Value) (w:World) (hI:BitsAt w ao cap I) (hJ:BitsAt w bo d J) (hi:I.length≤35184372088830) (hj:J.length≤35184372088830) (h:trE17 r c p q I J ≠ 0) :
  Calls Tryz.prog 45 #[.agg #[.int .i64 r,.int .i64 c,.slice ao I.length cap],.agg #[.int .i64 p,.int .i64 q,.slice bo J.length d],fo,fd] w fun e w'=>e = .returned (.tuple #[.agg #[.int .i64 0,.int .i64 0,.slice none 0 0],.int .i64 (trE17 r c p q I J)])∧Below w.heap.size w w':=by
 have C:=fun w' (hb:Below w.heap.size w w')=>checked_any r c p q ao bo cap d I J w' (hI.below hb) (hJ.below hb) hi hj
 unfold trE17 at h ⊢
 by_cases h0:ck2 r c I p q J = 0
 ·rw [if_pos h0] at h ⊢
  rw [h0] at C
  by_cases hs:r = c∧r = p
  ·rw [if_pos hs] at h;exact absurd rfl h
  ·rw [if_neg hs]
   refine solved_shape r c p q I.length cap J.length d ao bo fo fd w ?_ C
   by_cases e:r = c
   ·exact .inr ⟨e,fun e2=>hs ⟨e,e2⟩⟩
   ·exact .inl e
 ·rw [if_neg h0] at h ⊢
  refine solved_err r c p q (ck2 r c I p q J) I.length cap J.length d ao bo fo fd w ?_ C
  unfold ck2 at h0 ⊢
  split at h0
  ·rename_i g
   rw [if_pos g]
   rcases ckE_cases p q J with e | e | e
   ·exact absurd e h0
   ·exact .inl e
   ·exact .inr e
  ·rename_i g
   rw [if_neg g]
   rcases ckE_cases r c I with e | e | e
   ·exact absurd e g
   ·exact .inl e
   ·exact .inr e
end Go.Proofs.YtlnphkioddknfaaGreatDoor
namespace Go.Proofs.YtlnphkioddknfaaGreatDoor
open Go.RowKit
attribute [local go_sem ↓] Go.wp_at_zero Go.wp_at_succ
theorem upper_of (r c p q f:Int) (ao bo:Option Addr) (k cap m d n u:Nat) (M:List Nat) (w:World)
  (C1:∀ w',Below w.heap.size w w'→Calls Tryz.prog 45 #[.agg #[.int .i64 r,.int .i64 c,.slice ao k cap],.agg #[.int .i64 p,.int .i64 q,.slice bo m d],.func (.func 46) #[.int .i64 r] #[],.func (.func 47) #[] #[]] w' fun e w''=>SvAns w' w'' f n u M e∧Below w'.heap.size w' w'') :
  Calls Tryz.prog 12 #[.agg #[.int .i64 r,.int .i64 c,.slice ao k cap],.agg #[.int .i64 p,.int .i64 q,.slice bo m d]] w fun e w'=>SvAns w w' f n u M e∧Below w.heap.size w w':=by
 have KB:=hide (boxes3_17 w (.int .i64 r) (.int .i64 c) (.slice ao k cap) (.int .i64 p) (.int .i64 q) (.slice bo m d) (.int .i64 0) (.int .i64 0) (.slice none 0 0))
 obtain ⟨b0,x0,x1,x2⟩:=uH KB _ (by have:=Below.refl (((w.alloc (.cells #[.int .i64 r,.int .i64 c,.slice ao k cap] 24)).alloc (.cells #[.int .i64 p,.int .i64 q,.slice bo m d] 24)).alloc (.cells #[.int .i64 0,.int .i64 0,.slice none 0 0] 24)).heap.size (((w.alloc (.cells #[.int .i64 r,.int .i64 c,.slice ao k cap] 24)).alloc (.cells #[.int .i64 p,.int .i64 q,.slice bo m d] 24)).alloc (.cells #[.int .i64 0,.int .i64 0,.slice none 0 0] 24));simpa only [size_alloc9] using this)
 have K1:=hide (C1 _ b0)
 have HB:=hide b0;have HR:=hide x2
 have y0:=x0.c0;have y1:=x0.c1;have y2:=x0.c2;have u0:=x1.c0;have u1:=x1.c1;have u2:=x1.c2
 clear C1 KB b0 x0 x1 x2
 go_enter Tryz.func12,Tryz.ntmps12
 go_wp2_with fail
 clear y0 y1 y2 u0 u1 u2
 refine (uH K1).mono ?_
 rintro e w1 ⟨hans,hb⟩
 replace HR:=hide ((uH HR).all hb)
 have HB0:=hide (uH HB).size
 replace HB:=hide ((uH HB).trans (hb.mono (uH HB).size))
 clear hb K1
 rcases hans with ⟨rfl,xo,xc,rfl,hn,hq,hl,hf⟩ | ⟨hf,rfl⟩
 ·have HN:=hide (hn.least (uH HB0))
  have HQ:=hide hq
  have HL:=hide hl;have HF:=hide hf
  obtain ⟨L,hL⟩:∃ L,n * u = L:=⟨_,rfl⟩
  rw [hL]
  have EL:=hide hL
  have X3:=uH HR
  have f0:=X3.free 0;have f1:=X3.free 1;have f2:=X3.free 2
  have s0:=X3.c0;have s1:=X3.c1;have s2:=X3.c2
  have XP:=X3.put (.int .i64 n) (.int .i64 u) (.slice xo L xc)
  have z0:=XP.c0;have z1:=XP.c1;have z2:=XP.c2
  have BP:=hide (below_putM (uH HB) (b:=w.heap.size+1+1) (by omega) (.int .i64 n) (.int .i64 u) (.slice xo L xc))
  have QP:=hide ((uH HQ).putM X3 (.int .i64 n) (.int .i64 u) (.slice xo L xc))
  clear XP X3 hn hq hl hf hL
  go_wp2_with fail
  exact bodyPost_ret (v:=.tuple #[.agg #[.int .i64 n,.int .i64 u,.slice xo L xc],.int .i64 0]) (by simp [results,Tryz.results12,go_sem,z0,z1,z2]) rfl ⟨.inl ⟨rfl,xo,xc,by rw [uH EL],uH HN,uH QP,uH HL,uH HF⟩,uH BP⟩
 ·have X3:=uH HR
  have f0:=X3.free 0;have f1:=X3.free 1;have f2:=X3.free 2
  have s0:=X3.c0;have s1:=X3.c1;have s2:=X3.c2
  have XP:=X3.put (.int .i64 0) (.int .i64 0) (.slice none 0 0)
  have z0:=XP.c0;have z1:=XP.c1;have z2:=XP.c2
  have BP:=hide (below_putM (uH HB) (b:=w.heap.size+1+1) (by omega) (.int .i64 0) (.int .i64 0) (.slice none 0 0))
  have HF:=hide hf
  clear XP X3 hf
  go_wp2_with fail
  exact bodyPost_ret (v:=.tuple #[.agg #[.int .i64 0,.int .i64 0,.slice none 0 0],.int .i64 f]) (by simp [results,Tryz.results12,go_sem,z0,z1,z2]) rfl ⟨.inr ⟨uH HF,rfl⟩,uH BP⟩
theorem upper_mx (n q tc bc:Nat) (tq bo:Option Addr) (T B:List Nat) (w:World) (hT:Mx w tq tc n n T) (hB:Mx w bo bc n q B) (fT:finL T = true) (fB:finL B = true) (hTab:Tab w) :
  Calls Tryz.prog 12 #[.agg #[.int .i64 n,.int .i64 n,.slice tq T.length tc],.agg #[.int .i64 n,.int .i64 q,.slice bo B.length bc]] w fun e w'=>SvAns w w' (usE n T (upM n q T B)) n q (upM n q T B) e∧Below w.heap.size w w' :=
 upper_of n n n q (usE n T (upM n q T B)) tq bo T.length tc B.length bc n q (upM n q T B) w (fun w' hb=>solved_mx n q tc bc 46 47 tq bo T B (fun m=>n - 1 - m) dnU w' (hT.below hb) (hB.below hb) fT fB (ord_last n) cfLast cfUp1 (fun w' m hm=>fromLast_any n m w' hT.2.2.1 hm) (fun w' i k _ _=>up1_any i k w') (hTab.all hb))
theorem upper_no (r c p q:Int) (ao bo:Option Addr) (cap d:Nat) (I J:List Int) (w:World) (hI:BitsAt w ao cap I) (hJ:BitsAt w bo d J) (hi:I.length≤35184372088830) (hj:J.length≤35184372088830) (h:trE17 r c p q I J ≠ 0) :
  Calls Tryz.prog 12 #[.agg #[.int .i64 r,.int .i64 c,.slice ao I.length cap],.agg #[.int .i64 p,.int .i64 q,.slice bo J.length d]] w fun e w'=>SvAns w w' (trE17 r c p q I J) 0 0 [] e∧Below w.heap.size w w' :=
 upper_of r c p q (trE17 r c p q I J) ao bo I.length cap J.length d 0 0 [] w (fun w' hb=>(solved_no r c p q ao bo cap d I J _ _ w' (hI.below hb) (hJ.below hb) hi hj h).mono (by
  rintro e w'' ⟨rfl,hb2⟩
  exact ⟨.inr ⟨h,rfl⟩,hb2⟩))
theorem bg_dg (D:List Nat):bgK (mxL D) D.length = bgF 0 D:=by
 have:=bgK_all (mxL D)
 rwa [mxL_len,toN_mxL] at this
theorem bgF_lt17 (D:List Nat):bgF 0 D < 18446744073709551616:=by
 rw [← bg_dg]
 exact bgK_lt _ _
theorem fR_lt17 (a:Nat):fR a < 18446744073709551616:=by unfold fR;omega
theorem flat_any (r c cap:Nat) (ao:Option Addr) (S:List Nat) (w:World) (h:Mx w ao cap r c S) (hf:finL S = true) (hT:Tab w) :
  Calls Tryz.prog 18 #[.agg #[.int .i64 r,.int .i64 c,.slice ao S.length cap]] w fun e w'=>e = .returned (.tuple #[.bool (ftB r c S),.int .i64 0])∧Below w.heap.size w w':=by
 have h36:=h.small
 have r6:=h.2.2.1
 have hl:(dgL r c S).length = min r c:=dgL_len r c S
 refine flat_of r c S.length cap (min r c) (bgF 0 (dgL r c S)) (xV (bgF 0 (dgL r c S)) (-40)) ao (dgL r c S) (ftB r c S) w (fun w' hb=>?_) (fun w' hb=>diagonal_any r c cap (min r c) ao S w' (h.below hb) rfl) (fun w' g hb hr=>?_) (fun w' hb=>vscale_any _ (-40) w' (bgF_lt17 _) (hT.all hb)) (fun w' g b hb hr hc=>?_)
 ·have:=ccheck_any r c ao cap (mxL S) w' (h.1.below hb) (by rw [mxL_len];omega)
  rw [mxL_len,ck_mx h hf] at this
  exact this
 ·have:=vBiggest_any (some ⟨g,0,none⟩) (min r c) (mxL (dgL r c S)) w' (rowb_bits hr hl (dgL_lt h)) (by rw [mxL_len,hl];omega)
  rw [mxL_len,bg_dg,hl] at this
  exact this
 ·refine contF_any 61 #[.pointer (some ⟨b,0,none⟩)] (some ⟨g,0,none⟩) (min r c) (min r c) (dgL r c S) (fun x=>!ltB (xV (bgF 0 (dgL r c S)) (-40)) (fR x)) w' hl (by omega) (rowb_bits hr hl (dgL_lt h)) cfFlat1 (fun w'' k hb2 hk=>?_)
  have hx:=getD_ltA (dgL_lt h) k
  exact flat1_of _ _ (fR ((dgL r c S).getD k 0)) b (ltB (xV (bgF 0 (dgL r c S)) (-40)) (fR ((dgL r c S).getD k 0))) w'' (cell_keep hc hb2) (fun w3 _=>cabs_any _ w3 hx) (fun w3 _=>less17_any _ _ w3 (xV_lt _ _ (bgF_lt17 _)) (fR_lt17 _))
end Go.Proofs.YtlnphkioddknfaaGreatDoor
namespace Go.Proofs.YtlnphkioddknfaaGreatDoor
open Go.RowKit
attribute [local go_sem ↓] Go.wp_at_zero Go.wp_at_succ
theorem least_err (r c p q er:Int) (tn tc bn bc:Nat) (tq bo:Option Addr) (w:World) (her:er = 1 ∨ er = 4)
  (C1:∀ w',Below w.heap.size w w'→Calls Tryz.prog 70 #[.agg #[.int .i64 r,.int .i64 c,.slice tq tn tc],.agg #[.int .i64 p,.int .i64 q,.slice bo bn bc]] w' fun e w''=>e = .returned (.int .i64 er)∧Below w'.heap.size w' w'') :
  Calls Tryz.prog 22 #[.agg #[.int .i64 r,.int .i64 c,.slice tq tn tc],.agg #[.int .i64 p,.int .i64 q,.slice bo bn bc]] w fun e w'=>e = .returned (.tuple #[.agg #[.int .i64 0,.int .i64 0,.slice none 0 0],.int .i64 er])∧Below w.heap.size w w':=by
 have KB:=hide (boxes3_17 w (.int .i64 r) (.int .i64 c) (.slice tq tn tc) (.int .i64 p) (.int .i64 q) (.slice bo bn bc) (.int .i64 0) (.int .i64 0) (.slice none 0 0))
 obtain ⟨b0,x0,x1,x2⟩:=uH KB _ (by have:=Below.refl (((w.alloc (.cells #[.int .i64 r,.int .i64 c,.slice tq tn tc] 24)).alloc (.cells #[.int .i64 p,.int .i64 q,.slice bo bn bc] 24)).alloc (.cells #[.int .i64 0,.int .i64 0,.slice none 0 0] 24)).heap.size (((w.alloc (.cells #[.int .i64 r,.int .i64 c,.slice tq tn tc] 24)).alloc (.cells #[.int .i64 p,.int .i64 q,.slice bo bn bc] 24)).alloc (.cells #[.int .i64 0,.int .i64 0,.slice none 0 0] 24));simpa only [size_alloc9] using this)
 have K1:=hide (C1 _ b0)
 have HB:=hide b0;have HT:=hide x0;have HU:=hide x1;have HR:=hide x2
 have y0:=x0.c0;have y1:=x0.c1;have y2:=x0.c2;have u0:=x1.c0;have u1:=x1.c1;have u2:=x1.c2
 clear C1 KB b0 x0 x1 x2
 rcases her with rfl | rfl
 all_goals
  go_enter Tryz.func22,Tryz.ntmps22
  go_wp2_with fail
  clear y0 y1 y2 u0 u1 u2
  refine (uH K1).mono ?_
  rintro e w1 ⟨rfl,hb⟩
  replace HT:=hide ((uH HT).all hb)
  replace HU:=hide ((uH HU).all hb)
  replace HR:=hide ((uH HR).all hb)
  replace HB:=hide ((uH HB).trans (hb.mono (uH HB).size))
  clear hb K1
  have y0:=(uH HT).c0;have y1:=(uH HT).c1;have y2:=(uH HT).c2;have u0:=(uH HU).c0;have u1:=(uH HU).c1;have u2:=(uH HU).c2
  clear y0 y1 y2 u0 u1 u2
  have X3:=uH HR
  have f0:=X3.free 0;have f1:=X3.free 1;have f2:=X3.free 2
  have s0:=X3.c0;have s1:=X3.c1;have s2:=X3.c2
  have XP:=X3.put (.int .i64 0) (.int .i64 0) (.slice none 0 0)
  have z0:=XP.c0;have z1:=XP.c1;have z2:=XP.c2
  have BP:=hide (below_putM (uH HB) (b:=w.heap.size+1+1) (by omega) (.int .i64 0) (.int .i64 0) (.slice none 0 0))
  clear XP X3
  go_wp2_with fail
  exact bodyPost_ret (v:=.tuple #[.agg #[.int .i64 0,.int .i64 0,.slice none 0 0],.int .i64 _]) (by simp [results,Tryz.results22,go_sem,z0,z1,z2]) rfl ⟨rfl,uH BP⟩
theorem least_shape (r c p q:Int) (tn tc bn bc:Nat) (tq bo:Option Addr) (w:World) (hsh:r < c ∨ (¬ r < c∧¬ r = p))
  (C1:∀ w',Below w.heap.size w w'→Calls Tryz.prog 70 #[.agg #[.int .i64 r,.int .i64 c,.slice tq tn tc],.agg #[.int .i64 p,.int .i64 q,.slice bo bn bc]] w' fun e w''=>e = .returned (.int .i64 0)∧Below w'.heap.size w' w'') :
  Calls Tryz.prog 22 #[.agg #[.int .i64 r,.int .i64 c,.slice tq tn tc],.agg #[.int .i64 p,.int .i64 q,.slice bo bn bc]] w fun e w'=>e = .returned (.tuple #[.agg #[.int .i64 0,.int .i64 0,.slice none 0 0],.int .i64 3])∧Below w.heap.size w w':=by
 have KB:=hide (boxes3_17 w (.int .i64 r) (.int .i64 c) (.slice tq tn tc) (.int .i64 p) (.int .i64 q) (.slice bo bn bc) (.int .i64 0) (.int .i64 0) (.slice none 0 0))
 obtain ⟨b0,x0,x1,x2⟩:=uH KB _ (by have:=Below.refl (((w.alloc (.cells #[.int .i64 r,.int .i64 c,.slice tq tn tc] 24)).alloc (.cells #[.int .i64 p,.int .i64 q,.slice bo bn bc] 24)).alloc (.cells #[.int .i64 0,.int .i64 0,.slice none 0 0] 24)).heap.size (((w.alloc (.cells #[.int .i64 r,.int .i64 c,.slice tq tn tc] 24)).alloc (.cells #[.int .i64 p,.int .i64 q,.slice bo bn bc] 24)).alloc (.cells #[.int .i64 0,.int .i64 0,.slice none 0 0] 24));simpa only [size_alloc9] using this)
 have K1:=hide (C1 _ b0)
 have HB:=hide b0;have HT:=hide x0;have HU:=hide x1;have HR:=hide x2
 have y0:=x0.c0;have y1:=x0.c1;have y2:=x0.c2;have u0:=x1.c0;have u1:=x1.c1;have u2:=x1.c2
 clear C1 KB b0 x0 x1 x2
 have hne:¬ r < c→¬ r = p→(r != p) = true:=fun _ e=>bne_iff_ne.2 e
 rcases hsh with hsh | ⟨hsh,hsh2⟩
 ·clear hne
  go_enter Tryz.func22,Tryz.ntmps22
  go_wp2_with fail
  clear y0 y1 y2 u0 u1 u2
  refine (uH K1).mono ?_
  rintro e w1 ⟨rfl,hb⟩
  replace HT:=hide ((uH HT).all hb)
  replace HU:=hide ((uH HU).all hb)
  replace HR:=hide ((uH HR).all hb)
  replace HB:=hide ((uH HB).trans (hb.mono (uH HB).size))
  clear hb K1
  have y0:=(uH HT).c0;have y1:=(uH HT).c1;have y2:=(uH HT).c2;have u0:=(uH HU).c0;have u1:=(uH HU).c1;have u2:=(uH HU).c2
  have X3:=uH HR
  have f0:=X3.free 0;have f1:=X3.free 1;have f2:=X3.free 2
  have s0:=X3.c0;have s1:=X3.c1;have s2:=X3.c2
  have XP:=X3.put (.int .i64 0) (.int .i64 0) (.slice none 0 0)
  have z0:=XP.c0;have z1:=XP.c1;have z2:=XP.c2
  have BP:=hide (below_putM (uH HB) (b:=w.heap.size+1+1) (by omega) (.int .i64 0) (.int .i64 0) (.slice none 0 0))
  clear XP X3
  go_wp2_with fail
  exact bodyPost_ret (v:=.tuple #[.agg #[.int .i64 0,.int .i64 0,.slice none 0 0],.int .i64 3]) (by simp [results,Tryz.results22,go_sem,z0,z1,z2]) rfl ⟨rfl,uH BP⟩
 ·replace hne:=hne hsh hsh2
  go_enter Tryz.func22,Tryz.ntmps22
  go_wp2_with fail
  clear y0 y1 y2 u0 u1 u2
  refine (uH K1).mono ?_
  rintro e w1 ⟨rfl,hb⟩
  replace HT:=hide ((uH HT).all hb)
  replace HU:=hide ((uH HU).all hb)
  replace HR:=hide ((uH HR).all hb)
  replace HB:=hide ((uH HB).trans (hb.mono (uH HB).size))
  clear hb K1
  have y0:=(uH HT).c0;have y1:=(uH HT).c1;have y2:=(uH HT).c2;have u0:=(uH HU).c0;have u1:=(uH HU).c1;have u2:=(uH HU).c2
  have X3:=uH HR
  have f0:=X3.free 0;have f1:=X3.free 1;have f2:=X3.free 2
  have s0:=X3.c0;have s1:=X3.c1;have s2:=X3.c2
  have XP:=X3.put (.int .i64 0) (.int .i64 0) (.slice none 0 0)
  have z0:=XP.c0;have z1:=XP.c1;have z2:=XP.c2
  have BP:=hide (below_putM (uH HB) (b:=w.heap.size+1+1) (by omega) (.int .i64 0) (.int .i64 0) (.slice none 0 0))
  clear XP X3
  go_wp2_with fail
  exact bodyPost_ret (v:=.tuple #[.agg #[.int .i64 0,.int .i64 0,.slice none 0 0],.int .i64 3]) (by simp [results,Tryz.results22,go_sem,z0,z1,z2]) rfl ⟨rfl,uH BP⟩
theorem least_range (r c q:Int) (tn tc bn bc:Nat) (tq bo:Option Addr) (w:World) (hsh:¬ r < c)
  (C1:∀ w',Below w.heap.size w w'→Calls Tryz.prog 70 #[.agg #[.int .i64 r,.int .i64 c,.slice tq tn tc],.agg #[.int .i64 r,.int .i64 q,.slice bo bn bc]] w' fun e w''=>e = .returned (.int .i64 0)∧Below w'.heap.size w' w'')
  (C2:∀ w',Below w.heap.size w w'→Calls Tryz.prog 71 #[.agg #[.int .i64 r,.int .i64 c,.slice tq tn tc]] w' fun e w''=>∃ (a1 a2 b1 b2:Int) (so vo:Option Addr) (sn sd vn vd:Nat),e = .returned (.tuple #[.agg #[.int .i64 a1,.int .i64 a2,.slice so sn sd],.agg #[.int .i64 b1,.int .i64 b2,.slice vo vn vd],.int .i64 2])∧Below w'.heap.size w' w'') :
  Calls Tryz.prog 22 #[.agg #[.int .i64 r,.int .i64 c,.slice tq tn tc],.agg #[.int .i64 r,.int .i64 q,.slice bo bn bc]] w fun e w'=>e = .returned (.tuple #[.agg #[.int .i64 0,.int .i64 0,.slice none 0 0],.int .i64 2])∧Below w.heap.size w w':=by
 have KB:=hide (boxes3_17 w (.int .i64 r) (.int .i64 c) (.slice tq tn tc) (.int .i64 r) (.int .i64 q) (.slice bo bn bc) (.int .i64 0) (.int .i64 0) (.slice none 0 0))
 obtain ⟨b0,x0,x1,x2⟩:=uH KB _ (by have:=Below.refl (((w.alloc (.cells #[.int .i64 r,.int .i64 c,.slice tq tn tc] 24)).alloc (.cells #[.int .i64 r,.int .i64 q,.slice bo bn bc] 24)).alloc (.cells #[.int .i64 0,.int .i64 0,.slice none 0 0] 24)).heap.size (((w.alloc (.cells #[.int .i64 r,.int .i64 c,.slice tq tn tc] 24)).alloc (.cells #[.int .i64 r,.int .i64 q,.slice bo bn bc] 24)).alloc (.cells #[.int .i64 0,.int .i64 0,.slice none 0 0] 24));simpa only [size_alloc9] using this)
 have K1:=hide (C1 _ b0)
 have HB:=hide b0;have HT:=hide x0;have HU:=hide x1;have HR:=hide x2
 have K2:=hide C2
 have y0:=x0.c0;have y1:=x0.c1;have y2:=x0.c2;have u0:=x1.c0;have u1:=x1.c1;have u2:=x1.c2
 clear C2 C1 KB b0 x0 x1 x2
 go_enter Tryz.func22,Tryz.ntmps22
 go_wp2_with fail
 clear y0 y1 y2 u0 u1 u2
 refine (uH K1).mono ?_
 rintro e w1 ⟨rfl,hb⟩
 replace HT:=hide ((uH HT).all hb)
 replace HU:=hide ((uH HU).all hb)
 replace HR:=hide ((uH HR).all hb)
 replace HB:=hide ((uH HB).trans (hb.mono (uH HB).size))
 clear hb K1
 have y0:=(uH HT).c0;have y1:=(uH HT).c1;have y2:=(uH HT).c2;have u0:=(uH HU).c0;have u1:=(uH HU).c1;have u2:=(uH HU).c2
 go_wp2_with fail
 clear y0 y1 y2 u0 u1 u2
 refine (uH K2 _ (uH HB)).mono ?_
 rintro e w2 ⟨a1,a2,b1,b2,so,vo,sn,sd,vn,vd,rfl,hb⟩
 replace HU:=hide ((uH HU).all hb)
 replace HR:=hide ((uH HR).all hb)
 replace HB:=hide ((uH HB).trans (hb.mono (uH HB).size))
 clear hb K2
 have ba:=below_alloc9 w2 (.cells #[.int .i64 a1,.int .i64 a2,.slice so sn sd] 24)
 have ba2:=below_alloc9 (w2.alloc (.cells #[.int .i64 a1,.int .i64 a2,.slice so sn sd] 24)) (.cells #[.int .i64 b1,.int .i64 b2,.slice vo vn vd] 24)
 replace HR:=hide (((uH HR).all ba).all ba2)
 replace HB:=hide (((uH HB).trans (ba.mono (uH HB).size)).trans (ba2.mono ((uH HB).trans (ba.mono (uH HB).size)).size))
 clear ba ba2 HT HU
 have X3:=uH HR
 have f0:=X3.free 0;have f1:=X3.free 1;have f2:=X3.free 2
 have s0:=X3.c0;have s1:=X3.c1;have s2:=X3.c2
 have XP:=X3.put (.int .i64 0) (.int .i64 0) (.slice none 0 0)
 have z0:=XP.c0;have z1:=XP.c1;have z2:=XP.c2
 have BP:=hide (below_putM (uH HB) (b:=w.heap.size+1+1) (by omega) (.int .i64 0) (.int .i64 0) (.slice none 0 0))
 clear XP X3
 go_wp2_with fail
 exact bodyPost_ret (v:=.tuple #[.agg #[.int .i64 0,.int .i64 0,.slice none 0 0],.int .i64 2]) (by simp [results,Tryz.results22,go_sem,z0,z1,z2]) rfl ⟨rfl,uH BP⟩
theorem least_rank (r c q:Int) (tn tc bn bc sn vn:Nat) (S V:List Nat) (tq bo:Option Addr) (w:World) (hsh:¬ r < c)
  (C1:∀ w',Below w.heap.size w w'→Calls Tryz.prog 70 #[.agg #[.int .i64 r,.int .i64 c,.slice tq tn tc],.agg #[.int .i64 r,.int .i64 q,.slice bo bn bc]] w' fun e w''=>e = .returned (.int .i64 0)∧Below w'.heap.size w' w'')
  (C2:∀ w',Below w.heap.size w w'→Calls Tryz.prog 71 #[.agg #[.int .i64 r,.int .i64 c,.slice tq tn tc]] w' fun e w''=>∃ so sd vo vd,e = .returned (.tuple #[.agg #[.int .i64 r,.int .i64 c,.slice so sn sd],.agg #[.int .i64 c,.int .i64 c,.slice vo vn vd],.int .i64 0])∧BitsAt w'' so sd (mxL S)∧BitsAt w'' vo vd (mxL V)∧Below w'.heap.size w' w'')
  (C3:∀ w' vo vd,Below w.heap.size w w'→BitsAt w' vo vd (mxL V)→Calls Tryz.prog 18 #[.agg #[.int .i64 c,.int .i64 c,.slice vo vn vd]] w' fun e w''=>e = .returned (.tuple #[.bool true,.int .i64 0])∧Below w'.heap.size w' w'') :
  Calls Tryz.prog 22 #[.agg #[.int .i64 r,.int .i64 c,.slice tq tn tc],.agg #[.int .i64 r,.int .i64 q,.slice bo bn bc]] w fun e w'=>e = .returned (.tuple #[.agg #[.int .i64 0,.int .i64 0,.slice none 0 0],.int .i64 5])∧Below w.heap.size w w':=by
 have KB:=hide (boxes3_17 w (.int .i64 r) (.int .i64 c) (.slice tq tn tc) (.int .i64 r) (.int .i64 q) (.slice bo bn bc) (.int .i64 0) (.int .i64 0) (.slice none 0 0))
 obtain ⟨b0,x0,x1,x2⟩:=uH KB _ (by have:=Below.refl (((w.alloc (.cells #[.int .i64 r,.int .i64 c,.slice tq tn tc] 24)).alloc (.cells #[.int .i64 r,.int .i64 q,.slice bo bn bc] 24)).alloc (.cells #[.int .i64 0,.int .i64 0,.slice none 0 0] 24)).heap.size (((w.alloc (.cells #[.int .i64 r,.int .i64 c,.slice tq tn tc] 24)).alloc (.cells #[.int .i64 r,.int .i64 q,.slice bo bn bc] 24)).alloc (.cells #[.int .i64 0,.int .i64 0,.slice none 0 0] 24));simpa only [size_alloc9] using this)
 have K1:=hide (C1 _ b0)
 have HB:=hide b0;have HT:=hide x0;have HU:=hide x1;have HR:=hide x2
 have K2:=hide C2;have K3:=hide C3
 have y0:=x0.c0;have y1:=x0.c1;have y2:=x0.c2;have u0:=x1.c0;have u1:=x1.c1;have u2:=x1.c2
 clear C3 C2 C1 KB b0 x0 x1 x2
 go_enter Tryz.func22,Tryz.ntmps22
 go_wp2_with fail
 clear y0 y1 y2 u0 u1 u2
 refine (uH K1).mono ?_
 rintro e w1 ⟨rfl,hb⟩
 replace HT:=hide ((uH HT).all hb)
 replace HU:=hide ((uH HU).all hb)
 replace HR:=hide ((uH HR).all hb)
 replace HB:=hide ((uH HB).trans (hb.mono (uH HB).size))
 clear hb K1
 have y0:=(uH HT).c0;have y1:=(uH HT).c1;have y2:=(uH HT).c2;have u0:=(uH HU).c0;have u1:=(uH HU).c1;have u2:=(uH HU).c2
 go_wp2_with fail
 clear y0 y1 y2 u0 u1 u2
 refine (uH K2 _ (uH HB)).mono ?_
 rintro e w2 ⟨so,sd,vo,vd,rfl,hs,hv,hb⟩
 replace HU:=hide ((uH HU).all hb)
 replace HR:=hide ((uH HR).all hb)
 replace HB:=hide ((uH HB).trans (hb.mono (uH HB).size))
 have ba:=below_alloc9 w2 (.cells #[.int .i64 r,.int .i64 c,.slice so sn sd] 24)
 have sa:=size_alloc9 w2 (.cells #[.int .i64 r,.int .i64 c,.slice so sn sd] 24)
 have xs:=BoxM.new w2 (.int .i64 r) (.int .i64 c) (.slice so sn sd)
 have ba2:=below_alloc9 (w2.alloc (.cells #[.int .i64 r,.int .i64 c,.slice so sn sd] 24)) (.cells #[.int .i64 c,.int .i64 c,.slice vo vn vd] 24)
 have xv:=BoxM.new (w2.alloc (.cells #[.int .i64 r,.int .i64 c,.slice so sn sd] 24)) (.int .i64 c) (.int .i64 c) (.slice vo vn vd)
 rw [sa] at xv
 have HS:=hide ((hs.below ba).below ba2)
 have HV:=hide ((hv.below ba).below ba2)
 have HXS:=hide (xs.all ba2)
 have HXV:=hide xv
 replace HU:=hide (((uH HU).all ba).all ba2)
 replace HR:=hide (((uH HR).all ba).all ba2)
 replace HB:=hide (((uH HB).trans (ba.mono (uH HB).size)).trans (ba2.mono ((uH HB).trans (ba.mono (uH HB).size)).size))
 clear hb K2 ba ba2 sa xs xv hs hv HT
 have v0:=(uH HXV).c0;have v1:=(uH HXV).c1;have v2:=(uH HXV).c2
 go_wp2_with fail
 clear v0 v1 v2
 refine (uH K3 _ vo vd (uH HB) (uH HV)).mono ?_
 rintro e w3 ⟨rfl,hb⟩
 replace HU:=hide ((uH HU).all hb)
 replace HR:=hide ((uH HR).all hb)
 replace HXS:=hide ((uH HXS).all hb)
 replace HXV:=hide ((uH HXV).all hb)
 replace HS:=hide ((uH HS).below hb)
 replace HV:=hide ((uH HV).below hb)
 replace HB:=hide ((uH HB).trans (hb.mono (uH HB).size))
 clear hb K3
 have X3:=uH HR
 have f0:=X3.free 0;have f1:=X3.free 1;have f2:=X3.free 2
 have s0:=X3.c0;have s1:=X3.c1;have s2:=X3.c2
 have XP:=X3.put (.int .i64 0) (.int .i64 0) (.slice none 0 0)
 have z0:=XP.c0;have z1:=XP.c1;have z2:=XP.c2
 have BP:=hide (below_putM (uH HB) (b:=w.heap.size+1+1) (by omega) (.int .i64 0) (.int .i64 0) (.slice none 0 0))
 clear XP X3
 go_wp2_with fail
 exact bodyPost_ret (v:=.tuple #[.agg #[.int .i64 0,.int .i64 0,.slice none 0 0],.int .i64 5]) (by simp [results,Tryz.results22,go_sem,z0,z1,z2]) rfl ⟨rfl,uH BP⟩
theorem least_of (r c q f:Int) (tn tc bn bc sn vn yn m u:Nat) (S V Y M:List Nat) (tq bo:Option Addr) (w:World) (hsh:¬ r < c)
  (C1:∀ w',Below w.heap.size w w'→Calls Tryz.prog 70 #[.agg #[.int .i64 r,.int .i64 c,.slice tq tn tc],.agg #[.int .i64 r,.int .i64 q,.slice bo bn bc]] w' fun e w''=>e = .returned (.int .i64 0)∧Below w'.heap.size w' w'')
  (C2:∀ w',Below w.heap.size w w'→Calls Tryz.prog 71 #[.agg #[.int .i64 r,.int .i64 c,.slice tq tn tc]] w' fun e w''=>∃ so sd vo vd,e = .returned (.tuple #[.agg #[.int .i64 r,.int .i64 c,.slice so sn sd],.agg #[.int .i64 c,.int .i64 c,.slice vo vn vd],.int .i64 0])∧BitsAt w'' so sd (mxL S)∧BitsAt w'' vo vd (mxL V)∧Below w'.heap.size w' w'')
  (C3:∀ w' vo vd,Below w.heap.size w w'→BitsAt w' vo vd (mxL V)→Calls Tryz.prog 18 #[.agg #[.int .i64 c,.int .i64 c,.slice vo vn vd]] w' fun e w''=>e = .returned (.tuple #[.bool false,.int .i64 0])∧Below w'.heap.size w' w'')
  (C4:∀ w' so sd,Below w.heap.size w w'→BitsAt w' so sd (mxL S)→Calls Tryz.prog 72 #[.agg #[.int .i64 r,.int .i64 c,.slice so sn sd],.agg #[.int .i64 r,.int .i64 q,.slice bo bn bc]] w' fun e w''=>∃ yo yd,e = .returned (.tuple #[.agg #[.int .i64 c,.int .i64 q,.slice yo yn yd],.int .i64 0])∧BitsAt w'' yo yd (mxL Y)∧Below w'.heap.size w' w'')
  (C5:∀ w' vo vd yo yd,Below w.heap.size w w'→BitsAt w' vo vd (mxL V)→BitsAt w' yo yd (mxL Y)→Calls Tryz.prog 12 #[.agg #[.int .i64 c,.int .i64 c,.slice vo vn vd],.agg #[.int .i64 c,.int .i64 q,.slice yo yn yd]] w' fun e w''=>SvAns w' w'' f m u M e∧Below w'.heap.size w' w'') :
  Calls Tryz.prog 22 #[.agg #[.int .i64 r,.int .i64 c,.slice tq tn tc],.agg #[.int .i64 r,.int .i64 q,.slice bo bn bc]] w fun e w'=>SvAns w w' f m u M e∧Below w.heap.size w w':=by
 have KB:=hide (boxes3_17 w (.int .i64 r) (.int .i64 c) (.slice tq tn tc) (.int .i64 r) (.int .i64 q) (.slice bo bn bc) (.int .i64 0) (.int .i64 0) (.slice none 0 0))
 obtain ⟨b0,x0,x1,x2⟩:=uH KB _ (by have:=Below.refl (((w.alloc (.cells #[.int .i64 r,.int .i64 c,.slice tq tn tc] 24)).alloc (.cells #[.int .i64 r,.int .i64 q,.slice bo bn bc] 24)).alloc (.cells #[.int .i64 0,.int .i64 0,.slice none 0 0] 24)).heap.size (((w.alloc (.cells #[.int .i64 r,.int .i64 c,.slice tq tn tc] 24)).alloc (.cells #[.int .i64 r,.int .i64 q,.slice bo bn bc] 24)).alloc (.cells #[.int .i64 0,.int .i64 0,.slice none 0 0] 24));simpa only [size_alloc9] using this)
 have K1:=hide (C1 _ b0)
 have HB:=hide b0;have HT:=hide x0;have HU:=hide x1;have HR:=hide x2
 have K2:=hide C2;have K3:=hide C3;have K4:=hide C4;have K5:=hide C5
 have y0:=x0.c0;have y1:=x0.c1;have y2:=x0.c2;have u0:=x1.c0;have u1:=x1.c1;have u2:=x1.c2
 clear C5 C4 C3 C2 C1 KB b0 x0 x1 x2
 go_enter Tryz.func22,Tryz.ntmps22
 go_wp2_with fail
 clear y0 y1 y2 u0 u1 u2
 refine (uH K1).mono ?_
 rintro e w1 ⟨rfl,hb⟩
 replace HT:=hide ((uH HT).all hb)
 replace HU:=hide ((uH HU).all hb)
 replace HR:=hide ((uH HR).all hb)
 replace HB:=hide ((uH HB).trans (hb.mono (uH HB).size))
 clear hb K1
 have y0:=(uH HT).c0;have y1:=(uH HT).c1;have y2:=(uH HT).c2;have u0:=(uH HU).c0;have u1:=(uH HU).c1;have u2:=(uH HU).c2
 go_wp2_with fail
 clear y0 y1 y2 u0 u1 u2
 refine (uH K2 _ (uH HB)).mono ?_
 rintro e w2 ⟨so,sd,vo,vd,rfl,hs,hv,hb⟩
 replace HU:=hide ((uH HU).all hb)
 replace HR:=hide ((uH HR).all hb)
 replace HB:=hide ((uH HB).trans (hb.mono (uH HB).size))
 have ba:=below_alloc9 w2 (.cells #[.int .i64 r,.int .i64 c,.slice so sn sd] 24)
 have sa:=size_alloc9 w2 (.cells #[.int .i64 r,.int .i64 c,.slice so sn sd] 24)
 have xs:=BoxM.new w2 (.int .i64 r) (.int .i64 c) (.slice so sn sd)
 have ba2:=below_alloc9 (w2.alloc (.cells #[.int .i64 r,.int .i64 c,.slice so sn sd] 24)) (.cells #[.int .i64 c,.int .i64 c,.slice vo vn vd] 24)
 have xv:=BoxM.new (w2.alloc (.cells #[.int .i64 r,.int .i64 c,.slice so sn sd] 24)) (.int .i64 c) (.int .i64 c) (.slice vo vn vd)
 rw [sa] at xv
 have HS:=hide ((hs.below ba).below ba2)
 have HV:=hide ((hv.below ba).below ba2)
 have HXS:=hide (xs.all ba2)
 have HXV:=hide xv
 replace HU:=hide (((uH HU).all ba).all ba2)
 replace HR:=hide (((uH HR).all ba).all ba2)
 replace HB:=hide (((uH HB).trans (ba.mono (uH HB).size)).trans (ba2.mono ((uH HB).trans (ba.mono (uH HB).size)).size))
 clear hb K2 ba ba2 sa xs xv hs hv HT
 have v0:=(uH HXV).c0;have v1:=(uH HXV).c1;have v2:=(uH HXV).c2
 go_wp2_with fail
 clear v0 v1 v2
 refine (uH K3 _ vo vd (uH HB) (uH HV)).mono ?_
 rintro e w3 ⟨rfl,hb⟩
 replace HU:=hide ((uH HU).all hb)
 replace HR:=hide ((uH HR).all hb)
 replace HXS:=hide ((uH HXS).all hb)
 replace HXV:=hide ((uH HXV).all hb)
 replace HS:=hide ((uH HS).below hb)
 replace HV:=hide ((uH HV).below hb)
 replace HB:=hide ((uH HB).trans (hb.mono (uH HB).size))
 clear hb K3
 have v0:=(uH HXS).c0;have v1:=(uH HXS).c1;have v2:=(uH HXS).c2;have u0:=(uH HU).c0;have u1:=(uH HU).c1;have u2:=(uH HU).c2
 go_wp2_with fail
 clear v0 v1 v2 u0 u1 u2
 refine (uH K4 _ so sd (uH HB) (uH HS)).mono ?_
 rintro e w4 ⟨yo,yd,rfl,hy,hb⟩
 have ba:=below_alloc9 w4 (.cells #[.int .i64 c,.int .i64 q,.slice yo yn yd] 24)
 have HY:=hide (hy.below ba)
 have HXY:=hide (BoxM.new w4 (.int .i64 c) (.int .i64 q) (.slice yo yn yd))
 replace HR:=hide (((uH HR).all hb).all ba)
 replace HXV:=hide (((uH HXV).all hb).all ba)
 replace HV:=hide (((uH HV).below hb).below ba)
 replace HB:=hide (((uH HB).trans (hb.mono (uH HB).size)).trans (ba.mono ((uH HB).trans (hb.mono (uH HB).size)).size))
 clear hb ba hy K4 HU HXS HS
 have v0:=(uH HXV).c0;have v1:=(uH HXV).c1;have v2:=(uH HXV).c2;have u0:=(uH HXY).c0;have u1:=(uH HXY).c1;have u2:=(uH HXY).c2
 go_wp2_with fail
 clear v0 v1 v2 u0 u1 u2
 refine (uH K5 _ vo vd yo yd (uH HB) (uH HV) (uH HY)).mono ?_
 rintro e w5 ⟨hans,hb⟩
 replace HR:=hide ((uH HR).all hb)
 have HB0:=hide (uH HB).size
 replace HB:=hide ((uH HB).trans (hb.mono (uH HB).size))
 clear hb K5 HXV HXY HV HY
 rcases hans with ⟨rfl,xo,xc,rfl,hn,hq,hl,hf⟩ | ⟨hf,rfl⟩
 ·have HN:=hide (hn.least (uH HB0))
  have HQ:=hide hq
  have HL:=hide hl;have HF:=hide hf
  obtain ⟨L,hL⟩:∃ L,m * u = L:=⟨_,rfl⟩
  rw [hL]
  have EL:=hide hL
  have X3:=uH HR
  have f0:=X3.free 0;have f1:=X3.free 1;have f2:=X3.free 2
  have s0:=X3.c0;have s1:=X3.c1;have s2:=X3.c2
  have XP:=X3.put (.int .i64 m) (.int .i64 u) (.slice xo L xc)
  have z0:=XP.c0;have z1:=XP.c1;have z2:=XP.c2
  have BP:=hide (below_putM (uH HB) (b:=w.heap.size+1+1) (by omega) (.int .i64 m) (.int .i64 u) (.slice xo L xc))
  have QP:=hide ((uH HQ).putM X3 (.int .i64 m) (.int .i64 u) (.slice xo L xc))
  clear XP X3 hn hq hl hf hL
  go_wp2_with fail
  exact bodyPost_ret (v:=.tuple #[.agg #[.int .i64 m,.int .i64 u,.slice xo L xc],.int .i64 0]) (by simp [results,Tryz.results22,go_sem,z0,z1,z2]) rfl ⟨.inl ⟨rfl,xo,xc,by rw [uH EL],uH HN,uH QP,uH HL,uH HF⟩,uH BP⟩
 ·have X3:=uH HR
  have f0:=X3.free 0;have f1:=X3.free 1;have f2:=X3.free 2
  have s0:=X3.c0;have s1:=X3.c1;have s2:=X3.c2
  have XP:=X3.put (.int .i64 0) (.int .i64 0) (.slice none 0 0)
  have z0:=XP.c0;have z1:=XP.c1;have z2:=XP.c2
  have BP:=hide (below_putM (uH HB) (b:=w.heap.size+1+1) (by omega) (.int .i64 0) (.int .i64 0) (.slice none 0 0))
  have HF:=hide hf
  clear XP X3 hf
  go_wp2_with fail
  exact bodyPost_ret (v:=.tuple #[.agg #[.int .i64 0,.int .i64 0,.slice none 0 0],.int .i64 f]) (by simp [results,Tryz.results22,go_sem,z0,z1,z2]) rfl ⟨.inr ⟨uH HF,rfl⟩,uH BP⟩
end Go.Proofs.YtlnphkioddknfaaGreatDoor
namespace Go.Proofs.YtlnphkioddknfaaGreatDoor
open Go.RowKit
attribute [local go_sem ↓] Go.wp_at_zero Go.wp_at_succ
theorem rck17_one (r c p q er:Int) (ao bo:Option Addr) (k cap m d:Nat) (w:World) (her:er = 1 ∨ er = 4)
  (C1:∀ w',Below w.heap.size w w'→Calls Tryz.prog 19 #[.agg #[.int .i64 r,.int .i64 c,.slice ao k cap]] w' fun e w''=>e = .returned (.int .i64 er)∧Below w'.heap.size w' w'') :
  Calls Tryz.prog 48 #[.agg #[.int .i64 r,.int .i64 c,.slice ao k cap],.agg #[.int .i64 p,.int .i64 q,.slice bo m d]] w fun e w'=>e = .returned (.int .i64 er)∧Below w.heap.size w w':=by
 have KB:=hide (boxes2 w (.int .i64 r) (.int .i64 c) (.slice ao k cap) (.int .i64 p) (.int .i64 q) (.slice bo m d))
 obtain ⟨b0,x0,x1⟩:=uH KB ((w.alloc (.cells #[.int .i64 r,.int .i64 c,.slice ao k cap] 24)).alloc (.cells #[.int .i64 p,.int .i64 q,.slice bo m d] 24)) (by have:=Below.refl ((w.alloc (.cells #[.int .i64 r,.int .i64 c,.slice ao k cap] 24)).alloc (.cells #[.int .i64 p,.int .i64 q,.slice bo m d] 24)).heap.size ((w.alloc (.cells #[.int .i64 r,.int .i64 c,.slice ao k cap] 24)).alloc (.cells #[.int .i64 p,.int .i64 q,.slice bo m d] 24));simpa only [size_alloc9] using this)
 have HB:=hide b0;have HX:=hide x0;have HY:=hide x1
 have K1:=hide C1
 clear C1 KB b0 x0 x1
 rcases her with rfl | rfl
 all_goals
  go_enter Tryz.func48,Tryz.ntmps48
  have y0:=(uH HX).c0;have y1:=(uH HX).c1;have y2:=(uH HX).c2;have u0:=(uH HY).c0;have u1:=(uH HY).c1;have u2:=(uH HY).c2
  go_wp2_with fail
  clear y0 y1 y2 u0 u1 u2
  refine (uH K1 _ (uH HB)).mono ?_
  rintro e wn ⟨rfl,hb⟩
  replace HX:=hide ((uH HX).all hb);replace HY:=hide ((uH HY).all hb)
  replace HB:=hide ((uH HB).trans (hb.mono (uH HB).size))
  clear hb
  have y0:=(uH HX).c0;have y1:=(uH HX).c1;have y2:=(uH HX).c2;have u0:=(uH HY).c0;have u1:=(uH HY).c1;have u2:=(uH HY).c2
  go_wp2_with fail
  clear y0 y1 y2 u0 u1 u2
  refine (uH K1 _ (uH HB)).mono ?_
  rintro e wn ⟨rfl,hb⟩
  replace HX:=hide ((uH HX).all hb);replace HY:=hide ((uH HY).all hb)
  replace HB:=hide ((uH HB).trans (hb.mono (uH HB).size))
  clear hb
  clear K1 HX HY
  go_wp2
  go_ret
  exact ⟨rfl,uH HB⟩
theorem rck17_two (r c p q er:Int) (ao bo:Option Addr) (k cap m d:Nat) (w:World) (her:er = 1 ∨ er = 4)
  (C1:∀ w',Below w.heap.size w w'→Calls Tryz.prog 19 #[.agg #[.int .i64 r,.int .i64 c,.slice ao k cap]] w' fun e w''=>e = .returned (.int .i64 0)∧Below w'.heap.size w' w'')
  (C2:∀ w',Below w.heap.size w w'→Calls Tryz.prog 19 #[.agg #[.int .i64 p,.int .i64 q,.slice bo m d]] w' fun e w''=>e = .returned (.int .i64 er)∧Below w'.heap.size w' w'') :
  Calls Tryz.prog 48 #[.agg #[.int .i64 r,.int .i64 c,.slice ao k cap],.agg #[.int .i64 p,.int .i64 q,.slice bo m d]] w fun e w'=>e = .returned (.int .i64 er)∧Below w.heap.size w w':=by
 have KB:=hide (boxes2 w (.int .i64 r) (.int .i64 c) (.slice ao k cap) (.int .i64 p) (.int .i64 q) (.slice bo m d))
 obtain ⟨b0,x0,x1⟩:=uH KB ((w.alloc (.cells #[.int .i64 r,.int .i64 c,.slice ao k cap] 24)).alloc (.cells #[.int .i64 p,.int .i64 q,.slice bo m d] 24)) (by have:=Below.refl ((w.alloc (.cells #[.int .i64 r,.int .i64 c,.slice ao k cap] 24)).alloc (.cells #[.int .i64 p,.int .i64 q,.slice bo m d] 24)).heap.size ((w.alloc (.cells #[.int .i64 r,.int .i64 c,.slice ao k cap] 24)).alloc (.cells #[.int .i64 p,.int .i64 q,.slice bo m d] 24));simpa only [size_alloc9] using this)
 have HB:=hide b0;have HX:=hide x0;have HY:=hide x1
 have K1:=hide C1
 have K2:=hide C2
 clear C1 C2 KB b0 x0 x1
 rcases her with rfl | rfl
 all_goals
  go_enter Tryz.func48,Tryz.ntmps48
  have y0:=(uH HX).c0;have y1:=(uH HX).c1;have y2:=(uH HX).c2;have u0:=(uH HY).c0;have u1:=(uH HY).c1;have u2:=(uH HY).c2
  go_wp2_with fail
  clear y0 y1 y2 u0 u1 u2
  refine (uH K1 _ (uH HB)).mono ?_
  rintro e wn ⟨rfl,hb⟩
  replace HX:=hide ((uH HX).all hb);replace HY:=hide ((uH HY).all hb)
  replace HB:=hide ((uH HB).trans (hb.mono (uH HB).size))
  clear hb
  have y0:=(uH HX).c0;have y1:=(uH HX).c1;have y2:=(uH HX).c2;have u0:=(uH HY).c0;have u1:=(uH HY).c1;have u2:=(uH HY).c2
  go_wp2_with fail
  clear y0 y1 y2 u0 u1 u2
  refine (uH K2 _ (uH HB)).mono ?_
  rintro e wn ⟨rfl,hb⟩
  replace HX:=hide ((uH HX).all hb);replace HY:=hide ((uH HY).all hb)
  replace HB:=hide ((uH HB).trans (hb.mono (uH HB).size))
  clear hb
  have y0:=(uH HX).c0;have y1:=(uH HX).c1;have y2:=(uH HX).c2;have u0:=(uH HY).c0;have u1:=(uH HY).c1;have u2:=(uH HY).c2
  go_wp2_with fail
  clear y0 y1 y2 u0 u1 u2
  refine (uH K2 _ (uH HB)).mono ?_
  rintro e wn ⟨rfl,hb⟩
  replace HX:=hide ((uH HX).all hb);replace HY:=hide ((uH HY).all hb)
  replace HB:=hide ((uH HB).trans (hb.mono (uH HB).size))
  clear hb
  clear K1 K2 HX HY
  go_wp2
  go_ret
  exact ⟨rfl,uH HB⟩
theorem rck17_shape (r c p q:Int) (ao bo:Option Addr) (k cap m d:Nat) (w:World) (hsh:¬ r = c ∨ (r = c∧¬ r = p))
  (C1:∀ w',Below w.heap.size w w'→Calls Tryz.prog 19 #[.agg #[.int .i64 r,.int .i64 c,.slice ao k cap]] w' fun e w''=>e = .returned (.int .i64 0)∧Below w'.heap.size w' w'')
  (C2:∀ w',Below w.heap.size w w'→Calls Tryz.prog 19 #[.agg #[.int .i64 p,.int .i64 q,.slice bo m d]] w' fun e w''=>e = .returned (.int .i64 0)∧Below w'.heap.size w' w'') :
  Calls Tryz.prog 48 #[.agg #[.int .i64 r,.int .i64 c,.slice ao k cap],.agg #[.int .i64 p,.int .i64 q,.slice bo m d]] w fun e w'=>e = .returned (.int .i64 3)∧Below w.heap.size w w':=by
 have KB:=hide (boxes2 w (.int .i64 r) (.int .i64 c) (.slice ao k cap) (.int .i64 p) (.int .i64 q) (.slice bo m d))
 obtain ⟨b0,x0,x1⟩:=uH KB ((w.alloc (.cells #[.int .i64 r,.int .i64 c,.slice ao k cap] 24)).alloc (.cells #[.int .i64 p,.int .i64 q,.slice bo m d] 24)) (by have:=Below.refl ((w.alloc (.cells #[.int .i64 r,.int .i64 c,.slice ao k cap] 24)).alloc (.cells #[.int .i64 p,.int .i64 q,.slice bo m d] 24)).heap.size ((w.alloc (.cells #[.int .i64 r,.int .i64 c,.slice ao k cap] 24)).alloc (.cells #[.int .i64 p,.int .i64 q,.slice bo m d] 24));simpa only [size_alloc9] using this)
 have HB:=hide b0;have HX:=hide x0;have HY:=hide x1
 have K1:=hide C1
 have K2:=hide C2
 clear C1 C2 KB b0 x0 x1
 rcases hsh with hsh | ⟨rfl,hsh⟩
 all_goals
  go_enter Tryz.func48,Tryz.ntmps48
  have y0:=(uH HX).c0;have y1:=(uH HX).c1;have y2:=(uH HX).c2;have u0:=(uH HY).c0;have u1:=(uH HY).c1;have u2:=(uH HY).c2
  go_wp2_with fail
  clear y0 y1 y2 u0 u1 u2
  refine (uH K1 _ (uH HB)).mono ?_
  rintro e wn ⟨rfl,hb⟩
  replace HX:=hide ((uH HX).all hb);replace HY:=hide ((uH HY).all hb)
  replace HB:=hide ((uH HB).trans (hb.mono (uH HB).size))
  clear hb
  have y0:=(uH HX).c0;have y1:=(uH HX).c1;have y2:=(uH HX).c2;have u0:=(uH HY).c0;have u1:=(uH HY).c1;have u2:=(uH HY).c2
  go_wp2_with fail
  clear y0 y1 y2 u0 u1 u2
  refine (uH K2 _ (uH HB)).mono ?_
  rintro e wn ⟨rfl,hb⟩
  replace HX:=hide ((uH HX).all hb);replace HY:=hide ((uH HY).all hb)
  replace HB:=hide ((uH HB).trans (hb.mono (uH HB).size))
  clear hb
  have y0:=(uH HX).c0;have y1:=(uH HX).c1;have y2:=(uH HX).c2;have u0:=(uH HY).c0;have u1:=(uH HY).c1;have u2:=(uH HY).c2
  clear K1 K2 HX HY
  go_wp2
  go_ret
  exact ⟨rfl,uH HB⟩
theorem zd_yes {n:Nat} {T:List Nat} (i:Nat) (hi:i < n) (h:fK (elM n T i i) = 0):zdB (dgL n n T) = true:=by
 unfold zdB dgL
 rw [List.any_eq_true]
 exact ⟨_,List.mem_map.2 ⟨i,List.mem_range.2 (by omega),rfl⟩,decide_eq_true h⟩
theorem zd_no {n:Nat} {T:List Nat} (h:∀ i,i < n→fK (elM n T i i) ≠ 0):zdB (dgL n n T) = false:=by
 unfold zdB dgL
 rw [List.any_eq_false]
 intro x hx
 obtain ⟨i,hi,rfl⟩:=List.mem_map.1 hx
 have:=List.mem_range.1 hi
 simpa using h i (by omega)
theorem rck17_ok (n q tc bc tn bn:Nat) (tq bo:Option Addr) (T:List Nat) (w:World) (hT:Mx w tq tc n n T) (ltn:T.length = tn)
  (C1:∀ w',Below w.heap.size w w'→Calls Tryz.prog 19 #[.agg #[.int .i64 n,.int .i64 n,.slice tq tn tc]] w' fun e w''=>e = .returned (.int .i64 0)∧Below w'.heap.size w' w'')
  (C2:∀ w',Below w.heap.size w w'→Calls Tryz.prog 19 #[.agg #[.int .i64 n,.int .i64 q,.slice bo bn bc]] w' fun e w''=>e = .returned (.int .i64 0)∧Below w'.heap.size w' w'') :
  Calls Tryz.prog 48 #[.agg #[.int .i64 n,.int .i64 n,.slice tq tn tc],.agg #[.int .i64 n,.int .i64 q,.slice bo bn bc]] w fun e w'=>e = .returned (.int .i64 (if zdB (dgL n n T) = true then 5 else 0))∧Below w.heap.size w w':=by
 have KB:=hide (boxes2 w (.int .i64 n) (.int .i64 n) (.slice tq tn tc) (.int .i64 n) (.int .i64 q) (.slice bo bn bc))
 obtain ⟨b0,x0,x1⟩:=uH KB ((w.alloc (.cells #[.int .i64 n,.int .i64 n,.slice tq tn tc] 24)).alloc (.cells #[.int .i64 n,.int .i64 q,.slice bo bn bc] 24)) (by have:=Below.refl ((w.alloc (.cells #[.int .i64 n,.int .i64 n,.slice tq tn tc] 24)).alloc (.cells #[.int .i64 n,.int .i64 q,.slice bo bn bc] 24)).heap.size ((w.alloc (.cells #[.int .i64 n,.int .i64 n,.slice tq tn tc] 24)).alloc (.cells #[.int .i64 n,.int .i64 q,.slice bo bn bc] 24));simpa only [size_alloc9] using this)
 have HB:=hide b0;have HX:=hide x0;have HY:=hide x1
 have K1:=hide C1
 have K2:=hide C2
 have KA:=hide (fun w' i (hb:Below w.heap.size w w') (hi:i < n)=>rat_any n n tc i i tq T w' (hT.below hb) hi hi)
 rw [ltn] at KA
 have KK:=hide (fun w' i=>rkind_any (elM n T i i) w' (hT.el_lt i i))
 have ZY:=hide (fun i hi (h:fK (elM n T i i) = 0)=>(show (if zdB (dgL n n T) = true then (5:Int) else 0) = 5 from if_pos (zd_yes (n:=n) (T:=T) i hi h)))
 have ZN:=hide (fun (h:∀ i,i < n→fK (elM n T i i) ≠ 0)=>(show (if zdB (dgL n n T) = true then (5:Int) else 0) = 0 from if_neg (by rw [zd_no (n:=n) (T:=T) h];decide)))
 have n6:=hT.2.2.1
 generalize (if zdB (dgL n n T) = true then (5:Int) else 0) = z at *
 clear C1 C2 KB b0 x0 x1 hT ltn
 go_enter Tryz.func48,Tryz.ntmps48
 have y0:=(uH HX).c0;have y1:=(uH HX).c1;have y2:=(uH HX).c2;have u0:=(uH HY).c0;have u1:=(uH HY).c1;have u2:=(uH HY).c2
 go_wp2_with fail
 clear y0 y1 y2 u0 u1 u2
 refine (uH K1 _ (uH HB)).mono ?_
 rintro e wn ⟨rfl,hb⟩
 replace HX:=hide ((uH HX).all hb);replace HY:=hide ((uH HY).all hb)
 replace HB:=hide ((uH HB).trans (hb.mono (uH HB).size))
 clear hb
 have y0:=(uH HX).c0;have y1:=(uH HX).c1;have y2:=(uH HX).c2;have u0:=(uH HY).c0;have u1:=(uH HY).c1;have u2:=(uH HY).c2
 go_wp2_with fail
 clear y0 y1 y2 u0 u1 u2
 refine (uH K2 _ (uH HB)).mono ?_
 rintro e wn ⟨rfl,hb⟩
 replace HX:=hide ((uH HX).all hb);replace HY:=hide ((uH HY).all hb)
 replace HB:=hide ((uH HB).trans (hb.mono (uH HB).size))
 clear hb
 have y0:=(uH HX).c0;have y1:=(uH HX).c1;have y2:=(uH HX).c2;have u0:=(uH HY).c0;have u1:=(uH HY).c1;have u2:=(uH HY).c2
 clear K1 K2
 go_wp2_with fail
 clear y0 y1 y2 u0 u1 u2
 go_loopw [5] (fun a wr=>∃ i:Nat,i≤n∧a = .int .i64 i∧Hid (∀ j,j < i→fK (elM n T j j) ≠ 0)∧Hid (BoxM wr w.heap.size (.int .i64 n) (.int .i64 n) (.slice tq tn tc))∧Hid (Below w.heap.size w wr)) (fun a _=>n - (intOf a).toNat)
 case atStart=>exact ⟨0,Nat.zero_le _,rfl,fun j hj=>absurd hj (Nat.not_lt_zero j),HX,HB⟩
 case round =>
  clear HX HY HB
  obtain ⟨i,hi,rfl,hF,hX,hB⟩:=hrel
  by_cases hlt:i < n
  ·have hiI:(i:Int) < (n:Int):=by omega
   have KA1:=hide (fun w' hb=>uH KA w' i hb hlt)
   have KK1:=hide (fun w'=>uH KK w' i)
   have ZY1:=hide (uH ZY i hlt)
   have GF:=hide (fun (e:fK (elM n T i i) ≠ 0)=>(show ∀ j,j < i+1→fK (elM n T j j) ≠ 0 from fun j hj=>by
    rcases Nat.lt_or_ge j i with g | g
    ·exact uH hF j g
    ·rw [show j = i by omega];exact e))
   generalize elM n T i i = x at *
   generalize hfk:fK x = k at *
   have hw1:IntKind.i64.wrap ((i:Int)+1) = (i:Int)+1:=wrap_in _ (by omega)
   clear hfk
   have y0:=(uH hX).c0;have y1:=(uH hX).c1;have y2:=(uH hX).c2
   go_wp2_with fail
   clear y0 y1 y2
   refine (uH KA1 _ (uH hB)).mono ?_
   rintro e w3 ⟨rfl,hb⟩
   replace hX:=hide ((uH hX).all hb)
   replace hB:=hide ((uH hB).trans (hb.mono (uH hB).size))
   clear hb KA1
   go_wp2_with fail
   refine (uH KK1 _).mono ?_
   rintro e w4 ⟨rfl,rfl⟩
   clear KK1
   by_cases hk:k = 0
   ·have hz:=hide (uH ZY1 hk)
    subst hk
    clear GF ZY1 hF
    go_wp2_with fail
    exact bodyPost_ret (v:=.int .i64 5) (by simp [results,Tryz.results48,go_sem]) rfl ⟨by rw [uH hz],uH hB⟩
   ·have hF2:=hide (uH GF hk)
    have hk1:((k:Int) == 0) = false:=by rw [beq_eq_false_iff_ne];omega
    have hk2:¬ ((k:Int) = 0):=by omega
    clear GF ZY1 hF
    go_wp2_with fail
    go_round
    case rel=>exact ⟨i+1,by omega,by go_num,hF2,hX,hB⟩
    case measure=>first | (simp [intOf];done) | (simp [intOf];omega)
  ·have hii:i = n:=by omega
   have hz:=hide (uH ZN (fun j hj=>uH hF j (by omega)))
   have hiI:¬ ((i:Int) < (n:Int)):=by omega
   have y0:=(uH hX).c0
   go_wp2_with fail
   exact bodyPost_ret (v:=.int .i64 0) (by simp [results,Tryz.results48,go_sem]) rfl ⟨by rw [uH hz],uH hB⟩
def FnAns (f:Int) (n q L:Nat) (xo:Option Addr) (xc:Nat) (e:Ending):Prop :=
 (f = 0∧e = .returned (.tuple #[.agg #[.int .i64 n,.int .i64 q,.slice xo L xc],.int .i64 0])) ∨ (f ≠ 0∧e = .returned (.tuple #[.agg #[.int .i64 0,.int .i64 0,.slice none 0 0],.int .i64 f]))
theorem rfin17_any (n q L xc:Nat) (xo:Option Addr) (M:List Nat) (w:World) (hM:BitsAt w xo xc (mxL M)) (hl:M.length = L) (h36:L≤36) :
  Calls Tryz.prog 53 #[.agg #[.int .i64 n,.int .i64 q,.slice xo L xc]] w fun e w'=>FnAns (if finL M = true then 0 else 2) n q L xo xc e∧Below w.heap.size w w':=by
 have K:=hide (fun w' (hb:Below w.heap.size w w')=>r9finite_any xo xc (mxL M) w' (hM.below hb) (by rw [mxL_len];omega))
 rw [mxL_len,hl] at K
 have hfl:fnK (mxL M) L = finL M:=by unfold finL;rw [hl]
 rw [hfl] at K
 have KB:=hide (boxes2 w (.int .i64 n) (.int .i64 q) (.slice xo L xc) (.int .i64 0) (.int .i64 0) (.slice none 0 0))
 obtain ⟨b0,x0,x1⟩:=uH KB ((w.alloc (.cells #[.int .i64 n,.int .i64 q,.slice xo L xc] 24)).alloc (.cells #[.int .i64 0,.int .i64 0,.slice none 0 0] 24)) (by have:=Below.refl ((w.alloc (.cells #[.int .i64 n,.int .i64 q,.slice xo L xc] 24)).alloc (.cells #[.int .i64 0,.int .i64 0,.slice none 0 0] 24)).heap.size ((w.alloc (.cells #[.int .i64 n,.int .i64 q,.slice xo L xc] 24)).alloc (.cells #[.int .i64 0,.int .i64 0,.slice none 0 0] 24));simpa only [size_alloc9] using this)
 have HB:=hide b0;have HX:=hide x0;have HR:=hide x1
 generalize finL M = f at *
 clear hM hl hfl KB b0 x0 x1
 cases f
 all_goals
  have y0:=(uH HX).c0;have y1:=(uH HX).c1;have y2:=(uH HX).c2
  go_enter Tryz.func53,Tryz.ntmps53
  go_wp2_with fail
  clear y0 y1 y2
  refine (uH K _ (uH HB)).mono ?_
  rintro e w1 ⟨rfl,hb⟩
  have HX1:=hide ((uH HX).all hb)
  have X3:=(uH HR).all hb
  have HB1:=hide ((uH HB).trans (hb.mono (uH HB).size))
  clear hb K HX HR HB
  have y0:=(uH HX1).c0;have y1:=(uH HX1).c1;have y2:=(uH HX1).c2
  have f0:=X3.free 0;have f1:=X3.free 1;have f2:=X3.free 2
  have s0:=X3.c0;have s1:=X3.c1;have s2:=X3.c2
 ·have XP:=X3.put (.int .i64 0) (.int .i64 0) (.slice none 0 0)
  have z0:=XP.c0;have z1:=XP.c1;have z2:=XP.c2
  have BP:=hide (below_putM (uH HB1) (b:=w.heap.size+1) (by omega) (.int .i64 0) (.int .i64 0) (.slice none 0 0))
  clear XP X3
  go_wp2_with fail
  exact bodyPost_ret (v:=.tuple #[.agg #[.int .i64 0,.int .i64 0,.slice none 0 0],.int .i64 2]) (by simp [results,Tryz.results53,go_sem,z0,z1,z2]) rfl ⟨.inr ⟨by decide,rfl⟩,uH BP⟩
 ·have XP:=X3.put (.int .i64 n) (.int .i64 q) (.slice xo L xc)
  have z0:=XP.c0;have z1:=XP.c1;have z2:=XP.c2
  have BP:=hide (below_putM (uH HB1) (b:=w.heap.size+1) (by omega) (.int .i64 n) (.int .i64 q) (.slice xo L xc))
  clear XP X3
  go_wp2_with fail
  exact bodyPost_ret (v:=.tuple #[.agg #[.int .i64 n,.int .i64 q,.slice xo L xc],.int .i64 0]) (by simp [results,Tryz.results53,go_sem,z0,z1,z2]) rfl ⟨.inl ⟨rfl,rfl⟩,uH BP⟩
end Go.Proofs.YtlnphkioddknfaaGreatDoor
