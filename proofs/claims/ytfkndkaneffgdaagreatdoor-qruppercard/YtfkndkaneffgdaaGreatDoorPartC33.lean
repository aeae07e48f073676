/- Part 33 of the texts. -/
import Derived.Test.YtfkndkaneffgdaaGreatDoorPartC30
import Derived.Test.YtfkndkaneffgdaaGreatDoorPartC31
import Derived.Test.YtfkndkaneffgdaaGreatDoorPartC32
import Derived.Test.YtfkndkaneffgdaaGreatDoorPartC27
import Derived.Deep.RegionLaw
import Derived.Deep.RegionWith
import Derived.Test.YtfkndkaneffgdaaGreatDoorPartC22
import Derived.Deep.RegionHeld3
namespace Go.Proofs.YtfkndkaneffgdaaGreatDoor
open Go.RowKit
theorem aV_left (a b:Nat) (h:fFin (aV a b) = true):fFin a = true:=by
 by_cases h4:fK a = 4
 ·unfold aV at h
  rw [if_pos (.inl h4)] at h
  exact absurd h (by decide +kernel)
 by_cases h3:fK a = 3
 ·unfold aV at h
  by_cases hb:fK b = 4
  ·rw [if_pos (.inr hb)] at h
   exact absurd h (by decide +kernel)
  ·rw [if_neg (fun e=>e.elim h4 hb),if_pos h3] at h
   split at h
   ·exact absurd h (by decide +kernel)
   ·exact h
 exact fin_of a h3 h4
theorem finL_all (xs:List Nat):finL xs = true ↔ ∀ k,k < xs.length→fFin (xs.getD k 0) = true:=by
 unfold finL
 rw [fnK_all]
 exact ⟨fun h k hk=>by have:=h k hk;rwa [mxL_at] at this,fun h k hk=>by rw [mxL_at];exact h k hk⟩
theorem ap_left {r c:Nat} {S:List Nat} (hl:S.length = r * c) (i k:Nat) (vs:List Nat) (tau:Nat) (h:finL (apM r c S i k vs tau) = true):finL S = true:=by
 rw [finL_all] at h ⊢
 intro x hx
 rw [apM_len] at h
 rw [hl] at hx
 obtain ⟨h1,h2,h3⟩:=place_in hx
 have hf:fFin (elM c (apM r c S i k vs tau) (x / c) (x % c)) = true:=by
  have:=h x hx
  unfold elM
  rwa [h3]
 rw [el_ap r c S i k vs tau h1 h2] at hf
 have e:S.getD x 0 = elM c S (x / c) (x % c):=by unfold elM;rw [h3]
 rw [e]
 split at hf
 ·rename_i g
  rw [apL_at c S i (x % c) vs tau (j:=x / c - i) (by omega)] at hf
  have:=aV_left _ _ hf
  rwa [show i+(x / c - i) = x / c by omega] at this
 ·exact hf
theorem qrQ_left (r c:Nat) (S:List Nat) (K:Nat):∀ t d,finL (qrQ r c S K (t+d)) = true→finL (qrQ r c S K t) = true:=by
 intro t d
 induction d with
 | zero=>exact fun h=>h
 | succ d ih=>exact fun h=>ih (ap_left (qrQ_len r c S K (t+d)) _ _ _ _ h)
theorem pa_self (r c:Nat) (S:List Nat) (h:S.length = r * c):paM c S 0 0 r c = S:=by
 conv=>rhs;rw [← mkM_of r c S h]
 unfold paM
 refine mkM_congr (fun p q _ _=>?_)
 rw [Nat.zero_add,Nat.zero_add]
 rfl
theorem triangle_any (r c cap:Nat) (ao:Option Addr) (S:List Nat) (w:World) (h:Mx w ao cap r c S) (hT:Tab w) :
  Calls Tryz.prog 22 #[.agg #[.int .i64 r,.int .i64 c,.slice ao S.length cap]] w fun e w'=>TriAns w w' (qrK r c S (qrN r c)) r c S.length (qrN r c) (facR r c S) (fun j=>mrV (qrX r c S j)) (fun j=>mrT (qrX r c S j)) e∧Below w.heap.size w w':=by
 have hl:=h.2.1
 have r6:=h.2.2.1
 have c6:=h.2.2.2
 have lR:=fun j=>(qrR_len r c S hl j).trans hl.symm
 have lX:∀ j,(qrX r c S j).length = r - j:=qrX_len r c S
 have lV:∀ j,(mrV (qrX r c S j)).length = r - j:=fun j=>by rw [mrV_len,lX]
 have lA:∀ j,(apM r c (qrR r c S j) j j (mrV (qrX r c S j)) (mrT (qrX r c S j))).length = S.length:=fun j=>by rw [apM_len,hl]
 refine triangle_of r c S.length cap (qrN r c) (min (c:Int) ((r:Int) - 1)) ao (qrR r c S) (fun j=>apM r c (qrR r c S j) j j (mrV (qrX r c S j)) (mrT (qrX r c S j))) (qrX r c S) (fun j=>mrV (qrX r c S j)) (fun j=>mrT (qrX r c S j)) (fun j=>mrB (qrX r c S j)) (fun j=>finL (qrX r c S j) && mrK (qrX r c S j)) (qrK r c S (qrN r c)) w r6 c6 rfl (fun j=>by rw [qrN_lt];omega) lR lA lV (fun j _=>qrR_lt h.1.nat (j+1)) (fun j _=>apS_lt (qrR_lt h.1.nat j) _ _ _ _) ?_ ?_ ?_ ?_ ?_ ?_ ?_
 ·rw [qrK_all]
  exact ⟨fun q j hj=>by rw [(q j hj).1,(q j hj).2];rfl,fun q j hj=>by have:=q j hj;rwa [Bool.and_eq_true] at this⟩
 ·intro w' hb
  refine (mPart_ok r c cap 0 0 r c ao S w' (h.below hb) (by omega) (by omega)).mono ?_
  rintro e w'' ⟨v,rfl,⟨po,pc,rfl,hn,hx⟩,hb2⟩
  rw [pa_self r c S hl] at hn hx ⊢
  exact ⟨po,pc,rfl,hn,hx,hb2⟩
 ·intro w' j po pc hj hb
  have hj2:=(qrN_lt r c j).1 hj
  have:=mPart_ok r c pc j j (r - j) 1 po (qrR r c S j) w' ⟨hb,qrR_len r c S hl j,r6,c6⟩ (by omega) (by omega)
  rw [lR j] at this
  refine this.mono ?_
  rintro e w'' ⟨v,rfl,⟨bo,d,rfl,hn,hx⟩,hb2⟩
  rw [pa_col] at hx ⊢
  rw [colL_len]
  exact ⟨bo,d,rfl,hx,hb2⟩
 ·intro w' j bo d hj ho hb hx
  have hj2:=(qrN_lt r c j).1 hj
  rw [Bool.and_eq_true] at ho
  have:=hMake_ok bo d (mxL (qrX r c S j)) w' hx (by rw [mxL_len,lX];omega) (by rw [mxL_len,lX];omega) (by rw [mxL_len];exact ho.1) (by rw [toN_mxL];exact ho.2) (hT.all hb)
  rw [toN_mxL,mxL_len,lX] at this
  exact this
 ·intro w' j bo d hj ho hb hx
  have hj2:=(qrN_lt r c j).1 hj
  cases hf:finL (qrX r c S j)
  ·have:=hMake_inf bo d (mxL (qrX r c S j)) w' hx (by rw [mxL_len,lX];omega) (by rw [mxL_len,lX];omega) (by rw [mxL_len];exact hf)
   rw [mxL_len,lX] at this
   refine this.mono ?_
   rintro e w'' ⟨so,cs,rfl,hb2⟩
   exact ⟨so,cs,4,rfl,.inr rfl,hb2⟩
  ·have hk:mrK (qrX r c S j) = false:=by
    have:=ho
    rw [hf,Bool.true_and] at this
    exact this
   have:=hMake_none bo d (mxL (qrX r c S j)) w' hx (by rw [mxL_len,lX];omega) (by rw [mxL_len,lX];omega) (by rw [mxL_len];exact hf) (by rw [toN_mxL];exact hk) (hT.all hb)
   rw [mxL_len,lX] at this
   refine this.mono ?_
   rintro e w'' ⟨so,cs,rfl,hb2⟩
   exact ⟨so,cs,2,rfl,.inl rfl,hb2⟩
 ·intro w' j po pc vo vc hj hb hp hv
  have hj2:=(qrN_lt r c j).1 hj
  have:=hApply_row r c pc j j vc (mrT (qrX r c S j)) po vo (qrR r c S j) (mrV (qrX r c S j)) w' ⟨hp,qrR_len r c S hl j,r6,c6⟩ hv (by rw [lV];omega) (by omega) (mrT_lt _) (hT.all hb)
  rw [lR j,lV] at this
  refine this.mono ?_
  rintro e w'' ⟨g,rfl,hg,hr,hb2⟩
  exact ⟨g,rfl,by omega,hr,hb2⟩
 ·intro w' j g hj hrow
  have hj2:=(qrN_lt r c j).1 hj
  have:=settle_any r c j (mrB (qrX r c S j)) g _ w' r6 c6 (by omega) (by omega) (apM_len r c (qrR r c S j) j j (mrV (qrX r c S j)) (mrT (qrX r c S j))) hrow
  rw [lA j] at this
  exact this
theorem upright_any (r c lc:Nat) (lo:Option Addr) (S:List Nat) (R:List Mr) (w:World) (hr:r≤6) (hc:c≤6) (hl:OwnMt 0 w (.slice lo (qrN r c) lc) R) (hRl:R.length = qrN r c) (hRm:∀ k,k < qrN r c→(mrAt R k).V = mrV (qrX r c S k)∧(mrAt R k).tau = mrT (qrX r c S k)) (hT:Tab w) :
  Calls Tryz.prog 23 #[.int .i64 r,.slice lo (qrN r c) lc] w fun e w'=>∃ Q qo qc,(Q = facQ r c S ∨ (fnK (mxL Q) (r * r) = false∧finL (facQ r c S) = false))∧Q.length = r * r∧e = .returned (.agg #[.int .i64 r,.int .i64 r,.slice qo (r * r) qc])∧NewB w.heap.size qo (mxL Q)∧BitsAt w' qo qc (mxL Q)∧Below w.heap.size w w':=by
 have lX:∀ j,(qrX r c S j).length = r - j:=qrX_len r c S
 have lV:∀ j,(mrV (qrX r c S j)).length = r - j:=fun j=>by rw [mrV_len,lX]
 have hK:qrN r c≤6:=by unfold qrN;omega
 refine (upright_of r (r * r) (qrN r c) lc lo (fun j=>mrV (qrX r c S j)) (qrQ r c S (qrN r c)) (fun j=>mrT (qrX r c S j)) R w (Nat.mul_le_mul hr hr) hK hl hRl hRm (qrQ_len r c S _) lV ?_ ?_ (fun w' x hx=>sfinite_any x w' hx)).mono ?_
 ·intro w'
  refine (mEye_ok r w' hr).mono ?_
  rintro e w'' ⟨v,rfl,⟨qo,qc,rfl,hn,hb⟩,hb2⟩
  exact ⟨qo,qc,by rw [show (eyM r).length = r * r from mkM_len r r _],hn,hb,hb2⟩
 ·intro w' t j po pc vo vc ht hj hb hp hv
  have hj2:=(qrN_lt r c j).1 (by omega)
  have:=hApply_ok r r pc j 0 vc (mrT (qrX r c S j)) po vo (qrQ r c S (qrN r c) t) (mrV (qrX r c S j)) w' ⟨hp,qrQ_len r c S _ t,hr,hr⟩ hv (by rw [lV];omega) (by omega) (mrT_lt _) (hT.all hb)
  rw [qrQ_len,lV] at this
  refine this.mono ?_
  rintro e w'' ⟨v,rfl,⟨qo,qc,rfl,hn,hx⟩,hb2⟩
  rw [apM_len]
  have e:apM r r (qrQ r c S (qrN r c) t) j 0 (mrV (qrX r c S j)) (mrT (qrX r c S j)) = qrQ r c S (qrN r c) (t+1):=by
   show _ = apM r r (qrQ r c S (qrN r c) t) (qrN r c - 1 - t) 0 (mrV (qrX r c S (qrN r c - 1 - t))) (mrT (qrX r c S (qrN r c - 1 - t)))
   rw [← hj]
  rw [e] at hn hx
  exact ⟨qo,qc,rfl,hn,hx,hb2⟩
 ·rintro e w' ⟨t,qo,qc,ht,hor,rfl,hn,hx,hb⟩
  refine ⟨_,qo,qc,?_,qrQ_len r c S _ t,rfl,hn,hx,hb⟩
  rcases hor with e | e
  ·left;rw [e];rfl
  ·right
   refine ⟨e,?_⟩
   cases hf:finL (facQ r c S)
   ·rfl
   ·have h2:=qrQ_left r c S (qrN r c) t (qrN r c - t) (by rw [show t+(qrN r c - t) = qrN r c by omega];exact hf)
    unfold finL at h2
    rw [qrQ_len,e] at h2
    cases h2
theorem qFactor_any (r c cap:Nat) (ao:Option Addr) (S:List Nat) (w:World) (h:Mx w ao cap r c S) (hf:finL S = true) (hT:Tab w) :
  Calls Tryz.prog 8 #[.agg #[.int .i64 r,.int .i64 c,.slice ao S.length cap]] w fun e w'=>((facK r c S = true∧∃ v u,e = .returned (.tuple #[v,u,.int .i64 0])∧NewM w.heap.size w' r r (facQ r c S) v∧NewM w.heap.size w' r c (facR r c S) u) ∨ (facK r c S = false∧∃ v u,e = .returned (.tuple #[v,u,.int .i64 2])∧NewM w.heap.size w' 0 0 [] v∧NewM w.heap.size w' 0 0 [] u))∧Below w.heap.size w w':=by
 have hl:=h.2.1
 have r6:=h.2.2.1
 have c6:=h.2.2.2
 have h36:=h.small
 have hq36:r * r≤36:=Nat.mul_le_mul r6 r6
 have lr:(facR r c S).length = S.length:=(qrR_len r c S hl _).trans hl.symm
 have hck:ckE (r:Int) (c:Int) (mxL S) = 0:=by
  unfold ckE
  rw [mxL_len,mx_ok h]
  have:fnK (mxL S) S.length = true:=hf
  rw [this]
  rfl
 refine factor_of r c S.length (r * r) (qrN r c) cap ao (facR r c S) (facQ r c S) (fun j=>mrV (qrX r c S j)) (fun j=>mrT (qrX r c S j)) (qrK r c S (qrN r c)) (finL (facQ r c S)) (finL (facR r c S)) w lr (qrQ_len _ _ _ _ _) (by unfold finL;rw [show (facQ r c S).length = r * r from qrQ_len _ _ _ _ _]) ?_ (fun w' hb=>triangle_any r c cap ao S w' (h.below hb) (hT.all hb)) (fun w' lo lc R hb h1 h2 h3=>upright_any r c lc lo S R w' r6 c6 h1 h2 h3 (hT.all hb)) ?_ ?_
 ·intro w' hb
  have:=ccheck_any r c ao cap (mxL S) w' (h.1.below hb) (by rw [mxL_len];omega)
  rw [mxL_len,hck] at this
  exact this
 ·intro w' Q qo qc hb hl2
  have:=vFinite_any qo qc (mxL Q) w' hb (by rw [mxL_len];omega)
  rw [mxL_len,hl2] at this
  exact this
 ·intro w' ro rc hb
  have:=vFinite_any ro rc (mxL (facR r c S)) w' hb (by rw [mxL_len];omega)
  unfold finL
  rw [mxL_len,lr] at this
  rw [lr]
  exact this
theorem qFactor_err (r c:Int) (ao:Option Addr) (cap:Nat) (I:List Int) (w:World) (hI:BitsAt w ao cap I) (hl:I.length≤17592186043904) (h:ckE r c I ≠ 0) :
  Calls Tryz.prog 8 #[.agg #[.int .i64 r,.int .i64 c,.slice ao I.length cap]] w fun e w'=>∃ v u,e = .returned (.tuple #[v,u,.int .i64 (ckE r c I)])∧NewM w.heap.size w' 0 0 [] v∧NewM w.heap.size w' 0 0 [] u∧Below w.heap.size w w':=by
 have hw:ckE r c I = 1 ∨ ckE r c I = 4:=by
  unfold ckE at h ⊢
  repeat' split
  all_goals first | exact .inl rfl | exact .inr rfl | (exfalso;revert h;simp_all)
 exact factor_err r c ao I.length cap _ w hw (fun w' hb=>ccheck_any r c ao cap I w' (hI.below hb) (by omega))
theorem qFactor_yes (r c cap:Nat) (ao:Option Addr) (S:List Nat) (w:World) (h:Mx w ao cap r c S) (hf:finL S = true) (hk:facK r c S = true) (hT:Tab w) :
  Calls Tryz.prog 8 #[.agg #[.int .i64 r,.int .i64 c,.slice ao S.length cap]] w fun e w'=>∃ v u,e = .returned (.tuple #[v,u,.int .i64 0])∧NewM w.heap.size w' r r (facQ r c S) v∧NewM w.heap.size w' r c (facR r c S) u∧Below w.heap.size w w':=by
 refine (qFactor_any r c cap ao S w h hf hT).mono ?_
 rintro e w' ⟨⟨_,v,u,rfl,h1,h2⟩ | ⟨hk2,_⟩,hb⟩
 ·exact ⟨v,u,rfl,h1,h2,hb⟩
 ·rw [hk] at hk2;cases hk2
theorem qFactor_no (r c cap:Nat) (ao:Option Addr) (S:List Nat) (w:World) (h:Mx w ao cap r c S) (hf:finL S = true) (hk:facK r c S = false) (hT:Tab w) :
  Calls Tryz.prog 8 #[.agg #[.int .i64 r,.int .i64 c,.slice ao S.length cap]] w fun e w'=>∃ v u,e = .returned (.tuple #[v,u,.int .i64 2])∧NewM w.heap.size w' 0 0 [] v∧NewM w.heap.size w' 0 0 [] u∧Below w.heap.size w w':=by
 refine (qFactor_any r c cap ao S w h hf hT).mono ?_
 rintro e w' ⟨⟨hk2,_⟩ | ⟨_,v,u,rfl,h1,h2⟩,hb⟩
 ·rw [hk] at hk2;cases hk2
 ·exact ⟨v,u,rfl,h1,h2,hb⟩
end Go.Proofs.YtfkndkaneffgdaaGreatDoor
namespace Go.Proofs.YtfkndkaneffgdaaGreatDoor
open Go.RowKit
attribute [local go_sem ↓] Go.wp_at_zero Go.wp_at_succ
set_option maxRecDepth 20000 in
set_option maxHeartbeats 4000000 in
theorem awake14_of (w:World)
  (C1:∀ w' ao,Below w.heap.size w w'→BitsAt w' ao 2 [((4613937818241073152:Nat):Int),((4616189618054758400:Nat):Int)]→Calls Tryz.prog 8 #[.agg #[.int .i64 2,.int .i64 1,.slice ao 2 2]] w' fun e w''=>∃ (a1 a2:Int) (qo:Option Addr) (nq qc:Nat) (ro:Option Addr) (rc:Nat),e = .returned (.tuple #[.agg #[.int .i64 a1,.int .i64 a2,.slice qo nq qc],.agg #[.int .i64 2,.int .i64 1,.slice ro 2 rc],.int .i64 0])∧BitsAt w'' ro rc (mxL [13840687554816376832,0])∧Below w'.heap.size w' w'') :
  Calls Tryz.prog 11 #[] w fun e w'=>e = .returned (.bool true)∧Below w.heap.size w w':=by
 have K1:=hide C1
 have TB:=hide (two_bits w 4613937818241073152 4616189618054758400 (by decide) (by decide))
 have BB:=hide (below_alloc9 w (.cells #[.int .u64 ((4613937818241073152:Nat):Int),.int .u64 ((4616189618054758400:Nat):Int)] 30))
 clear C1
 go_enter Tryz.func11,Tryz.ntmps11
 go_wp2_with fail
 refine (uH K1 _ _ (uH BB) (uH TB)).mono ?_
 rintro e w1 ⟨a1,a2,qo,nq,qc,ro,rc,rfl,bv,hb⟩
 obtain ⟨b,off,rfl,_,hc⟩:=bv.ne (by decide)
 have c0:w1.cell? ⟨b,off+0,none⟩ = some (.int .u64 13840687554816376832):=hc 0 (by decide)
 have c1:w1.cell? ⟨b,off+1,none⟩ = some (.int .u64 0):=hc 1 (by decide)
 rw [Nat.add_zero] at c0
 replace BB:=hide ((uH BB).trans (hb.mono (uH BB).size))
 clear hb K1 TB bv hc
 have ba:=below_alloc9 w1 (.cells #[.int .i64 a1,.int .i64 a2,.slice qo nq qc] 24)
 have bb:=below_alloc9 (w1.alloc (.cells #[.int .i64 a1,.int .i64 a2,.slice qo nq qc] 24)) (.cells #[.int .i64 2,.int .i64 1,.slice (some ⟨b,off,none⟩) 2 rc] 24)
 have BC:=hide ((uH BB).trans ((ba.trans (bb.mono ba.size)).mono (uH BB).size))
 clear ba bb BB
 go_wp2
 go_ret
 exact ⟨rfl,uH BC⟩
theorem q345_facts:dV (aV 13840687554816376832 (fN 4613937818241073152)) 13840687554816376832 = 4609884578576439706∧fN 13840687554816376832 = 4617315517961601024:=by decide +kernel
end Go.Proofs.YtfkndkaneffgdaaGreatDoor
namespace Go.Proofs.YtfkndkaneffgdaaGreatDoor
open Go.RowKit
theorem q345_fin:finL (apM 2 2 (eyM 2) 0 0 [4607182418800017408,4602678819172646912] 4609884578576439706) = true:=by decide +kernel
theorem t345:mrT [4613937818241073152,4616189618054758400] = 4609884578576439706:=by
 obtain ⟨_,_,_,_,_,_,_,_,_,h10,_⟩:=w13_facts
 show (if ngt [4616189618054758400] = true then 0 else dV (aV (hmB 4613937818241073152 [4616189618054758400]) (fN 4613937818241073152)) (hmB 4613937818241073152 [4616189618054758400])) = _
 rw [if_neg (by rw [h10];decide),hm_345.1]
 exact q345_facts.1
theorem x345:qrX 2 1 [4613937818241073152,4616189618054758400] 0 = [4613937818241073152,4616189618054758400]:=rfl
theorem r345:facR 2 1 [4613937818241073152,4616189618054758400] = [13840687554816376832,0]:=by
 show clM 2 1 (apM 2 1 [4613937818241073152,4616189618054758400] 0 0 (mrV (qxL 2 1 [4613937818241073152,4616189618054758400] 0)) (mrT (qxL 2 1 [4613937818241073152,4616189618054758400] 0))) 0 (mrB (qxL 2 1 [4613937818241073152,4616189618054758400] 0)) = _
 have e:qxL 2 1 [4613937818241073152,4616189618054758400] 0 = [4613937818241073152,4616189618054758400]:=rfl
 rw [e,mr_345.1]
 generalize apM 2 1 [4613937818241073152,4616189618054758400] 0 0 _ _ = T
 rfl
theorem k345:facK 2 1 [4613937818241073152,4616189618054758400] = true:=by
 have eN:qrN 2 1 = 1:=rfl
 have eQ:facQ 2 1 [4613937818241073152,4616189618054758400] = apM 2 2 (eyM 2) 0 0 (mrV [4613937818241073152,4616189618054758400]) (mrT [4613937818241073152,4616189618054758400]):=rfl
 have k1:qrK 2 1 [4613937818241073152,4616189618054758400] (qrN 2 1) = true:=by
  rw [eN,qrK_all]
  intro j hj
  obtain rfl:j = 0:=by omega
  rw [x345]
  refine ⟨?_,mr_345.2.2⟩
  show ((true && fFin 4613937818241073152) && fFin 4616189618054758400) = true
  rw [w13_facts.2.1,w13_facts.2.2.2.2.2.2.2.2.2.2.2.2]
  rfl
 unfold facK
 rw [k1,eQ,mr_345.2.1,t345,q345_fin,r345]
 show (true && (true && ((true && fFin 13840687554816376832) && fFin 0))) = true
 rw [w13_facts.2.2.2.2.2.2.2.2.2.2.1]
 decide +kernel
theorem qr_awake (w:World)
  (CY:∀ w' ao cap (r c:Nat) S,Below w.heap.size w w'→Mx w' ao cap r c S→finL S = true→facK r c S = true→Calls Tryz.prog 8 #[.agg #[.int .i64 r,.int .i64 c,.slice ao S.length cap]] w' fun e w''=>∃ v u,e = .returned (.tuple #[v,u,.int .i64 0])∧NewM w'.heap.size w'' r r (facQ r c S) v∧NewM w'.heap.size w'' r c (facR r c S) u∧Below w'.heap.size w' w'') :
  ∀ w',Below w.heap.size w w'→Calls Tryz.prog 11 #[] w' fun e w''=>e = .returned (.bool true)∧Below w'.heap.size w' w'':=by
 intro w' hb
 refine awake14_of w' (fun w2 ao hb2 hI=>?_)
 have hM:Mx w2 ao 2 2 1 [4613937818241073152,4616189618054758400]:=⟨hI,rfl,by decide,by decide⟩
 have hf:finL [4613937818241073152,4616189618054758400] = true:=by
  show ((true && fFin 4613937818241073152) && fFin 4616189618054758400) = true
  rw [w13_facts.2.1,w13_facts.2.2.2.2.2.2.2.2.2.2.2.2]
  rfl
 refine (CY w2 ao 2 2 1 _ (hb.trans (hb2.mono hb.size)) hM hf k345).mono ?_
 rintro e w3 ⟨v,u,rfl,⟨qo,qc,rfl,_,_⟩,⟨ro,rc,rfl,_,hr⟩,hb3⟩
 rw [r345] at hr ⊢
 exact ⟨_,_,qo,_,qc,ro,rc,rfl,hr,hb3⟩
end Go.Proofs.YtfkndkaneffgdaaGreatDoor
namespace Go.Proofs.YtfkndkaneffgdaaGreatDoor
open Go.RowKit
attribute [local go_sem ↓] Go.wp_at_zero Go.wp_at_succ
structure UpSt (w wr:World) (g:Nat) (a0 a1 a2 q0 q1 q2 r0 r1 r2:Value):Prop where
 bel:Below w.heap.size w wr
 a:BoxM wr w.heap.size a0 a1 a2
 q:BoxM wr g q0 q1 q2
 r:BoxM wr (g+1) r0 r1 r2
theorem UpSt.all {w wr w':World} {g:Nat} {a0 a1 a2 q0 q1 q2 r0 r1 r2:Value} (h:UpSt w wr g a0 a1 a2 q0 q1 q2 r0 r1 r2) (hb:Below wr.heap.size wr w'):UpSt w w' g a0 a1 a2 q0 q1 q2 r0 r1 r2 :=
 ⟨h.bel.trans (hb.mono h.bel.size),h.a.all hb,h.q.all hb,h.r.all hb⟩
theorem UpSt.start {w w1:World} {a0 a1 a2:Value} (hB:Below w.heap.size w w1) (hA:BoxM w1 w.heap.size a0 a1 a2) (q0 q1 q2 r0 r1 r2:Value):UpSt w ((w1.alloc (.cells #[q0,q1,q2] 24)).alloc (.cells #[r0,r1,r2] 24)) w1.heap.size a0 a1 a2 q0 q1 q2 r0 r1 r2∧Below w1.heap.size w1 ((w1.alloc (.cells #[q0,q1,q2] 24)).alloc (.cells #[r0,r1,r2] 24)):=by
 have ba:=below_alloc9 w1 (.cells #[q0,q1,q2] 24)
 have za:=size_alloc9 w1 (.cells #[q0,q1,q2] 24)
 have bb:=below_alloc9 (w1.alloc (.cells #[q0,q1,q2] 24)) (.cells #[r0,r1,r2] 24)
 have xb:=BoxM.new (w1.alloc (.cells #[q0,q1,q2] 24)) r0 r1 r2
 rw [za] at xb
 have bc:=ba.trans (bb.mono ba.size)
 exact ⟨⟨hB.trans (bc.mono hB.size),hA.all bc,(BoxM.new w1 q0 q1 q2).all bb,xb⟩,bc⟩
set_option maxRecDepth 20000 in
set_option maxHeartbeats 4000000 in
theorem qrUpper_no (r c:Int) (ao:Option Addr) (n cap:Nat) (er:Int) (w:World) (her:er = 1 ∨ er = 4 ∨ er = 2)
  (C2:∀ w',Below w.heap.size w w'→Calls Tryz.prog 8 #[.agg #[.int .i64 r,.int .i64 c,.slice ao n cap]] w' fun e w''=>∃ v u,e = .returned (.tuple #[v,u,.int .i64 er])∧NewM w'.heap.size w'' 0 0 [] v∧NewM w'.heap.size w'' 0 0 [] u∧Below w'.heap.size w' w'')
  (CA:∀ w',Below w.heap.size w w'→Calls Tryz.prog 11 #[] w' fun e w''=>e = .returned (.bool true)∧Below w'.heap.size w' w'') :
  Calls Tryz.prog 5 #[.agg #[.int .i64 r,.int .i64 c,.slice ao n cap]] w fun e w'=>e = .returned (.bool true)∧Below w.heap.size w w':=by
 have b0:=below_alloc9 w (.cells #[.int .i64 r,.int .i64 c,.slice ao n cap] 24)
 have HA:=hide (BoxM.new w (.int .i64 r) (.int .i64 c) (.slice ao n cap))
 have HB:=hide b0
 have K2:=hide C2;have KA:=hide CA
 clear b0 C2 CA
 rcases her with rfl | rfl | rfl
 all_goals
  go_enter Tryz.func5,Tryz.ntmps5
  go_wp2_with fail
  refine (uH K2 _ (uH HB)).mono ?_
  rintro e w1 ⟨v,u,rfl,⟨so,sd,rfl,_,_⟩,⟨to',td,rfl,_,_⟩,hb⟩
  have ST:=hide (UpSt.start ((uH HB).trans (hb.mono (uH HB).size)) ((uH HA).all hb) (.int .i64 ((0:Nat):Int)) (.int .i64 ((0:Nat):Int)) (.slice so ([]:List Nat).length sd) (.int .i64 ((0:Nat):Int)) (.int .i64 ((0:Nat):Int)) (.slice to' ([]:List Nat).length td)).1
  clear hb HA HB K2
  simp only [List.length_nil] at ST
  have q2:=(uH ST).q.c2;have r2:=(uH ST).r.c2
  go_wp2_with fail
  clear q2 r2
  refine (uH KA _ (uH ST).bel).mono ?_
  rintro e w2 ⟨rfl,hb⟩
  have BE:=hide ((uH ST).bel.trans (hb.mono (uH ST).bel.size))
  clear hb ST
  go_wp2
  go_ret
  exact ⟨rfl,uH BE⟩
set_option maxRecDepth 20000 in
set_option maxHeartbeats 8000000 in
theorem qrUpper_yes (r c:Nat) (ao:Option Addr) (n cap:Nat) (Q R:List Nat) (w:World) (hr:r≤6) (hc:c≤6) (lR:R.length = r * c)
  (hz:∀ i k,i < r→k < c→k < i→(k:Int) < (r:Int) - 1→elM c R i k = 0)
  (C2:∀ w',Below w.heap.size w w'→Calls Tryz.prog 8 #[.agg #[.int .i64 r,.int .i64 c,.slice ao n cap]] w' fun e w''=>∃ v u,e = .returned (.tuple #[v,u,.int .i64 0])∧NewM w'.heap.size w'' r r Q v∧NewM w'.heap.size w'' r c R u∧Below w'.heap.size w' w'')
  (CA:∀ w',Below w.heap.size w w'→Calls Tryz.prog 11 #[] w' fun e w''=>e = .returned (.bool true)∧Below w'.heap.size w' w'') :
  Calls Tryz.prog 5 #[.agg #[.int .i64 r,.int .i64 c,.slice ao n cap]] w fun e w'=>e = .returned (.bool true)∧Below w.heap.size w w':=by
 have b0:=below_alloc9 w (.cells #[.int .i64 r,.int .i64 c,.slice ao n cap] 24)
 have HA:=hide (BoxM.new w (.int .i64 r) (.int .i64 c) (.slice ao n cap))
 have HB:=hide b0
 have K2:=hide C2;have KA:=hide CA;have HZ:=hide hz
 have hw1:IntKind.i64.wrap ((r:Int) - 1) = (r:Int) - 1:=wrap_in _ (by omega)
 clear b0 C2 CA hz
 go_enter Tryz.func5,Tryz.ntmps5
 go_wp2_with fail
 refine (uH K2 _ (uH HB)).mono ?_
 rintro e w1 ⟨v,u,rfl,⟨so,sd,rfl,_,_⟩,⟨to',td,rfl,_,qt⟩,hb⟩
 obtain ⟨st,bc⟩:=UpSt.start ((uH HB).trans (hb.mono (uH HB).size)) ((uH HA).all hb) (.int .i64 (r:Nat)) (.int .i64 (r:Nat)) (.slice so Q.length sd) (.int .i64 (r:Nat)) (.int .i64 (c:Nat)) (.slice to' R.length td)
 have ST:=hide st
 have KT:=hide (fun W (h:BitsAt W to' td (mxL R)) i k (hi:i < r) (hk:k < c)=>rat_any r c td i k to' R W ⟨h,lR,hr,hc⟩ hi hk)
 have QT:=hide (qt.below bc)
 clear hb HA HB K2 st bc qt lR
 generalize R.length = nR at *
 generalize Q.length = nQ at *
 go_wp2_with fail
 generalize w1.heap.size = g at *
 go_loopw [6] (fun a wr=>∃ i:Nat,i≤r∧a = .int .i64 i∧Hid (UpSt w wr g (.int .i64 r) (.int .i64 c) (.slice ao n cap) (.int .i64 r) (.int .i64 r) (.slice so nQ sd) (.int .i64 r) (.int .i64 c) (.slice to' nR td))∧Hid (BitsAt wr to' td (mxL R))) (fun a _=>r - (intOf a).toNat)
 case atStart=>exact ⟨0,Nat.zero_le _,rfl,ST,QT⟩
 case round =>
  clear ST QT
  obtain ⟨i,hi,rfl,hS,hQ⟩:=hrel
  have r0:=(uH hS).r.c0;have r1:=(uH hS).r.c1;have r2:=(uH hS).r.c2
  by_cases hlt:i < r
  ·have hiI:(i:Int) < (r:Int):=by omega
   go_wp2_with fail
   clear r0 r1 r2
   go_loopw [7] (fun a wr=>∃ k:Nat,k≤i∧a = .int .i64 k∧Hid (UpSt w wr g (.int .i64 r) (.int .i64 c) (.slice ao n cap) (.int .i64 r) (.int .i64 r) (.slice so nQ sd) (.int .i64 r) (.int .i64 c) (.slice to' nR td))∧Hid (BitsAt wr to' td (mxL R))) (fun a _=>i - (intOf a).toNat)
   case atStart=>exact ⟨0,Nat.zero_le _,rfl,hS,hQ⟩
   case round =>
    clear hS hQ
    obtain ⟨k,hk,rfl,hS,hQ⟩:=hrel
    have r0:=(uH hS).r.c0;have r1:=(uH hS).r.c1;have r2:=(uH hS).r.c2
    rcases (show ((k:Int) < (i:Int)∧(k:Int) < (c:Int)∧(k:Int) < (r:Int) - 1) ∨ (i:Int)≤(k:Int) ∨ ((k:Int) < (i:Int)∧(c:Int)≤(k:Int)) ∨ ((k:Int) < (i:Int)∧(k:Int) < (c:Int)∧(r:Int) - 1≤(k:Int)) by omega) with ⟨g1,g2,g3⟩ | g1 | ⟨g1,g2⟩ | ⟨g1,g2,g3⟩
    ·have G:=hide (uH KT _ (uH hQ) i k hlt (by omega))
     rw [uH HZ i k hlt (by omega) (by omega) g3] at G
     go_wp2_with fail
     clear r0 r1 r2
     refine Calls.mono (uH G) ?_
     rintro e w3 ⟨rfl,hb⟩
     have S3:=hide ((uH hS).all hb);have Q3:=hide ((uH hQ).below hb)
     clear hb G hS hQ
     go_wp2_with fail
     go_round
     case rel=>exact ⟨k+1,by omega,by go_num,S3,Q3⟩
     case measure=>simp [intOf];omega
    ·have d1:decide ((k:Int) < (i:Int)) = false:=decide_eq_false (by omega)
     go_wp2_with fail
     clear r0 r1 r2
     go_round
     case rel=>exact ⟨i+1,by omega,by go_num,hS,hQ⟩
     case measure=>simp [intOf];omega
    ·have d1:decide ((k:Int) < (i:Int)) = true:=decide_eq_true g1
     have d2:decide ((k:Int) < (c:Int)) = false:=decide_eq_false (by omega)
     go_wp2_with fail
     clear r0 r1 r2
     go_round
     case rel=>exact ⟨i+1,by omega,by go_num,hS,hQ⟩
     case measure=>simp [intOf];omega
    ·exfalso
     omega
  ·have hii:i = r:=by omega
   subst hii
   have a0:=(uH hS).a.c0;have a1:=(uH hS).a.c1
   have q0:=(uH hS).q.c0;have q1:=(uH hS).q.c1
   go_wp2_with fail
   refine (uH KA _ (uH hS).bel).mono ?_
   rintro e w4 ⟨rfl,hb⟩
   have BE:=hide ((uH hS).bel.trans (hb.mono (uH hS).bel.size))
   clear hb a0 a1 q0 q1 r0 r1 r2
   go_wp2
   go_ret
   exact ⟨rfl,uH BE⟩
theorem qrUpper_by (r c:Int) (ao:Option Addr) (cap:Nat) (I:List Int) (w:World) (hI:BitsAt w ao cap I)
  (CE:∀ w' po pc,Below w.heap.size w w'→BitsAt w' po pc I→ckE r c I ≠ 0→Calls Tryz.prog 8 #[.agg #[.int .i64 r,.int .i64 c,.slice po I.length pc]] w' fun e w''=>∃ v u,e = .returned (.tuple #[v,u,.int .i64 (ckE r c I)])∧NewM w'.heap.size w'' 0 0 [] v∧NewM w'.heap.size w'' 0 0 [] u∧Below w'.heap.size w' w'')
  (CN:∀ w' ao cap (r c:Nat) S,Below w.heap.size w w'→Mx w' ao cap r c S→finL S = true→facK r c S = false→Calls Tryz.prog 8 #[.agg #[.int .i64 r,.int .i64 c,.slice ao S.length cap]] w' fun e w''=>∃ v u,e = .returned (.tuple #[v,u,.int .i64 2])∧NewM w'.heap.size w'' 0 0 [] v∧NewM w'.heap.size w'' 0 0 [] u∧Below w'.heap.size w' w'')
  (CY:∀ w' ao cap (r c:Nat) S,Below w.heap.size w w'→Mx w' ao cap r c S→finL S = true→facK r c S = true→Calls Tryz.prog 8 #[.agg #[.int .i64 r,.int .i64 c,.slice ao S.length cap]] w' fun e w''=>∃ v u,e = .returned (.tuple #[v,u,.int .i64 0])∧NewM w'.heap.size w'' r r (facQ r c S) v∧NewM w'.heap.size w'' r c (facR r c S) u∧Below w'.heap.size w' w'') :
  Calls Tryz.prog 5 #[.agg #[.int .i64 r,.int .i64 c,.slice ao I.length cap]] w fun e w'=>e = .returned (.bool true)∧Below w.heap.size w w':=by
 have CA:=qr_awake w CY
 by_cases h0:ckE r c I = 0
 ·obtain ⟨ho,hf⟩:=ckE_zero h0
  obtain ⟨p,q,rfl,rfl,hM,hS⟩:=Mx.of hI ho
  have e1:=natL_len I
  have hfin:finL (natL I) = true:=by
   unfold finL
   rw [mxL_natL hI,e1]
   exact hf
  cases hk:facK p q (natL I)
  ·refine qrUpper_no p q ao I.length cap 2 w (.inr (.inr rfl)) (fun w' hb=>?_) CA
   have:=CN w' ao cap p q (natL I) hb (hM.below hb) hfin hk
   rw [e1] at this
   exact this
  ·refine qrUpper_yes p q ao I.length cap (facQ p q (natL I)) (facR p q (natL I)) w hM.2.2.1 hM.2.2.2 (qrR_len p q (natL I) hM.2.1 _) (fun i k hi hk2 hki hk3=>qrR_zero p q (natL I) (qrN p q) hi hk2 ((qrN_lt p q k).2 ⟨by omega,hk3⟩) hki) (fun w' hb=>?_) CA
   have:=CY w' ao cap p q (natL I) hb (hM.below hb) hfin hk
   rw [e1] at this
   exact this
 ·have hw:=ckE_three r c I
  exact qrUpper_no r c ao I.length cap (ckE r c I) w (by omega) (fun w' hb=>CE w' ao cap hb (hI.below hb) h0) CA
end Go.Proofs.YtfkndkaneffgdaaGreatDoor
namespace Go.Proofs.YtfkndkaneffgdaaGreatDoor
open Go.RowKit
theorem qrUpper_walk (r c:Int) (ao:Option Addr) (cap:Nat) (I:List Int) (w:World) (hI:BitsAt w ao cap I) (hl:I.length≤17592186043904) (_hr:-9223372036854775808≤r∧r≤9223372036854775807) (_hc:-9223372036854775808≤c∧c≤9223372036854775807) (hT:Tab w) :
  Calls Tryz.prog 5 #[.agg #[.int .i64 r,.int .i64 c,.slice ao I.length cap]] w fun e w'=>e = .returned (.bool true)∧Below w.heap.size w w' :=
 qrUpper_by r c ao cap I w hI (fun w' po pc _ hx h=>qFactor_err r c po pc I w' hx hl h) (fun w' ao cap r c S hb h hf hk=>qFactor_no r c cap ao S w' h hf hk (hT.all hb)) (fun w' ao cap r c S hb h hf hk=>qFactor_yes r c cap ao S w' h hf hk (hT.all hb))
end Go.Proofs.YtfkndkaneffgdaaGreatDoor
