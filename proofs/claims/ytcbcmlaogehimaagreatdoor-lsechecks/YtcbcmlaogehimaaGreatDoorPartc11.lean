/- Part 11 of the texts. -/
import Derived.Test.YtcbcmlaogehimaaGreatDoorPartc10
import Derived.Deep.Cut
set_option maxHeartbeats 4000000
namespace Go.Proofs.YtcbcmlaogehimaaGreatDoor
open Go.RowKit
def sgnI (z:Int):Int:=if z < 0 then -1 else if z = 0 then 0 else 1
def cmpV (sa x sb y:Int):Int:=cmpI (up sa x (lowE sa x sb y)) (up sb y (lowE sa x sb y))
theorem sgnI_neg {u:Int} (h:u < 0):sgnI u = -1:=by unfold sgnI;rw [if_pos h]
theorem sgnI_zero:sgnI 0 = 0:=rfl
theorem sgnI_pos {u:Int} (h:0 < u):sgnI u = 1:=by unfold sgnI;rw [if_neg (by omega),if_neg (by omega)]
theorem sgnI_mul_pow (s:Int) (k:Nat):sgnI (s * 2 ^ k) = sgnI s:=by
 have hp:(0:Int) < 2 ^ k:=Int.pow_pos (by decide)
 rcases Int.lt_trichotomy s 0 with h | h | h
 ·rw [sgnI_neg h,sgnI_neg (Int.mul_neg_of_neg_of_pos h hp)]
 ·subst h;rw [Int.zero_mul]
 ·rw [sgnI_pos h,sgnI_pos (Int.mul_pos h hp)]
theorem sgnI_up (s x l:Int):sgnI (up s x l) = sgnI s:=sgnI_mul_pow s _
theorem sgnB_I {n:Bool} {L:List Nat} (h:rightB n L = true):sgnB n L.length = sgnI (sval n L):=by
 unfold sgnB
 have hz:=sval_zero_iff h
 by_cases h0:L.length = 0
 ·rw [if_pos h0,hz.2 h0];rfl
 ·have h1:sval n L ≠ 0:=fun e=>h0 (hz.1 e)
  rw [if_neg h0]
  unfold sval at h1 ⊢
  cases n
  ·simp only [Bool.false_eq_true,if_false] at h1 ⊢
   rw [sgnI_pos (by omega)]
  ·simp only [if_true] at h1 ⊢
   rw [sgnI_neg (by omega)]
theorem rsgn_I {n:Bool} {L:List Nat} (h:rightB n L = true):rsgn n L.length = sgnI (sval n L):=by
 rw [← sgnB_I h]
 unfold rsgn sgnB
 cases n
 ·rfl
 ·have:L.length ≠ 0:=fun e=>(right_canon h).2.2 rfl (List.length_eq_zero_iff.1 e)
  simp [this]
theorem cmp_signs (u v:Int) (h:sgnI u ≠ sgnI v):cmpI (sgnI u) (sgnI v) = cmpI u v∧min 1 (max (-1) (sgnI u - sgnI v)) = cmpI u v:=by
 rcases Int.lt_trichotomy u 0 with h1 | h1 | h1 <;> rcases Int.lt_trichotomy v 0 with h2 | h2 | h2
 ·rw [sgnI_neg h1,sgnI_neg h2] at h;exact absurd rfl h
 ·subst h2;rw [sgnI_neg h1,sgnI_zero,cmpI_lt h1];decide
 ·rw [sgnI_neg h1,sgnI_pos h2,cmpI_lt (show u < v by omega)];decide
 ·subst h1;rw [sgnI_neg h2,sgnI_zero,cmpI_gt h2];decide
 ·subst h1;subst h2;exact absurd rfl h
 ·subst h1;rw [sgnI_pos h2,sgnI_zero,cmpI_lt h2];decide
 ·rw [sgnI_pos h1,sgnI_neg h2,cmpI_gt (show v < u by omega)];decide
 ·subst h2;rw [sgnI_pos h1,sgnI_zero,cmpI_gt h1];decide
 ·rw [sgnI_pos h1,sgnI_pos h2] at h;exact absurd rfl h
theorem cmp_tops (va vb na nb da db:Nat) (h2:va < 2 ^ na) (h3:2 ^ (nb - 1)≤vb) (hb:1≤nb) (h:na+da < nb+db):va * 2 ^ da < vb * 2 ^ db:=by
 have e1:va * 2 ^ da < 2 ^ (na+da):=by rw [Nat.pow_add];exact Nat.mul_lt_mul_of_pos_right h2 (Nat.pow_pos (by decide))
 have e2:2 ^ (nb - 1+db)≤vb * 2 ^ db:=by rw [Nat.pow_add];exact Nat.mul_le_mul_right _ h3
 have e3:2 ^ (na+da)≤2 ^ (nb - 1+db):=Nat.pow_le_pow_right (by decide) (by omega)
 omega
theorem up_sval (n:Bool) (L:List Nat) (x l:Int):up (sval n L) x l = sg n (val L * 2 ^ (x - l).toNat):=by
 unfold up
 rw [sval_sg]
 unfold sg
 cases n
 ·simp
 ·simp [Int.neg_mul]
theorem cmpI_swap (u v:Int):cmpI v u = - cmpI u v:=by
 unfold cmpI
 rcases Int.lt_trichotomy u v with h | h | h
 ·rw [if_neg (by omega),if_pos h,if_pos h];rfl
 ·subst h;simp
 ·rw [if_pos h,if_neg (by omega),if_pos h]
theorem cmpI_sgn (u v:Int):cmpI u v = sgnI (u - v):=by
 rcases Int.lt_trichotomy u v with h | h | h
 ·rw [cmpI_lt h,sgnI_neg (by omega)]
 ·subst h;rw [cmpI_eq rfl,Int.sub_self];rfl
 ·rw [cmpI_gt h,sgnI_pos (by omega)]
theorem cmpV_tops {na nb:Bool} {A B:List Nat} {x y:Int} (fA:Fits A) (fB:Fits B) (ra:rightB na A = true) (rb:rightB nb B = true) (hA:A.length ≠ 0) (hB:B.length ≠ 0) (hs:na = nb) (h:lenL A+x < lenL B+y) :
  cmpV (sval na A) x (sval nb B) y = (if na then 1 else -1)∧cmpV (sval nb B) y (sval na A) x = (if na then -1 else 1):=by
 have a0:sval na A ≠ 0:=fun e=>hA ((sval_zero_iff ra).1 e)
 have b0:sval nb B ≠ 0:=fun e=>hB ((sval_zero_iff rb).1 e)
 have sA:=bits_spec A fA (right_canon ra).2.1 (fun e=>hA (by rw [e];rfl))
 have sB:=bits_spec B fB (right_canon rb).2.1 (fun e=>hB (by rw [e];rfl))
 rw [lenL_bits,lenL_bits] at h
 have key:∀ l,l≤x→l≤y→cmpI (up (sval na A) x l) (up (sval nb B) y l) = (if na then 1 else -1):=by
  intro l h1 h2
  have hlt:=cmp_tops (val A) (val B) (bits1 A) (bits1 B) (x - l).toNat (y - l).toNat sA.2.2 sB.2.1 sB.1 (by omega)
  rw [up_sval,up_sval,← hs]
  unfold sg
  cases na
  ·simp only [Bool.false_eq_true,if_false]
   exact cmpI_lt (by omega)
  ·simp only [if_true]
   exact cmpI_gt (by omega)
 constructor
 ·unfold cmpV
  rw [lowE_ne _ _ _ _ a0 b0]
  exact key _ (by omega) (by omega)
 ·unfold cmpV
  rw [lowE_ne _ _ _ _ b0 a0,cmpI_swap,key _ (by omega) (by omega)]
  cases na <;> rfl
theorem tops_fit {na nb:Bool} {A B:List Nat} {x y:Int} (fA:Fits A) (fB:Fits B) (ra:rightB na A = true) (rb:rightB nb B = true) (hA:A.length ≠ 0) (hB:B.length ≠ 0) (h:lenL A+x = lenL B+y) :
  upE (sval na A) x (min x y) = 0∧upE (sval nb B) y (min x y) = 0:=by
 have bl:∀ (n:Bool) (L:List Nat),Fits L→rightB n L = true→L.length ≠ 0→1≤lenL L∧lenL L≤16384:=fun n L f r h0=>by
  have s:=bits_spec L f (right_canon r).2.1 (fun e=>h0 (by rw [e];rfl))
  have hT:=(val_lt_TOP L f (right_canon r).2.1).2 (right_canon r).1
  have e2:32 * TOPN = 16384:=rfl
  rw [TOP_eq] at hT
  have hb:=bits_up (val L) (bits1 L) 0 (32 * TOPN) s.1 s.2.1 s.2.2
  rw [Nat.pow_zero,Nat.mul_one] at hb
  have:=hb.1 hT
  rw [lenL_bits]
  omega
 have b1:=bl na A fA ra hA
 have b2:=bl nb B fB rb hB
 rw [up_bits na A x _ fA ra (fun e=>hA (by rw [e];rfl)) (by omega),up_bits nb B y _ fB rb (fun e=>hB (by rw [e];rfl)) (by omega)]
 omega
end Go.Proofs.YtcbcmlaogehimaaGreatDoor
namespace Go.Proofs.YtcbcmlaogehimaaGreatDoor
open Go.RowKit
attribute [local go_sem ↓] Go.wp_at_zero Go.wp_at_succ
theorem cmp_ways {na nb:Bool} {A B:List Nat} {x y:Int} (fA:Fits A) (fB:Fits B) (hra:drB na A x = true) (hrb:drB nb B y = true) :
  (sgnB na A.length ≠ sgnB nb B.length∧cmpI (sgnB na A.length) (sgnB nb B.length) = cmpV (sval na A) x (sval nb B) y∧min 1 (max (-1) (sgnB na A.length - sgnB nb B.length)) = cmpV (sval na A) x (sval nb B) y) ∨
  (sgnB na A.length = sgnB nb B.length∧∃ s c:Int,(s = 1 ∨ s = -1)∧((c = 1∧topR B y < topR A x) ∨ (c = -1∧topR A x < topR B y))∧sgnB na A.length = s∧cmpI (topR A x) (topR B y) = c∧cmpV (sval na A) x (sval nb B) y = s * c) ∨
  (sgnB na A.length = sgnB nb B.length∧topR A x = topR B y∧upE (sval na A) x (min x y) = 0∧upE (sval nb B) y (min x y) = 0∧cmpI (up (sval na A) x (min x y)) (up (sval nb B) y (min x y)) = cmpV (sval na A) x (sval nb B) y∧lowE (sval na A) x (sval nb B) y = min x y):=by
 obtain ⟨ra,_,a1,a2,zx⟩:=drB_bounds hra
 obtain ⟨rb,_,b1,b2,zy⟩:=drB_bounds hrb
 rw [sgnB_I ra,sgnB_I rb]
 by_cases hs:sgnI (sval na A) = sgnI (sval nb B)
 case neg =>
  left
  have h:=cmp_signs (up (sval na A) x (lowE (sval na A) x (sval nb B) y)) (up (sval nb B) y (lowE (sval na A) x (sval nb B) y)) (by rw [sgnI_up,sgnI_up];exact hs)
  rw [sgnI_up,sgnI_up] at h
  exact ⟨hs,h.1,h.2⟩
 right
 by_cases hA:A.length = 0
 ·have sa:=(sval_zero_iff ra).2 hA
  have sb:sval nb B = 0:=by
   rw [sa,sgnI_zero] at hs
   rcases Int.lt_trichotomy (sval nb B) 0 with h | h | h
   ·rw [sgnI_neg h] at hs;exact absurd hs (by decide)
   ·exact h
   ·rw [sgnI_pos h] at hs;exact absurd hs (by decide)
  have hB:=(sval_zero_iff rb).1 sb
  right
  refine ⟨hs,by unfold topR;rw [if_pos hA,if_pos hB],?_⟩
  rw [sa,sb,zx hA,zy hB]
  refine ⟨upE_ok _ _ _ (by rw [up_zero];exact TOP_pos) (by decide),upE_ok _ _ _ (by rw [up_zero];exact TOP_pos) (by decide),?_,by simp [lowE]⟩
  unfold cmpV
  simp [up_zero]
 have a0:sval na A ≠ 0:=fun e=>hA ((sval_zero_iff ra).1 e)
 have b0:sval nb B ≠ 0:=fun e=>by
  rw [e,sgnI_zero] at hs
  rcases Int.lt_trichotomy (sval na A) 0 with h | h | h
  ·rw [sgnI_neg h] at hs;exact absurd hs (by decide)
  ·exact a0 h
  ·rw [sgnI_pos h] at hs;exact absurd hs (by decide)
 have hB:B.length ≠ 0:=fun e=>b0 ((sval_zero_iff rb).2 e)
 have hn:na = nb∧sgnI (sval na A) = if na then -1 else 1:=by
  have e1:=sgnB_I ra
  have e2:=sgnB_I rb
  unfold sgnB at e1 e2
  rw [if_neg hA] at e1
  rw [if_neg hB] at e2
  refine ⟨?_,e1.symm⟩
  rw [← e1,← e2] at hs
  cases na <;> cases nb <;> first | rfl | exact absurd hs (by decide)
 have tA:topR A x = lenL A+x:=by unfold topR;rw [if_neg hA]
 have tB:topR B y = lenL B+y:=by unfold topR;rw [if_neg hB]
 rw [tA,tB]
 rcases Int.lt_trichotomy (lenL A+x) (lenL B+y) with h | h | h
 ·left
  have hv:=(cmpV_tops fA fB ra rb hA hB hn.1 h).1
  refine ⟨hs,if na then -1 else 1,-1,?_,.inr ⟨rfl,h⟩,hn.2,cmpI_lt h,?_⟩
  ·cases na <;> simp
  ·rw [hv];cases na <;> rfl
 ·right
  have hf:=tops_fit fA fB ra rb hA hB h
  refine ⟨hs,h,hf.1,hf.2,?_,lowE_ne _ _ _ _ a0 b0⟩
  unfold cmpV
  rw [lowE_ne _ _ _ _ a0 b0]
 ·left
  have hv:=(cmpV_tops fB fA rb ra hB hA hn.1.symm h).2
  rw [← hn.1] at hv
  refine ⟨hs,if na then -1 else 1,1,?_,.inl ⟨rfl,h⟩,hn.2,cmpI_gt h,?_⟩
  ·cases na <;> simp
  ·rw [hn.1,← hn.1,hv];cases na <;> rfl
end Go.Proofs.YtcbcmlaogehimaaGreatDoor
namespace Go.Proofs.YtcbcmlaogehimaaGreatDoor
open Go.RowKit
attribute [local go_sem ↓] Go.wp_at_zero Go.wp_at_succ
theorem rsgn_dy {neg:Bool} {L:List Nat} {m:Int} (hc:Canon L) (hn:neg = decide (m < 0)) (hv:val L = m.natAbs):rsgn neg L.length = sgnI m:=by
 unfold rsgn
 rcases Int.lt_trichotomy m 0 with h | h | h
 ·rw [hn,decide_eq_true h,if_pos rfl,sgnI_neg h]
 ·subst h
  have:L = []:=(val_zero_of_canon L hc).1 (by rw [hv];rfl)
  rw [hn,this]
  rfl
 ·have h0:L.length ≠ 0:=fun e=>by
   have:L = []:=List.length_eq_zero_iff.1 e
   rw [this] at hv;simp [val] at hv;omega
  rw [hn,decide_eq_false (by omega),if_neg (by decide),if_neg h0,sgnI_pos h]
theorem sgnI_oM (z:Int):sgnI (oM z) = sgnI z:=by
 by_cases h:z = 0
 ·subst h;rw [oM_zero]
 ·have:=(oddOf z h).1
  conv=>rhs;rw [this]
  rw [sgnI_mul_pow]
theorem sgnB_three (n:Bool) (k:Nat):sgnB n k = -1 ∨ sgnB n k = 0 ∨ sgnB n k = 1:=by
 unfold sgnB
 split
 ·exact .inr (.inl rfl)
 ·cases n
  ·exact .inr (.inr rfl)
  ·exact .inl rfl
theorem rcompare_any (na nb:Bool) (ao bo:Option Addr) (ca cb:Nat) (A B:List Nat) (x y:Int) (w:World) (hA:LimbsAt w ao ca A) (hB:LimbsAt w bo cb B) (hra:drB na A x = true) (hrb:drB nb B y = true) :
  Calls Tryz.prog 33 #[.agg #[.bool na,.slice ao A.length ca,.int .i64 x],.agg #[.bool nb,.slice bo B.length cb,.int .i64 y]] w fun r w'=>r = .returned (.int .i64 (cmpV (sval na A) x (sval nb B) y))∧Below w.heap.size w w':=by
 have WAYS:=hide (cmp_ways hA.2.1 hB.2.1 hra hrb)
 obtain ⟨ra,la,bx1,bx2,zx⟩:=drB_bounds hra
 obtain ⟨rb,lb,by1,by2,zy⟩:=drB_bounds hrb
 have CSA:=hide (fun w'=>rsign_any na ao ca A.length x w')
 have CSB:=hide (fun w'=>rsign_any nb bo cb B.length y w')
 rw [rsgn_I ra,← sgnB_I ra] at CSA
 rw [rsgn_I rb,← sgnB_I rb] at CSB
 have CTA:=hide (fun w' h=>rtop_any na ao ca A x w' h (by omega) (by omega))
 have CTB:=hide (fun w' h=>rtop_any nb bo cb B y w' h (by omega) (by omega))
 have CSUB:=hide (fun (hlow:lowE (sval na A) x (sval nb B) y = min x y) (h1:upE (sval na A) x (min x y) = 0) (h2:upE (sval nb B) y (min x y) = 0) w' h h'=>rsub_any na nb ao bo ca cb A B x y w' h h' ra rb ⟨bx1,bx2⟩ ⟨by1,by2⟩ (by rw [lowE_neg,hlow];exact h1) (by rw [lowE_neg,upE_neg,hlow];exact h2))
 have HZ:=hide (fun (hlow:lowE (sval na A) x (sval nb B) y = min x y)=>show sgnI (oM (sumZ (sval na A) x (- sval nb B) y)) = cmpI (up (sval na A) x (min x y)) (up (sval nb B) y (min x y)) by
  rw [sgnI_oM,cmpI_sgn]
  unfold sumZ
  rw [lowE_neg,hlow,up_neg,Int.sub_eq_add_neg])
 have H3A:=hide (sgnB_three na A.length);have H3B:=hide (sgnB_three nb B.length)
 clear hra hrb zx zy ra rb
 generalize oE (sumZ (sval na A) x (- sval nb B) y) (lowE (sval na A) x (- sval nb B) y) = oe at *
 generalize oM (sumZ (sval na A) x (- sval nb B) y) = om at *
 generalize cmpV (sval na A) x (sval nb B) y = cv at *
 generalize upE (sval na A) x (min x y) = ea at *
 generalize upE (sval nb B) y (min x y) = eb at *
 generalize up (sval na A) x (min x y) = za at *
 generalize up (sval nb B) y (min x y) = zb at *
 generalize topR A x = ta at *
 generalize topR B y = tb at *
 generalize sgnB na A.length = sga at *
 generalize sgnB nb B.length = sgb at *
 generalize lowE (sval na A) x (sval nb B) y = l at *
 have hb0:Below w.heap.size w ((w.alloc (.cells #[.bool na,.slice ao A.length ca,.int .i64 x] 35)).alloc (.cells #[.bool nb,.slice bo B.length cb,.int .i64 y] 35)):=((Below.refl _ _).alloc (Nat.le_refl _) _).alloc (by simp) _
 have x0:Box3 ((w.alloc (.cells #[.bool na,.slice ao A.length ca,.int .i64 x] 35)).alloc (.cells #[.bool nb,.slice bo B.length cb,.int .i64 y] 35)) w.heap.size (.bool na) (.slice ao A.length ca) (.int .i64 x):=(Box3.new _ _ _ _).old _
 have x1:Box3 ((w.alloc (.cells #[.bool na,.slice ao A.length ca,.int .i64 x] 35)).alloc (.cells #[.bool nb,.slice bo B.length cb,.int .i64 y] 35)) (w.heap.size+1) (.bool nb) (.slice bo B.length cb) (.int .i64 y):=by
  have:=Box3.new (w.alloc (.cells #[.bool na,.slice ao A.length ca,.int .i64 x] 35)) (.bool nb) (.slice bo B.length cb) (.int .i64 y)
  simpa using this
 have B0:=hide hb0;have X0:=hide x0;have X1:=hide x1
 clear hb0 x0 x1
 rcases uH WAYS with ⟨hne,_,hc⟩ | ⟨hsame,s,c,hs,hc,rfl,hcc,hcv⟩ | ⟨hsame,htt,h1,h2,hcv,hlow⟩
 ·clear WAYS CTA CTB CSUB HZ
  rcases uH H3A with rfl | rfl | rfl <;> rcases uH H3B with rfl | rfl | rfl
  all_goals first | exact absurd rfl hne | skip
  all_goals
   have hcv:cv = _:=hc.symm
   clear hne hc H3A H3B
   simp only [show min (1:Int) (max (-1) (-1 - 0)) = -1 by decide,show min (1:Int) (max (-1) (-1 - 1)) = -1 by decide,show min (1:Int) (max (-1) (0 - -1)) = 1 by decide,show min (1:Int) (max (-1) (0 - 1)) = -1 by decide,show min (1:Int) (max (-1) (1 - -1)) = 1 by decide,show min (1:Int) (max (-1) (1 - 0)) = 1 by decide] at hcv
   subst hcv
   go_enter Tryz.func33,Tryz.ntmps33
   go_wp2_with fail
   refine at_world (fun W=>Below w.heap.size w W∧Box3 W w.heap.size (.bool na) (.slice ao A.length ca) (.int .i64 x)∧Box3 W (w.heap.size+1) (.bool nb) (.slice bo B.length cb) (.int .i64 y)) ⟨uH B0,uH X0,uH X1⟩ ?_
   clear B0 X0 X1
   rintro W0 ⟨b0,x0,x1⟩
   have hK:∀ w',Below W0.heap.size W0 w'→Below W0.heap.size W0 w'∧w'.cell? ⟨w.heap.size,0,none⟩ = some (.bool na)∧w'.cell? ⟨w.heap.size,1,none⟩ = some (.slice ao A.length ca)∧w'.cell? ⟨w.heap.size,2,none⟩ = some (.int .i64 x)∧w'.cell? ⟨w.heap.size+1,0,none⟩ = some (.bool nb)∧w'.cell? ⟨w.heap.size+1,1,none⟩ = some (.slice bo B.length cb)∧w'.cell? ⟨w.heap.size+1,2,none⟩ = some (.int .i64 y):=fun w' h =>
    ⟨h,(x0.all h).c0,(x0.all h).c1,(x0.all h).c2,(x1.all h).c0,(x1.all h).c1,(x1.all h).c2⟩
   have HK:=hide hK
   have HA:=hide (hA.below b0);have HB:=hide (hB.below b0);have BB:=hide b0;have X0:=hide x0;have X1:=hide x1
   clear hK b0 x0 x1
   go_region_held3 (fun w'=>Below W0.heap.size W0 w'∧w'.cell? ⟨w.heap.size,0,none⟩ = some (.bool na)∧w'.cell? ⟨w.heap.size,1,none⟩ = some (.slice ao A.length ca)∧w'.cell? ⟨w.heap.size,2,none⟩ = some (.int .i64 x)∧w'.cell? ⟨w.heap.size+1,0,none⟩ = some (.bool nb)∧w'.cell? ⟨w.heap.size+1,1,none⟩ = some (.slice bo B.length cb)∧w'.cell? ⟨w.heap.size+1,2,none⟩ = some (.int .i64 y))
    (first | exact uH HK _ (Below.refl _ _).drew | exact uH HK _ (by assumption))
    (first | (go_at_call_of 68 (Value.agg #[.bool na,.slice ao A.length ca,.int .i64 x]);refine (uH CSA _).mono ?_;rintro e wn ⟨rfl,hb1⟩;have hBn:Below W0.heap.size W0 wn:=Below.trans (And.left (by assumption)) (hb1.mono (Below.size (And.left (by assumption))));clear hb1) | (go_at_call_of 68 (Value.agg #[.bool nb,.slice bo B.length cb,.int .i64 y]);refine (uH CSB _).mono ?_;rintro e wn ⟨rfl,hb1⟩;have hBn:Below W0.heap.size W0 wn:=Below.trans (And.left (by assumption)) (hb1.mono (Below.size (And.left (by assumption))));clear hb1))
   go_wp2_with fail
   have hn:Below W0.heap.size W0 wn:=And.left (by assumption)
   have b9:=(uH BB).trans (hn.mono (uH BB).size);have x9:=(uH X0).all hn;have y9:=(uH X1).all hn
   clear HK HA HB BB X0 X1 hn
   have B0:=hide b9;have X0:=hide x9;have X1:=hide y9
   clear b9 x9 y9
   refine at_world (fun W=>Below w.heap.size w W∧Box3 W w.heap.size (.bool na) (.slice ao A.length ca) (.int .i64 x)∧Box3 W (w.heap.size+1) (.bool nb) (.slice bo B.length cb) (.int .i64 y)) ⟨uH B0,uH X0,uH X1⟩ ?_
   clear B0 X0 X1
   rintro W0 ⟨b0,x0,x1⟩
   have hK:∀ w',Below W0.heap.size W0 w'→Below W0.heap.size W0 w'∧w'.cell? ⟨w.heap.size,0,none⟩ = some (.bool na)∧w'.cell? ⟨w.heap.size,1,none⟩ = some (.slice ao A.length ca)∧w'.cell? ⟨w.heap.size,2,none⟩ = some (.int .i64 x)∧w'.cell? ⟨w.heap.size+1,0,none⟩ = some (.bool nb)∧w'.cell? ⟨w.heap.size+1,1,none⟩ = some (.slice bo B.length cb)∧w'.cell? ⟨w.heap.size+1,2,none⟩ = some (.int .i64 y):=fun w' h =>
    ⟨h,(x0.all h).c0,(x0.all h).c1,(x0.all h).c2,(x1.all h).c0,(x1.all h).c1,(x1.all h).c2⟩
   have HK:=hide hK
   have HA:=hide (hA.below b0);have HB:=hide (hB.below b0);have BB:=hide b0;have X0:=hide x0;have X1:=hide x1
   clear hK b0 x0 x1
   go_region_held3 (fun w'=>Below W0.heap.size W0 w'∧w'.cell? ⟨w.heap.size,0,none⟩ = some (.bool na)∧w'.cell? ⟨w.heap.size,1,none⟩ = some (.slice ao A.length ca)∧w'.cell? ⟨w.heap.size,2,none⟩ = some (.int .i64 x)∧w'.cell? ⟨w.heap.size+1,0,none⟩ = some (.bool nb)∧w'.cell? ⟨w.heap.size+1,1,none⟩ = some (.slice bo B.length cb)∧w'.cell? ⟨w.heap.size+1,2,none⟩ = some (.int .i64 y))
    (first | exact uH HK _ (Below.refl _ _).drew | exact uH HK _ (by assumption))
    (first | (go_at_call_of 68 (Value.agg #[.bool na,.slice ao A.length ca,.int .i64 x]);refine (uH CSA _).mono ?_;rintro e wn ⟨rfl,hb1⟩;have hBn:Below W0.heap.size W0 wn:=Below.trans (And.left (by assumption)) (hb1.mono (Below.size (And.left (by assumption))));clear hb1) | (go_at_call_of 68 (Value.agg #[.bool nb,.slice bo B.length cb,.int .i64 y]);refine (uH CSB _).mono ?_;rintro e wn ⟨rfl,hb1⟩;have hBn:Below W0.heap.size W0 wn:=Below.trans (And.left (by assumption)) (hb1.mono (Below.size (And.left (by assumption))));clear hb1))
   go_wp2
   go_ret
   exact ⟨rfl,(uH BB).trans (Below.mono (And.left (by assumption)) (uH BB).size)⟩
 ·subst hsame
  have HCV:=hide hcv
  clear WAYS CSUB HZ H3A H3B hcc hcv
  rcases hs with rfl | rfl
  all_goals
   rcases hc with ⟨rfl,ht⟩ | ⟨rfl,ht⟩
  all_goals
   have hcv:=uH HCV
   simp only [show (1:Int) * 1 = 1 by decide,show (1:Int) * -1 = -1 by decide,show (-1:Int) * 1 = -1 by decide,show (-1:Int) * -1 = 1 by decide] at hcv
   subst hcv
   have hne:(ta != tb) = true:=by rw [bne_iff_ne];omega
   first | (have g:decide (tb < ta) = true:=decide_eq_true (by omega)) | (have g:decide (tb < ta) = false:=decide_eq_false (by omega))
   clear HCV
   go_enter Tryz.func33,Tryz.ntmps33
   go_wp2_with fail
   refine at_world (fun W=>Below w.heap.size w W∧Box3 W w.heap.size (.bool na) (.slice ao A.length ca) (.int .i64 x)∧Box3 W (w.heap.size+1) (.bool nb) (.slice bo B.length cb) (.int .i64 y)) ⟨uH B0,uH X0,uH X1⟩ ?_
   clear B0 X0 X1
   rintro W0 ⟨b0,x0,x1⟩
   have hK:∀ w',Below W0.heap.size W0 w'→Below W0.heap.size W0 w'∧w'.cell? ⟨w.heap.size,0,none⟩ = some (.bool na)∧w'.cell? ⟨w.heap.size,1,none⟩ = some (.slice ao A.length ca)∧w'.cell? ⟨w.heap.size,2,none⟩ = some (.int .i64 x)∧w'.cell? ⟨w.heap.size+1,0,none⟩ = some (.bool nb)∧w'.cell? ⟨w.heap.size+1,1,none⟩ = some (.slice bo B.length cb)∧w'.cell? ⟨w.heap.size+1,2,none⟩ = some (.int .i64 y):=fun w' h =>
    ⟨h,(x0.all h).c0,(x0.all h).c1,(x0.all h).c2,(x1.all h).c0,(x1.all h).c1,(x1.all h).c2⟩
   have HK:=hide hK
   have HA:=hide (hA.below b0);have HB:=hide (hB.below b0);have BB:=hide b0;have X0:=hide x0;have X1:=hide x1
   clear hK b0 x0 x1
   go_region_held3 (fun w'=>Below W0.heap.size W0 w'∧w'.cell? ⟨w.heap.size,0,none⟩ = some (.bool na)∧w'.cell? ⟨w.heap.size,1,none⟩ = some (.slice ao A.length ca)∧w'.cell? ⟨w.heap.size,2,none⟩ = some (.int .i64 x)∧w'.cell? ⟨w.heap.size+1,0,none⟩ = some (.bool nb)∧w'.cell? ⟨w.heap.size+1,1,none⟩ = some (.slice bo B.length cb)∧w'.cell? ⟨w.heap.size+1,2,none⟩ = some (.int .i64 y))
    (first | exact uH HK _ (Below.refl _ _).drew | exact uH HK _ (by assumption))
    (first | (go_at_call_of 68 (Value.agg #[.bool na,.slice ao A.length ca,.int .i64 x]);refine (uH CSA _).mono ?_;rintro e wn ⟨rfl,hb1⟩;have hBn:Below W0.heap.size W0 wn:=Below.trans (And.left (by assumption)) (hb1.mono (Below.size (And.left (by assumption))));clear hb1) | (go_at_call_of 68 (Value.agg #[.bool nb,.slice bo B.length cb,.int .i64 y]);refine (uH CSB _).mono ?_;rintro e wn ⟨rfl,hb1⟩;have hBn:Below W0.heap.size W0 wn:=Below.trans (And.left (by assumption)) (hb1.mono (Below.size (And.left (by assumption))));clear hb1))
   go_wp2_with fail
   have hn:Below W0.heap.size W0 wn:=And.left (by assumption)
   have b9:=(uH BB).trans (hn.mono (uH BB).size);have x9:=(uH X0).all hn;have y9:=(uH X1).all hn
   clear HK HA HB BB X0 X1 hn
   have B0:=hide b9;have X0:=hide x9;have X1:=hide y9
   clear b9 x9 y9
   refine at_world (fun W=>Below w.heap.size w W∧Box3 W w.heap.size (.bool na) (.slice ao A.length ca) (.int .i64 x)∧Box3 W (w.heap.size+1) (.bool nb) (.slice bo B.length cb) (.int .i64 y)) ⟨uH B0,uH X0,uH X1⟩ ?_
   clear B0 X0 X1
   rintro W0 ⟨b0,x0,x1⟩
   have hK:∀ w',Below W0.heap.size W0 w'→Below W0.heap.size W0 w'∧w'.cell? ⟨w.heap.size,0,none⟩ = some (.bool na)∧w'.cell? ⟨w.heap.size,1,none⟩ = some (.slice ao A.length ca)∧w'.cell? ⟨w.heap.size,2,none⟩ = some (.int .i64 x)∧w'.cell? ⟨w.heap.size+1,0,none⟩ = some (.bool nb)∧w'.cell? ⟨w.heap.size+1,1,none⟩ = some (.slice bo B.length cb)∧w'.cell? ⟨w.heap.size+1,2,none⟩ = some (.int .i64 y):=fun w' h =>
    ⟨h,(x0.all h).c0,(x0.all h).c1,(x0.all h).c2,(x1.all h).c0,(x1.all h).c1,(x1.all h).c2⟩
   have HK:=hide hK
   have HA:=hide (hA.below b0);have HB:=hide (hB.below b0);have BB:=hide b0;have X0:=hide x0;have X1:=hide x1
   clear hK b0 x0 x1
   go_region_held3 (fun w'=>Below W0.heap.size W0 w'∧w'.cell? ⟨w.heap.size,0,none⟩ = some (.bool na)∧w'.cell? ⟨w.heap.size,1,none⟩ = some (.slice ao A.length ca)∧w'.cell? ⟨w.heap.size,2,none⟩ = some (.int .i64 x)∧w'.cell? ⟨w.heap.size+1,0,none⟩ = some (.bool nb)∧w'.cell? ⟨w.heap.size+1,1,none⟩ = some (.slice bo B.length cb)∧w'.cell? ⟨w.heap.size+1,2,none⟩ = some (.int .i64 y))
    (first | exact uH HK _ (Below.refl _ _).drew | exact uH HK _ (by assumption))
    (first | (go_at_call_of 69 (Value.agg #[.bool na,.slice ao A.length ca,.int .i64 x]);refine (uH CTA _ ((uH HA).below (And.left (by assumption)))).mono ?_;rintro e wn ⟨rfl,hb1⟩;have hBn:Below W0.heap.size W0 wn:=Below.trans (And.left (by assumption)) (hb1.mono (Below.size (And.left (by assumption))));clear hb1) | (go_at_call_of 69 (Value.agg #[.bool nb,.slice bo B.length cb,.int .i64 y]);refine (uH CTB _ ((uH HB).below (And.left (by assumption)))).mono ?_;rintro e wn ⟨rfl,hb1⟩;have hBn:Below W0.heap.size W0 wn:=Below.trans (And.left (by assumption)) (hb1.mono (Below.size (And.left (by assumption))));clear hb1))
   go_wp2_with fail
   have hn:Below W0.heap.size W0 wn:=And.left (by assumption)
   have b9:=(uH BB).trans (hn.mono (uH BB).size);have x9:=(uH X0).all hn;have y9:=(uH X1).all hn
   clear HK HA HB BB X0 X1 hn
   have B0:=hide b9;have X0:=hide x9;have X1:=hide y9
   clear b9 x9 y9
   refine at_world (fun W=>Below w.heap.size w W∧Box3 W w.heap.size (.bool na) (.slice ao A.length ca) (.int .i64 x)∧Box3 W (w.heap.size+1) (.bool nb) (.slice bo B.length cb) (.int .i64 y)) ⟨uH B0,uH X0,uH X1⟩ ?_
   clear B0 X0 X1
   rintro W0 ⟨b0,x0,x1⟩
   have hK:∀ w',Below W0.heap.size W0 w'→Below W0.heap.size W0 w'∧w'.cell? ⟨w.heap.size,0,none⟩ = some (.bool na)∧w'.cell? ⟨w.heap.size,1,none⟩ = some (.slice ao A.length ca)∧w'.cell? ⟨w.heap.size,2,none⟩ = some (.int .i64 x)∧w'.cell? ⟨w.heap.size+1,0,none⟩ = some (.bool nb)∧w'.cell? ⟨w.heap.size+1,1,none⟩ = some (.slice bo B.length cb)∧w'.cell? ⟨w.heap.size+1,2,none⟩ = some (.int .i64 y):=fun w' h =>
    ⟨h,(x0.all h).c0,(x0.all h).c1,(x0.all h).c2,(x1.all h).c0,(x1.all h).c1,(x1.all h).c2⟩
   have HK:=hide hK
   have HA:=hide (hA.below b0);have HB:=hide (hB.below b0);have BB:=hide b0;have X0:=hide x0;have X1:=hide x1
   clear hK b0 x0 x1
   go_region_held3 (fun w'=>Below W0.heap.size W0 w'∧w'.cell? ⟨w.heap.size,0,none⟩ = some (.bool na)∧w'.cell? ⟨w.heap.size,1,none⟩ = some (.slice ao A.length ca)∧w'.cell? ⟨w.heap.size,2,none⟩ = some (.int .i64 x)∧w'.cell? ⟨w.heap.size+1,0,none⟩ = some (.bool nb)∧w'.cell? ⟨w.heap.size+1,1,none⟩ = some (.slice bo B.length cb)∧w'.cell? ⟨w.heap.size+1,2,none⟩ = some (.int .i64 y))
    (first | exact uH HK _ (Below.refl _ _).drew | exact uH HK _ (by assumption))
    (first | (go_at_call_of 69 (Value.agg #[.bool na,.slice ao A.length ca,.int .i64 x]);refine (uH CTA _ ((uH HA).below (And.left (by assumption)))).mono ?_;rintro e wn ⟨rfl,hb1⟩;have hBn:Below W0.heap.size W0 wn:=Below.trans (And.left (by assumption)) (hb1.mono (Below.size (And.left (by assumption))));clear hb1) | (go_at_call_of 69 (Value.agg #[.bool nb,.slice bo B.length cb,.int .i64 y]);refine (uH CTB _ ((uH HB).below (And.left (by assumption)))).mono ?_;rintro e wn ⟨rfl,hb1⟩;have hBn:Below W0.heap.size W0 wn:=Below.trans (And.left (by assumption)) (hb1.mono (Below.size (And.left (by assumption))));clear hb1) | (go_at_call_of 68 (Value.agg #[.bool na,.slice ao A.length ca,.int .i64 x]);refine (uH CSA _).mono ?_;rintro e wn ⟨rfl,hb1⟩;have hBn:Below W0.heap.size W0 wn:=Below.trans (And.left (by assumption)) (hb1.mono (Below.size (And.left (by assumption))));clear hb1) | (go_at_call_of 68 (Value.agg #[.bool nb,.slice bo B.length cb,.int .i64 y]);refine (uH CSB _).mono ?_;rintro e wn ⟨rfl,hb1⟩;have hBn:Below W0.heap.size W0 wn:=Below.trans (And.left (by assumption)) (hb1.mono (Below.size (And.left (by assumption))));clear hb1))
   go_wp2
   go_ret
   exact ⟨rfl,(uH BB).trans (Below.mono (And.left (by assumption)) (uH BB).size)⟩
 ·subst hsame
  subst htt
  have hz:=uH HZ hlow
  rw [hcv] at hz
  have HZZ:=hide hz
  have CSUB':=hide (uH CSUB hlow h1 h2)
  have CSUB:=CSUB'
  clear WAYS H3A H3B HZ hlow h1 h2 hcv hz CSUB'
  go_enter Tryz.func33,Tryz.ntmps33
  go_wp2_with fail
  refine at_world (fun W=>Below w.heap.size w W∧Box3 W w.heap.size (.bool na) (.slice ao A.length ca) (.int .i64 x)∧Box3 W (w.heap.size+1) (.bool nb) (.slice bo B.length cb) (.int .i64 y)) ⟨uH B0,uH X0,uH X1⟩ ?_
  clear B0 X0 X1
  rintro W0 ⟨b0,x0,x1⟩
  have hK:∀ w',Below W0.heap.size W0 w'→Below W0.heap.size W0 w'∧w'.cell? ⟨w.heap.size,0,none⟩ = some (.bool na)∧w'.cell? ⟨w.heap.size,1,none⟩ = some (.slice ao A.length ca)∧w'.cell? ⟨w.heap.size,2,none⟩ = some (.int .i64 x)∧w'.cell? ⟨w.heap.size+1,0,none⟩ = some (.bool nb)∧w'.cell? ⟨w.heap.size+1,1,none⟩ = some (.slice bo B.length cb)∧w'.cell? ⟨w.heap.size+1,2,none⟩ = some (.int .i64 y):=fun w' h =>
   ⟨h,(x0.all h).c0,(x0.all h).c1,(x0.all h).c2,(x1.all h).c0,(x1.all h).c1,(x1.all h).c2⟩
  have HK:=hide hK
  have HA:=hide (hA.below b0);have HB:=hide (hB.below b0);have BB:=hide b0;have X0:=hide x0;have X1:=hide x1
  clear hK b0 x0 x1
  go_region_held3 (fun w'=>Below W0.heap.size W0 w'∧w'.cell? ⟨w.heap.size,0,none⟩ = some (.bool na)∧w'.cell? ⟨w.heap.size,1,none⟩ = some (.slice ao A.length ca)∧w'.cell? ⟨w.heap.size,2,none⟩ = some (.int .i64 x)∧w'.cell? ⟨w.heap.size+1,0,none⟩ = some (.bool nb)∧w'.cell? ⟨w.heap.size+1,1,none⟩ = some (.slice bo B.length cb)∧w'.cell? ⟨w.heap.size+1,2,none⟩ = some (.int .i64 y))
   (first | exact uH HK _ (Below.refl _ _).drew | exact uH HK _ (by assumption))
   (first | (go_at_call_of 68 (Value.agg #[.bool na,.slice ao A.length ca,.int .i64 x]);refine (uH CSA _).mono ?_;rintro e wn ⟨rfl,hb1⟩;have hBn:Below W0.heap.size W0 wn:=Below.trans (And.left (by assumption)) (hb1.mono (Below.size (And.left (by assumption))));clear hb1) | (go_at_call_of 68 (Value.agg #[.bool nb,.slice bo B.length cb,.int .i64 y]);refine (uH CSB _).mono ?_;rintro e wn ⟨rfl,hb1⟩;have hBn:Below W0.heap.size W0 wn:=Below.trans (And.left (by assumption)) (hb1.mono (Below.size (And.left (by assumption))));clear hb1))
  go_wp2_with fail
  have hn:Below W0.heap.size W0 wn:=And.left (by assumption)
  have b9:=(uH BB).trans (hn.mono (uH BB).size);have x9:=(uH X0).all hn;have y9:=(uH X1).all hn
  clear HK HA HB BB X0 X1 hn
  have B0:=hide b9;have X0:=hide x9;have X1:=hide y9
  clear b9 x9 y9
  refine at_world (fun W=>Below w.heap.size w W∧Box3 W w.heap.size (.bool na) (.slice ao A.length ca) (.int .i64 x)∧Box3 W (w.heap.size+1) (.bool nb) (.slice bo B.length cb) (.int .i64 y)) ⟨uH B0,uH X0,uH X1⟩ ?_
  clear B0 X0 X1
  rintro W0 ⟨b0,x0,x1⟩
  have hK:∀ w',Below W0.heap.size W0 w'→Below W0.heap.size W0 w'∧w'.cell? ⟨w.heap.size,0,none⟩ = some (.bool na)∧w'.cell? ⟨w.heap.size,1,none⟩ = some (.slice ao A.length ca)∧w'.cell? ⟨w.heap.size,2,none⟩ = some (.int .i64 x)∧w'.cell? ⟨w.heap.size+1,0,none⟩ = some (.bool nb)∧w'.cell? ⟨w.heap.size+1,1,none⟩ = some (.slice bo B.length cb)∧w'.cell? ⟨w.heap.size+1,2,none⟩ = some (.int .i64 y):=fun w' h =>
   ⟨h,(x0.all h).c0,(x0.all h).c1,(x0.all h).c2,(x1.all h).c0,(x1.all h).c1,(x1.all h).c2⟩
  have HK:=hide hK
  have HA:=hide (hA.below b0);have HB:=hide (hB.below b0);have BB:=hide b0;have X0:=hide x0;have X1:=hide x1
  clear hK b0 x0 x1
  go_region_held3 (fun w'=>Below W0.heap.size W0 w'∧w'.cell? ⟨w.heap.size,0,none⟩ = some (.bool na)∧w'.cell? ⟨w.heap.size,1,none⟩ = some (.slice ao A.length ca)∧w'.cell? ⟨w.heap.size,2,none⟩ = some (.int .i64 x)∧w'.cell? ⟨w.heap.size+1,0,none⟩ = some (.bool nb)∧w'.cell? ⟨w.heap.size+1,1,none⟩ = some (.slice bo B.length cb)∧w'.cell? ⟨w.heap.size+1,2,none⟩ = some (.int .i64 y))
   (first | exact uH HK _ (Below.refl _ _).drew | exact uH HK _ (by assumption))
   (first | (go_at_call_of 69 (Value.agg #[.bool na,.slice ao A.length ca,.int .i64 x]);refine (uH CTA _ ((uH HA).below (And.left (by assumption)))).mono ?_;rintro e wn ⟨rfl,hb1⟩;have hBn:Below W0.heap.size W0 wn:=Below.trans (And.left (by assumption)) (hb1.mono (Below.size (And.left (by assumption))));clear hb1) | (go_at_call_of 69 (Value.agg #[.bool nb,.slice bo B.length cb,.int .i64 y]);refine (uH CTB _ ((uH HB).below (And.left (by assumption)))).mono ?_;rintro e wn ⟨rfl,hb1⟩;have hBn:Below W0.heap.size W0 wn:=Below.trans (And.left (by assumption)) (hb1.mono (Below.size (And.left (by assumption))));clear hb1))
  go_wp2_with fail
  have hn:Below W0.heap.size W0 wn:=And.left (by assumption)
  have b9:=(uH BB).trans (hn.mono (uH BB).size);have x9:=(uH X0).all hn;have y9:=(uH X1).all hn
  clear HK HA HB BB X0 X1 hn
  have B0:=hide b9;have X0:=hide x9;have X1:=hide y9
  clear b9 x9 y9
  refine (uH CSUB _ (hA.below (uH B0)) (hB.below (uH B0))).mono ?_
  rintro r w5 ⟨u,rfl,iu,hb1⟩
  obtain ⟨n5,a5,c5,L5,rfl,q1,q2,q3,q4,q5⟩:=iu.parts
  have hs5:=rsgn_dy q2 q3 q4
  rw [uH HZZ] at hs5
  have CS5:=hide (fun w'=>rsign_any n5 a5 c5 L5.length oe w')
  rw [hs5] at CS5
  have B1:=hide ((uH B0).trans (hb1.mono (uH B0).size))
  clear q1 q2 q3 q4 q5 iu hb1 hs5
  go_wp2_with (go_at_call 68;refine (uH CS5 _).mono ?_;rintro r w6 ⟨rfl,hb1⟩)
  go_ret
  exact ⟨rfl,(uH B1).trans (hb1.mono (uH B1).size)⟩
end Go.Proofs.YtcbcmlaogehimaaGreatDoor
namespace Go.Proofs.YtcbcmlaogehimaaGreatDoor
open Go.RowKit
theorem pow2_ne (k:Nat):(2:Int) ^ k ≠ 0:=Int.pow_ne_zero (by decide)
theorem oM_scale (z:Int) (k:Nat) (e:Int):oM (z * 2 ^ k) = oM z∧oE (z * 2 ^ k) e = oE z (e+k):=by
 by_cases h:z = 0
 ·subst h;rw [Int.zero_mul,oM_zero,oE_zero,oE_zero];exact ⟨rfl,rfl⟩
 ·have h1:z * 2 ^ k ≠ 0:=fun e=>by rcases Int.mul_eq_zero.1 e with e | e;exact h e;exact pow2_ne k e
  have hO:=oddOf z h
  have h2:OddOf (z * 2 ^ k) (oM z) (tz z.natAbs+k):=by
   refine ⟨?_,hO.2⟩
   conv=>lhs;rw [hO.1]
   rw [Int.mul_assoc,← Int.pow_add]
  obtain ⟨_,e1,e2⟩:=h2.eq
  refine ⟨e1.symm,?_⟩
  rw [oE_ne _ _ h1,oE_ne _ _ h,← e2]
  omega
theorem oM_mul (z1 z2:Int):oM (z1 * z2) = oM z1 * oM z2:=by
 by_cases h1:z1 = 0
 ·subst h1;rw [Int.zero_mul,oM_zero,Int.zero_mul]
 by_cases h2:z2 = 0
 ·subst h2;rw [Int.mul_zero,oM_zero,Int.mul_zero]
 have a:=oddOf z1 h1
 have b:=oddOf z2 h2
 have h:OddOf (z1 * z2) (oM z1 * oM z2) (tz z1.natAbs+tz z2.natAbs):=by
  refine ⟨?_,?_⟩
  ·conv=>lhs;rw [a.1,b.1]
   rw [Int.pow_add]
   simp only [Int.mul_assoc,Int.mul_left_comm]
  ·rw [Int.mul_emod,a.2,b.2];rfl
 exact h.eq.2.1.symm
theorem tz_mul2 (z1 z2:Int) (h1:z1 ≠ 0) (h2:z2 ≠ 0):tz (z1 * z2).natAbs = tz z1.natAbs+tz z2.natAbs:=by
 have a:=oddOf z1 h1
 have b:=oddOf z2 h2
 have h:OddOf (z1 * z2) (oM z1 * oM z2) (tz z1.natAbs+tz z2.natAbs):=by
  refine ⟨?_,?_⟩
  ·conv=>lhs;rw [a.1,b.1]
   rw [Int.pow_add]
   simp only [Int.mul_assoc,Int.mul_left_comm]
  ·rw [Int.mul_emod,a.2,b.2];rfl
 exact h.eq.2.2.symm
def Lvl (lo:Int) (W:Nat) (z:Int):Prop:=z.natAbs < 2 ^ W∧-16384≤lo∧lo+W≤16384∧W≤16384
theorem Lvl.tzs {lo:Int} {W:Nat} {z:Int} (h:Lvl lo W z) (h0:z ≠ 0):tz z.natAbs < W:=tz_lt _ _ (by omega) h.1
theorem Lvl.tops {lo:Int} {W:Nat} {z:Int} (h:Lvl lo W z):z.natAbs < TOP:=lt_TOP h.1 h.2.2.2
theorem Lvl.right {lo:Int} {W:Nat} {z:Int} (h:Lvl lo W z):dRt (oM z) (oE z lo) = true∧(oM z).natAbs < TOP:=by
 refine ⟨?_,Nat.lt_of_le_of_lt (oM_le z) h.tops⟩
 unfold dRt
 by_cases h0:z = 0
 ·subst h0;rw [oM_zero,oE_zero];rfl
 ·obtain ⟨o1,o2⟩:=oM_ne z h0
  have ht:=h.tzs h0
  obtain ⟨_,h2,h3,_⟩:=h
  rw [if_neg o1,oE_ne _ _ h0,decide_eq_true o2,decide_eq_true (show -16384≤lo+(tz z.natAbs:Int)∧lo+(tz z.natAbs:Int)≤16384 by omega)]
  rfl
theorem oM_level (z lo:Int) (h:z ≠ 0):oM z * 2 ^ (oE z lo - lo).toNat = z:=by
 rw [oE_ne _ _ h,show (lo+(tz z.natAbs:Int) - lo).toNat = tz z.natAbs by omega]
 exact (oddOf z h).1.symm
theorem dErr_odd (m e:Int) (h:dRt m e = true):dErr m e = 0∧dM m e = m∧dX m e = e:=by
 unfold dRt at h
 by_cases h0:m = 0
 ·subst h0
  rw [if_pos rfl] at h
  have he:=of_decide_eq_true h
  subst he
  decide
 ·rw [if_neg h0,Bool.and_eq_true] at h
  have ho:=of_decide_eq_true h.1
  have hr:=of_decide_eq_true h.2
  have hm:OddOf m m 0:=⟨by simp,ho⟩
  obtain ⟨_,e1,e2⟩:=hm.eq
  have hk:dOk m e = true:=by
   unfold dOk
   rw [← e2,decide_eq_true (show -32768≤e∧e≤32768 by omega),decide_eq_true (show -16384≤e+((0:Nat):Int)∧e+((0:Nat):Int)≤16384 by omega)]
   simp
  unfold dErr dM dX
  rw [hk,← e1,oE_ne _ _ h0,← e2]
  simp
theorem ad_level {lo:Int} {W:Nat} {z1 z2:Int} (h1:Lvl lo W z1) (h2:Lvl lo W z2) (h3:Lvl lo W (z1+z2)) :
  adE (oM z1) (oE z1 lo) (oM z2) (oE z2 lo) = 0∧adM (oM z1) (oE z1 lo) (oM z2) (oE z2 lo) = oM (z1+z2)∧adX (oM z1) (oE z1 lo) (oM z2) (oE z2 lo) = oE (z1+z2) lo:=by
 have r1:=h1.right
 have r2:=h2.right
 have bE:∀ m e,dRt m e = true→-16384≤e∧e≤16384:=fun m e h=>by
  unfold dRt at h
  by_cases h0:m = 0
  ·rw [if_pos h0] at h;have:=of_decide_eq_true h;omega
  ·rw [if_neg h0,Bool.and_eq_true] at h;exact of_decide_eq_true h.2
 by_cases a0:z1 = 0
 ·subst a0
  rw [oM_zero,oE_zero,Int.zero_add]
  obtain ⟨p1,p2,p3⟩:=add_zero_l (oM z2) (oE z2 lo) (bE _ _ r2.1) r2.2
  rw [p1,p2,p3]
  exact dErr_odd _ _ r2.1
 by_cases b0:z2 = 0
 ·subst b0
  rw [oM_zero,oE_zero,Int.add_zero]
  obtain ⟨p1,p2,p3⟩:=add_zero_r (oM z1) (oE z1 lo) (bE _ _ r1.1) r1.2 (oM_ne z1 a0).1
  rw [p1,p2,p3]
  exact dErr_odd _ _ r1.1
 have sa:=(oM_ne z1 a0).1
 have sb:=(oM_ne z2 b0).1
 have x1:=oE_ne z1 lo a0
 have x2:=oE_ne z2 lo b0
 have t1:=h1.tzs a0
 have t2:=h2.tzs b0
 have hz1:=h1.tops
 obtain ⟨_,l1,l2,l3⟩:=h1
 have hl:=lowE_ne (oM z1) (oE z1 lo) (oM z2) (oE z2 lo) sa sb
 obtain ⟨l,hl'⟩:∃ l,min (oE z1 lo) (oE z2 lo) = l:=⟨_,rfl⟩
 rw [hl'] at hl
 have hl0:lo≤l:=by omega
 obtain ⟨k,hk⟩:∃ k:Nat,(k:Int) = l - lo:=⟨(l - lo).toNat,by omega⟩
 have hlk:lo+(k:Int) = l:=by omega
 have u1:up (oM z1) (oE z1 lo) l * 2 ^ k = z1:=by
  conv=>rhs;rw [← oM_level z1 lo a0]
  unfold up
  rw [Int.mul_assoc,← Int.pow_add]
  congr 2
  omega
 have u2:up (oM z2) (oE z2 lo) l * 2 ^ k = z2:=by
  conv=>rhs;rw [← oM_level z2 lo b0]
  unfold up
  rw [Int.mul_assoc,← Int.pow_add]
  congr 2
  omega
 have hz2:=h2.tops
 have dd1:oE z1 lo - l≤16384:=by clear hz1 hz2;omega
 have dd2:oE z2 lo - l≤16384:=by clear hz1 hz2;omega
 have le_of:∀ u z:Int,u * 2 ^ k = z→u.natAbs≤z.natAbs:=fun u z h=>by
  rw [← h,Int.natAbs_mul,Int.natAbs_pow]
  exact Nat.le_mul_of_pos_right _ (Nat.pow_pos (by decide))
 have hZ:sumZ (oM z1) (oE z1 lo) (oM z2) (oE z2 lo) * 2 ^ k = z1+z2:=by
  unfold sumZ
  rw [hl,Int.add_mul,u1,u2]
 have e1:upE (oM z1) (oE z1 lo) l = 0:=upE_ok _ _ _ (Nat.lt_of_le_of_lt (le_of _ _ u1) hz1) dd1
 have e2:upE (oM z2) (oE z2 lo) l = 0:=upE_ok _ _ _ (Nat.lt_of_le_of_lt (le_of _ _ u2) hz2) dd2
 have hzT:(sumZ (oM z1) (oE z1 lo) (oM z2) (oE z2 lo)).natAbs < TOP:=Nat.lt_of_le_of_lt (le_of _ _ hZ) h3.tops
 obtain ⟨p1,p2,p3⟩:=ad_fits (by rw [hl];exact e1) (by rw [hl];exact e2) hzT
 rw [p1,p2,p3,hl]
 generalize sumZ (oM z1) (oE z1 lo) (oM z2) (oE z2 lo) = Z at *
 have hs:=oM_scale Z k lo
 rw [hZ] at hs
 have hx:oE (z1+z2) lo = oE Z l:=by rw [hs.2,hlk]
 have r3:=h3.right.1
 rw [hs.1,hx] at r3 ⊢
 have hin:-32768≤l∧l≤32768:=by clear hz1 hz2 hzT;omega
 exact (told_make Z l hin).1 r3
theorem mul_level {lo1 lo2:Int} {W1 W2 W:Nat} {z1 z2:Int} (h3:Lvl (lo1+lo2) W (z1 * z2)) (h1:Lvl lo1 W1 z1) (h2:Lvl lo2 W2 z2) :
  (oM z1 * oM z2).natAbs < TOP∧dErr (oM z1 * oM z2) (oE z1 lo1+oE z2 lo2) = 0∧dM (oM z1 * oM z2) (oE z1 lo1+oE z2 lo2) = oM (z1 * z2)∧dX (oM z1 * oM z2) (oE z1 lo1+oE z2 lo2) = oE (z1 * z2) (lo1+lo2):=by
 have r3:=h3.right
 rw [← oM_mul]
 refine ⟨r3.2,?_⟩
 by_cases a0:z1 = 0
 ·subst a0
  have bE:-16384≤oE z2 lo2∧oE z2 lo2≤16384:=by
   by_cases b0:z2 = 0
   ·subst b0;rw [oE_zero];decide
   ·have:=h2.tzs b0
    rw [oE_ne _ _ b0]
    have:=h2.2
    omega
  rw [Int.zero_mul,oM_zero,oE_zero,oE_zero,Int.zero_add]
  have hk:dOk 0 (oE z2 lo2) = true:=by unfold dOk;rw [decide_eq_true (show -32768≤oE z2 lo2∧oE z2 lo2≤32768 by omega)];simp
  unfold dErr dM dX
  rw [hk]
  simp [oM_zero,oE_zero]
 by_cases b0:z2 = 0
 ·subst b0
  have bE:-16384≤oE z1 lo1∧oE z1 lo1≤16384:=by
   have:=h1.tzs a0
   rw [oE_ne _ _ a0]
   have:=h1.2
   omega
  rw [Int.mul_zero,oM_zero,oE_zero,oE_zero,Int.add_zero]
  have hk:dOk 0 (oE z1 lo1) = true:=by unfold dOk;rw [decide_eq_true (show -32768≤oE z1 lo1∧oE z1 lo1≤32768 by omega)];simp
  unfold dErr dM dX
  rw [hk]
  simp [oM_zero,oE_zero]
 have hx:oE z1 lo1+oE z2 lo2 = oE (z1 * z2) (lo1+lo2):=by
  have h0:z1 * z2 ≠ 0:=fun e=>by rcases Int.mul_eq_zero.1 e with e | e;exact a0 e;exact b0 e
  rw [oE_ne _ _ a0,oE_ne _ _ b0,oE_ne _ _ h0,tz_mul2 z1 z2 a0 b0]
  omega
 rw [hx]
 exact dErr_odd _ _ r3.1
end Go.Proofs.YtcbcmlaogehimaaGreatDoor
namespace Go.Proofs.YtcbcmlaogehimaaGreatDoor
open Go.RowKit
theorem addN {w:World} {v u:Value} {lo:Int} {W:Nat} {z1 z2:Int} (hv:IsDy w v (oM z1) (oE z1 lo)) (hu:IsDy w u (oM z2) (oE z2 lo)) (h1:Lvl lo W z1) (h2:Lvl lo W z2) (h3:Lvl lo W (z1+z2)) (t:Tab w) :
  Calls Tryz.prog 275 #[v,u] w fun r w'=>DyR w' r 0 (oM (z1+z2)) (oE (z1+z2) lo)∧Below w.heap.size w w':=by
 obtain ⟨na,ao,ca,A,rfl,a1,a2,a3,a4,a5⟩:=hv.right h1.right.2
 obtain ⟨nb,bo,cb,B,rfl,b1,b2,b3,b4,b5⟩:=hu.right h2.right.2
 rw [h1.right.1] at a5
 rw [h2.right.1] at b5
 have:=dadd_right na nb ao bo ca cb A B _ _ w a1 b1 a5 b5 t
 obtain ⟨e1,e2,e3⟩:=ad_level h1 h2 h3
 rwa [a3,b3,e1,e2,e3] at this
theorem mulN {w:World} {v u:Value} {lo1 lo2:Int} {W1 W2 W:Nat} {z1 z2:Int} (hv:IsDy w v (oM z1) (oE z1 lo1)) (hu:IsDy w u (oM z2) (oE z2 lo2)) (h1:Lvl lo1 W1 z1) (h2:Lvl lo2 W2 z2) (h3:Lvl (lo1+lo2) W (z1 * z2)) (t:Tab w) :
  Calls Tryz.prog 282 #[v,u] w fun r w'=>DyR w' r 0 (oM (z1 * z2)) (oE (z1 * z2) (lo1+lo2))∧Below w.heap.size w w':=by
 obtain ⟨na,ao,ca,A,rfl,a1,a2,a3,a4,a5⟩:=hv.right h1.right.2
 obtain ⟨nb,bo,cb,B,rfl,b1,b2,b3,b4,b5⟩:=hu.right h2.right.2
 rw [h1.right.1] at a5
 rw [h2.right.1] at b5
 obtain ⟨e0,e1,e2,e3⟩:=mul_level h3 h1 h2
 have:=dmul_right na nb ao bo ca cb A B _ _ w a1 b1 a5 b5 (by rw [a3,b3];exact e0) t
 rwa [a3,b3,e1,e2,e3] at this
end Go.Proofs.YtcbcmlaogehimaaGreatDoor
namespace Go.Proofs.YtcbcmlaogehimaaGreatDoor
open Go.RowKit
def fD (b:Nat):Int:=oM (fM b)
def fX (b:Nat):Int:=oE (fM b) (fE b)
theorem fM_tz (b:Nat) (h:fM b ≠ 0):tz (fM b).natAbs < 53:=tz_lt _ _ (by omega) (by rw [p53];exact fM_lt b)
theorem fM_ok (b:Nat):dErr (fM b) (fE b) = 0∧dM (fM b) (fE b) = fD b∧dX (fM b) (fE b) = fX b:=by
 have h1:=fE_in b
 have hk:dOk (fM b) (fE b) = true:=by
  unfold dOk
  rw [decide_eq_true (by omega)]
  by_cases h0:fM b = 0
  ·rw [decide_eq_true h0];rfl
  ·have:=fM_tz b h0
   rw [decide_eq_true (p:=-16384≤_∧_) (by omega)]
   simp
 unfold dErr dM dX
 rw [if_pos hk,if_pos hk,if_pos hk]
 exact ⟨rfl,rfl,rfl⟩
theorem fM_TOP (b:Nat):(fM b).natAbs < TOP:=lt_TOP (k:=53) (by rw [p53];exact fM_lt b) (by decide)
theorem value_none (b:Nat) (w:World) (h:b < 18446744073709551616) (hf:fFin b = false) :
  Calls Tryz.prog 168 #[.int .u64 b] w fun r w'=>DyR w' r 7 0 0∧Below w.heap.size w w':=by
 have CF:=hide (fun w'=>sfinite_any b w' h)
 rw [hf] at CF
 clear hf h
 have hb0:Below w.heap.size w (w.alloc (.cells #[.bool false,.slice none 0 0,.int .i64 0] 35)):=(Below.refl _ _).alloc (Nat.le_refl _) _
 have B0:=hide hb0;have X2:=hide (Box3.new w (.bool false) (.slice none 0 0) (.int .i64 0))
 clear hb0
 go_enter Tryz.func168,Tryz.ntmps168
 go_wp2_with fail
 refine (uH CF _).mono ?_
 rintro r w1 ⟨rfl,hb1⟩
 have x2:=(uH X2).all hb1
 have B1:=hide ((uH B0).trans (hb1.mono (uH B0).size))
 have y0:=x2.c0;have y1:=x2.c1;have y2:=x2.c2;have f0:=x2.free 0;have f1:=x2.free 1;have f2:=x2.free 2
 clear hb1 x2 X2 B0 CF
 go_wp2
 exact bodyPost_ret (v:=.tuple #[.agg #[.bool false,.slice none 0 0,.int .i64 0],.int .i64 7]) (by simp [results,Tryz.results168,go_sem,y0,y1,y2]) rfl ⟨⟨_,rfl,IsDy.zero _ _ _⟩,below_put3 (uH B1) (Nat.le_refl _) _ _ _⟩
theorem value_some (b:Nat) (w:World) (h:b < 18446744073709551616) (hf:fFin b = true) (hT:Tab w) :
  Calls Tryz.prog 168 #[.int .u64 b] w fun r w'=>DyR w' r 0 (fD b) (fX b)∧Below w.heap.size w w':=by
 have CF:=hide (fun w'=>sfinite_any b w' h)
 rw [hf] at CF
 have CS:=hide (fun w'=>split_any b w' h)
 have CP:=hide (fun w'=>parts_any b w')
 have CO:=hide (fun w'=>of_any (fM b) w' (by have:=fM_lt b;omega) (by have:=fM_lt b;omega))
 obtain ⟨k1,k2,k3⟩:=fM_ok b
 have CM:=hide (fun w' v B (hv:IsNum B w' v (fM b)) (t:Tab w')=>make_num (fE b) hv (fM_TOP b) (by have:=fE_in b;omega) t)
 rw [k1,k2,k3] at CM
 clear k1 k2 k3
 unfold fV at *
 generalize fM b = m at *
 generalize fE b = e at *
 generalize fD b = M at *
 generalize fX b = X at *
 generalize fS b = s at *
 generalize fP b = p at *
 generalize fF b = f at *
 clear hf h
 have hb0:Below w.heap.size w (w.alloc (.cells #[.bool false,.slice none 0 0,.int .i64 0] 35)):=(Below.refl _ _).alloc (Nat.le_refl _) _
 have B0:=hide hb0;have X2:=hide (Box3.new w (.bool false) (.slice none 0 0) (.int .i64 0))
 clear hb0
 go_enter Tryz.func168,Tryz.ntmps168
 go_wp2_with fail
 refine (uH CF _).mono ?_
 rintro r w1 ⟨rfl,hb1⟩
 have X3:=hide ((uH X2).all hb1)
 have B1:=hide ((uH B0).trans (hb1.mono (uH B0).size))
 clear hb1 X2 B0 CF
 go_wp2_with fail
 refine (uH CS _).mono ?_
 rintro r w2 ⟨rfl,hb2⟩
 have X4:=hide ((uH X3).all hb2)
 have B2:=hide ((uH B1).trans (hb2.mono (uH B1).size))
 clear hb2 X3 B1 CS
 go_wp2_with fail
 refine (uH CP _).mono ?_
 rintro r w3 ⟨rfl,hb3⟩
 have X5:=hide ((uH X4).all hb3)
 have B3:=hide ((uH B2).trans (hb3.mono (uH B2).size))
 clear hb3 X4 B2 CP
 go_wp2_with fail
 refine (uH CO _).mono ?_
 rintro r w4 ⟨v,rfl,hv,hb4⟩
 have X6:=hide ((uH X5).all hb4)
 have b4:=(uH B3).trans (hb4.mono (uH B3).size)
 have B4:=hide b4
 have HT:=hide (hT.all b4)
 have HV:=hide hv
 clear hb4 X5 B3 CO b4 hv
 go_wp2_with fail
 refine (uH CM _ _ _ (uH HV) (uH HT)).mono ?_
 rintro r w5 ⟨u,rfl,hu,hb5⟩
 have x7:=(uH X6).all hb5
 have X7:=hide x7
 have B5:=hide ((uH B4).trans (hb5.mono (uH B4).size))
 obtain ⟨n2,a2,c2,L2,rfl,j2⟩:=hu
 have J:=hide (show IsDy w5 (.agg #[.bool n2,.slice a2 L2.length c2,.int .i64 X]) M X from ⟨n2,a2,c2,L2,rfl,j2⟩)
 have y0:=x7.c0;have y1:=x7.c1;have y2:=x7.c2;have f0:=x7.free 0;have f1:=x7.free 1;have f2:=x7.free 2
 clear hb5 x7 X6 B4 CM j2
 go_wp2
 exact bodyPost_ret (v:=.tuple #[.agg #[.bool n2,.slice a2 L2.length c2,.int .i64 X],.int .i64 0]) (by simp [results,Tryz.results168,go_sem,y0,y1,y2]) rfl ⟨⟨_,rfl,(uH J).put3 (uH X7) _ _ _⟩,below_put3 (uH B5) (Nat.le_refl _) _ _ _⟩
end Go.Proofs.YtcbcmlaogehimaaGreatDoor
namespace Go.Proofs.YtcbcmlaogehimaaGreatDoor
open Go.RowKit
theorem refNeg_num {M B:Nat} {w:World} {v:Value} {z:Int} (hv:IsNumM M B w v z) (hM:M≤1000000) :
  Calls Tryz.prog 116 #[v] w fun e w'=>∃ u,e = .returned u∧IsNumM M 0 w' u (-z)∧Below w.heap.size w w':=by
 obtain ⟨n,a,c,L,rfl,h2,h3,h4,h5,h6,h7⟩:=hv
 refine (refNeg_any n a c L w h2 (by omega)).mono ?_
 rintro e w' ⟨u,rfl,hu,hb⟩
 rw [sval_IsNum h5 h6] at hu
 exact ⟨u,rfl,hu.more h7,hb⟩
def VSt (w W:World) (g:Nat) (n:Bool) (a:Option Addr) (l c:Nat) (z:Int):Prop :=
 Below w.heap.size w W∧Box3 W w.heap.size (.bool false) (.slice none 0 0) (.int .i64 0)∧Box2 W g (.bool n) (.slice a l c)∧w.heap.size < g∧IsNumM 2 0 W (.agg #[.bool n,.slice a l c]) z
theorem IsNumM.zeroB {M B:Nat} {w:World} {v:Value} {x:Int} (h:IsNumM M B w v x):IsNumM M 0 w v x:=by
 obtain ⟨neg,ao,cap,L,h1,h2,h3,h4⟩:=h
 exact ⟨neg,ao,cap,L,h1,h2,NewAt.zero h2,h4⟩
theorem IsNumM.box {M B:Nat} {w:World} {v:Value} {x:Int} (h:IsNumM M B w v x) {g:Nat} {y:Bool} {a:Option Addr} {n c:Nat} (hx:Box2 w g (.bool y) (.slice a n c)) (u u':Value):IsNumM M B ((w.setCell ⟨g,0,none⟩ u).setCell ⟨g,1,none⟩ u') v x:=by
 obtain ⟨neg,ao,cap,L,h1,h2,h3⟩:=h
 exact ⟨neg,ao,cap,L,h1,h2.box hx u u',h3⟩
theorem VSt.below {w W W':World} {g:Nat} {n:Bool} {a:Option Addr} {l c:Nat} {z:Int} (h:VSt w W g n a l c z) (hb:Below W.heap.size W W'):VSt w W' g n a l c z :=
 ⟨h.1.trans (hb.mono h.1.size),h.2.1.all hb,h.2.2.1.all hb,h.2.2.2.1,h.2.2.2.2.below hb⟩
theorem VSt.put {w W:World} {g:Nat} {n n':Bool} {a a':Option Addr} {l c l' c':Nat} {z z':Int} (h:VSt w W g n a l c z) (hv:IsNumM 2 0 W (.agg #[.bool n',.slice a' l' c']) z') :
  VSt w ((W.setCell ⟨g,0,none⟩ (.bool n')).setCell ⟨g,1,none⟩ (.slice a' l' c')) g n' a' l' c' z':=by
 obtain ⟨h1,h2,h3,h4,h5⟩:=h
 exact ⟨below_put2 h1 (by omega) _ _,(h2.other (by simp;omega) _).other (by simp;omega) _,h3.put _ _,h4,hv.box h3 _ _⟩
theorem rvalue_zo (b:Nat) (f:Nat) (a0 m e X Y:Int) (w:World) (hf0:IntKind.i64.wrap (f:Int) = a0)
  (CF:∀ w',Calls Tryz.prog 113 #[.int .u64 b] w' fun r w''=>r = .returned (.int .u64 f)∧w' = w'')
  (CP:∀ w',Calls Tryz.prog 114 #[.int .u64 b] w' fun r w''=>r = .returned (.int .i64 0)∧w' = w'')
  (CN:∀ w',Calls Tryz.prog 115 #[.int .u64 b] w' fun r w''=>r = .returned (.bool false)∧w' = w'')
  (CO:∀ w',Calls Tryz.prog 28 #[.int .i64 a0] w' fun r w''=>∃ v,r = .returned v∧IsNumM 2 w'.heap.size w'' v a0∧Below w'.heap.size w' w'')
  (CV:∀ w' v,IsNumM 2 0 w' v m→Calls Tryz.prog 27 #[v,.int .i64 e] w' fun r w''=>∃ u,r = .returned u∧IsDy w'' u X Y∧Below w'.heap.size w' w'')
  (he:e = -1074) (hm:a0 = m)
  : Calls Tryz.prog 60 #[.int .u64 b] w fun r w'=>∃ u,r = .returned u∧IsDy w' u X Y∧Below w.heap.size w w':=by
 subst he hm
 have KF:=hide CF;have KP:=hide CP;have KN:=hide CN;have KO:=hide CO;have KV:=hide CV
 clear CF CP CN CO CV
 have hb0:Below w.heap.size w (w.alloc (.cells #[.bool false,.slice none 0 0,.int .i64 0] 35)):=(Below.refl _ _).alloc (Nat.le_refl _) _
 have B0:=hide hb0;have X2:=hide (Box3.new w (.bool false) (.slice none 0 0) (.int .i64 0))
 clear hb0
 go_enter Tryz.func60,Tryz.ntmps60
 go_wp2_with (go_at_call 113;refine (uH KF _).mono ?_;rintro r w2 ⟨rfl,rfl⟩)
 refine (uH KO _).mono ?_
 rintro r w1 ⟨v,rfl,hv,hb1⟩
 obtain ⟨n1,a1',c1,L1,rfl,i1⟩:=hv
 have b1:=(uH B0).trans (hb1.mono (uH B0).size)
 have v1:VSt w (w1.alloc (.cells #[.bool n1,.slice a1' L1.length c1] 33)) w1.heap.size n1 a1' L1.length c1 a0 :=
  ⟨b1.alloc b1.size _,((uH X2).all hb1).old _,Box2.new _ _ _,by have:=hb1.size;simp at this;omega,(IsNumM.zeroB ⟨n1,a1',c1,L1,rfl,i1⟩).below ((Below.refl _ _).alloc (Nat.le_refl _) _)⟩
 have V1:=hide v1
 clear b1 v1 hb1 i1 B0 X2 KO
 go_upto_region 3 with (fail)
 refine at_world (fun W=>VSt w W w1.heap.size n1 a1' L1.length c1 a0) (uH V1) ?_
 clear V1
 intro W1 v1
 generalize w1.heap.size = g at *
 generalize L1.length = l1 at *
 have VV:=hide v1
 have y0:=v1.2.2.1.c0;have y1:=v1.2.2.1.c1;have f0:=v1.2.2.1.free 0;have f1:=v1.2.2.1.free 1
 clear v1
 go_wp2_with (first | (go_at_call 114;refine (uH KP _).mono ?_;rintro r w2 ⟨rfl,rfl⟩) | (go_at_call 115;refine (uH KN _).mono ?_;rintro r w2 ⟨rfl,rfl⟩))
 refine (uH KV _ _ (uH VV).2.2.2.2).mono ?_
 rintro r w9 ⟨u,rfl,hu,hb9⟩
 have v9:=(uH VV).below hb9
 have x9:=v9.2.1
 have V9:=hide v9
 obtain ⟨n9,a9,c9,L9,rfl,j9⟩:=hu
 have J:=hide (show IsDy w9 (.agg #[.bool n9,.slice a9 L9.length c9,.int .i64 Y]) X Y from ⟨n9,a9,c9,L9,rfl,j9⟩)
 clear y0 y1 f0 f1
 have y0:=x9.c0;have y1:=x9.c1;have y2:=x9.c2;have f0:=x9.free 0;have f1:=x9.free 1;have f2:=x9.free 2
 clear hb9 v9 x9 VV j9
 go_wp2
 exact bodyPost_ret (v:=.agg #[.bool n9,.slice a9 L9.length c9,.int .i64 Y]) (by simp [results,Tryz.results60,go_sem,y0,y1,y2]) rfl ⟨_,rfl,(uH J).put3 (uH V9).2.1 _ _ _,below_put3 (uH V9).1 (Nat.le_refl _) _ _ _⟩
theorem rvalue_zn (b:Nat) (f:Nat) (a0 m e X Y:Int) (w:World) (hf0:IntKind.i64.wrap (f:Int) = a0)
  (CF:∀ w',Calls Tryz.prog 113 #[.int .u64 b] w' fun r w''=>r = .returned (.int .u64 f)∧w' = w'')
  (CP:∀ w',Calls Tryz.prog 114 #[.int .u64 b] w' fun r w''=>r = .returned (.int .i64 0)∧w' = w'')
  (CN:∀ w',Calls Tryz.prog 115 #[.int .u64 b] w' fun r w''=>r = .returned (.bool true)∧w' = w'')
  (CO:∀ w',Calls Tryz.prog 28 #[.int .i64 a0] w' fun r w''=>∃ v,r = .returned v∧IsNumM 2 w'.heap.size w'' v a0∧Below w'.heap.size w' w'')
  (CV:∀ w' v,IsNumM 2 0 w' v (-m)→Calls Tryz.prog 27 #[v,.int .i64 e] w' fun r w''=>∃ u,r = .returned u∧IsDy w'' u X Y∧Below w'.heap.size w' w'')
  (he:e = -1074) (hm:a0 = m)
  : Calls Tryz.prog 60 #[.int .u64 b] w fun r w'=>∃ u,r = .returned u∧IsDy w' u X Y∧Below w.heap.size w w':=by
 subst he hm
 have KF:=hide CF;have KP:=hide CP;have KN:=hide CN;have KO:=hide CO;have KV:=hide CV
 clear CF CP CN CO CV
 have hb0:Below w.heap.size w (w.alloc (.cells #[.bool false,.slice none 0 0,.int .i64 0] 35)):=(Below.refl _ _).alloc (Nat.le_refl _) _
 have B0:=hide hb0;have X2:=hide (Box3.new w (.bool false) (.slice none 0 0) (.int .i64 0))
 clear hb0
 go_enter Tryz.func60,Tryz.ntmps60
 go_wp2_with (go_at_call 113;refine (uH KF _).mono ?_;rintro r w2 ⟨rfl,rfl⟩)
 refine (uH KO _).mono ?_
 rintro r w1 ⟨v,rfl,hv,hb1⟩
 obtain ⟨n1,a1',c1,L1,rfl,i1⟩:=hv
 have b1:=(uH B0).trans (hb1.mono (uH B0).size)
 have v1:VSt w (w1.alloc (.cells #[.bool n1,.slice a1' L1.length c1] 33)) w1.heap.size n1 a1' L1.length c1 a0 :=
  ⟨b1.alloc b1.size _,((uH X2).all hb1).old _,Box2.new _ _ _,by have:=hb1.size;simp at this;omega,(IsNumM.zeroB ⟨n1,a1',c1,L1,rfl,i1⟩).below ((Below.refl _ _).alloc (Nat.le_refl _) _)⟩
 have V1:=hide v1
 clear b1 v1 hb1 i1 B0 X2 KO
 go_upto_region 3 with (fail)
 refine at_world (fun W=>VSt w W w1.heap.size n1 a1' L1.length c1 a0) (uH V1) ?_
 clear V1
 intro W1 v1
 generalize w1.heap.size = g at *
 generalize L1.length = l1 at *
 have VV:=hide v1
 have y0:=v1.2.2.1.c0;have y1:=v1.2.2.1.c1;have f0:=v1.2.2.1.free 0;have f1:=v1.2.2.1.free 1
 clear v1
 go_wp2_with (first | (go_at_call 114;refine (uH KP _).mono ?_;rintro r w2 ⟨rfl,rfl⟩) | (go_at_call 115;refine (uH KN _).mono ?_;rintro r w2 ⟨rfl,rfl⟩))
 refine (refNeg_num (uH VV).2.2.2.2 (by decide)).mono ?_
 rintro r w7 ⟨v,rfl,hv,hb7⟩
 have v5:=(uH VV).below hb7
 clear VV hb7 y0 y1 f0 f1
 obtain ⟨n7,a7,c7,L7,rfl,i7⟩:=hv
 have v6:=v5.put ⟨n7,a7,c7,L7,rfl,i7⟩
 have V6:=hide v6
 have y0:=v5.2.2.1.c0;have y1:=v5.2.2.1.c1;have f0:=v5.2.2.1.free 0;have f1:=v5.2.2.1.free 1
 clear v5 v6 i7
 go_upto_region 8 with (fail)
 refine at_world (fun W=>VSt w W g n7 a7 L7.length c7 _) (uH V6) ?_
 clear V6 y0 y1 f0 f1
 intro W7 v5
 generalize L7.length = l7 at *
 have VV:=hide v5
 have y0:=v5.2.2.1.c0;have y1:=v5.2.2.1.c1;have f0:=v5.2.2.1.free 0;have f1:=v5.2.2.1.free 1
 clear v5
 go_wp2_with fail
 refine (uH KV _ _ (uH VV).2.2.2.2).mono ?_
 rintro r w9 ⟨u,rfl,hu,hb9⟩
 have v9:=(uH VV).below hb9
 have x9:=v9.2.1
 have V9:=hide v9
 obtain ⟨n9,a9,c9,L9,rfl,j9⟩:=hu
 have J:=hide (show IsDy w9 (.agg #[.bool n9,.slice a9 L9.length c9,.int .i64 Y]) X Y from ⟨n9,a9,c9,L9,rfl,j9⟩)
 clear y0 y1 f0 f1
 have y0:=x9.c0;have y1:=x9.c1;have y2:=x9.c2;have f0:=x9.free 0;have f1:=x9.free 1;have f2:=x9.free 2
 clear hb9 v9 x9 VV j9
 go_wp2
 exact bodyPost_ret (v:=.agg #[.bool n9,.slice a9 L9.length c9,.int .i64 Y]) (by simp [results,Tryz.results60,go_sem,y0,y1,y2]) rfl ⟨_,rfl,(uH J).put3 (uH V9).2.1 _ _ _,below_put3 (uH V9).1 (Nat.le_refl _) _ _ _⟩
theorem rvalue_po (b:Nat) (p:Nat) (f:Nat) (a0 a1 m e X Y:Int) (w:World) (h1:0 < p) (hf0:IntKind.i64.wrap (f:Int) = a0)
  (CF:∀ w',Calls Tryz.prog 113 #[.int .u64 b] w' fun r w''=>r = .returned (.int .u64 f)∧w' = w'')
  (CP:∀ w',Calls Tryz.prog 114 #[.int .u64 b] w' fun r w''=>r = .returned (.int .i64 p)∧w' = w'')
  (CN:∀ w',Calls Tryz.prog 115 #[.int .u64 b] w' fun r w''=>r = .returned (.bool false)∧w' = w'')
  (CO:∀ w',Calls Tryz.prog 28 #[.int .i64 a0] w' fun r w''=>∃ v,r = .returned v∧IsNumM 2 w'.heap.size w'' v a0∧Below w'.heap.size w' w'')
  (CV:∀ w' v,IsNumM 2 0 w' v m→Calls Tryz.prog 27 #[v,.int .i64 e] w' fun r w''=>∃ u,r = .returned u∧IsDy w'' u X Y∧Below w'.heap.size w' w'')
  (w1:IntKind.u64.wrap ((f:Int)+4503599627370496) = a1) (w2:IntKind.i64.wrap a1 = m) (w3:IntKind.i64.wrap ((p:Int) - 1075) = e)
  (C1:∀ w',Calls Tryz.prog 28 #[.int .i64 m] w' fun r w''=>∃ v,r = .returned v∧IsNumM 2 w'.heap.size w'' v m∧Below w'.heap.size w' w'')
  : Calls Tryz.prog 60 #[.int .u64 b] w fun r w'=>∃ u,r = .returned u∧IsDy w' u X Y∧Below w.heap.size w w':=by
 have h1':decide (0 < p) = true:=decide_eq_true h1
 have KF:=hide CF;have KP:=hide CP;have KN:=hide CN;have KO:=hide CO;have KV:=hide CV
 clear CF CP CN CO CV
 have K1:=hide C1
 clear C1
 have hb0:Below w.heap.size w (w.alloc (.cells #[.bool false,.slice none 0 0,.int .i64 0] 35)):=(Below.refl _ _).alloc (Nat.le_refl _) _
 have B0:=hide hb0;have X2:=hide (Box3.new w (.bool false) (.slice none 0 0) (.int .i64 0))
 clear hb0
 go_enter Tryz.func60,Tryz.ntmps60
 go_wp2_with (go_at_call 113;refine (uH KF _).mono ?_;rintro r w2 ⟨rfl,rfl⟩)
 refine (uH KO _).mono ?_
 rintro r w1 ⟨v,rfl,hv,hb1⟩
 obtain ⟨n1,a1',c1,L1,rfl,i1⟩:=hv
 have b1:=(uH B0).trans (hb1.mono (uH B0).size)
 have v1:VSt w (w1.alloc (.cells #[.bool n1,.slice a1' L1.length c1] 33)) w1.heap.size n1 a1' L1.length c1 a0 :=
  ⟨b1.alloc b1.size _,((uH X2).all hb1).old _,Box2.new _ _ _,by have:=hb1.size;simp at this;omega,(IsNumM.zeroB ⟨n1,a1',c1,L1,rfl,i1⟩).below ((Below.refl _ _).alloc (Nat.le_refl _) _)⟩
 have V1:=hide v1
 clear b1 v1 hb1 i1 B0 X2 KO
 go_upto_region 3 with (fail)
 refine at_world (fun W=>VSt w W w1.heap.size n1 a1' L1.length c1 a0) (uH V1) ?_
 clear V1
 intro W1 v1
 generalize w1.heap.size = g at *
 generalize L1.length = l1 at *
 have VV:=hide v1
 clear v1
 go_wp2_with (first | (go_at_call 114;refine (uH KP _).mono ?_;rintro r w2 ⟨rfl,rfl⟩) | (go_at_call 113;refine (uH KF _).mono ?_;rintro r w2 ⟨rfl,rfl⟩))
 refine (uH K1 _).mono ?_
 rintro r w5 ⟨v,rfl,hv,hb5⟩
 have v5:=(uH VV).below hb5
 clear VV hb5 K1
 obtain ⟨n5,a5,c5,L5,rfl,i5⟩:=hv
 have v6:=v5.put (IsNumM.zeroB ⟨n5,a5,c5,L5,rfl,i5⟩)
 have V6:=hide v6
 have y0:=v5.2.2.1.c0;have y1:=v5.2.2.1.c1;have f0:=v5.2.2.1.free 0;have f1:=v5.2.2.1.free 1
 clear v5 v6 i5
 go_upto_region 5 with (fail)
 refine at_world (fun W=>VSt w W g n5 a5 L5.length c5 m) (uH V6) ?_
 clear V6 y0 y1 f0 f1
 intro W5 v5
 generalize L5.length = l5 at *
 have VV:=hide v5
 have y0:=v5.2.2.1.c0;have y1:=v5.2.2.1.c1;have f0:=v5.2.2.1.free 0;have f1:=v5.2.2.1.free 1
 clear v5
 go_wp2_with (first | (go_at_call 114;refine (uH KP _).mono ?_;rintro r w2 ⟨rfl,rfl⟩) | (go_at_call 115;refine (uH KN _).mono ?_;rintro r w2 ⟨rfl,rfl⟩))
 refine (uH KV _ _ (uH VV).2.2.2.2).mono ?_
 rintro r w9 ⟨u,rfl,hu,hb9⟩
 have v9:=(uH VV).below hb9
 have x9:=v9.2.1
 have V9:=hide v9
 obtain ⟨n9,a9,c9,L9,rfl,j9⟩:=hu
 have J:=hide (show IsDy w9 (.agg #[.bool n9,.slice a9 L9.length c9,.int .i64 Y]) X Y from ⟨n9,a9,c9,L9,rfl,j9⟩)
 clear y0 y1 f0 f1
 have y0:=x9.c0;have y1:=x9.c1;have y2:=x9.c2;have f0:=x9.free 0;have f1:=x9.free 1;have f2:=x9.free 2
 clear hb9 v9 x9 VV j9
 go_wp2
 exact bodyPost_ret (v:=.agg #[.bool n9,.slice a9 L9.length c9,.int .i64 Y]) (by simp [results,Tryz.results60,go_sem,y0,y1,y2]) rfl ⟨_,rfl,(uH J).put3 (uH V9).2.1 _ _ _,below_put3 (uH V9).1 (Nat.le_refl _) _ _ _⟩
theorem rvalue_pn (b:Nat) (p:Nat) (f:Nat) (a0 a1 m e X Y:Int) (w:World) (h1:0 < p) (hf0:IntKind.i64.wrap (f:Int) = a0)
  (CF:∀ w',Calls Tryz.prog 113 #[.int .u64 b] w' fun r w''=>r = .returned (.int .u64 f)∧w' = w'')
  (CP:∀ w',Calls Tryz.prog 114 #[.int .u64 b] w' fun r w''=>r = .returned (.int .i64 p)∧w' = w'')
  (CN:∀ w',Calls Tryz.prog 115 #[.int .u64 b] w' fun r w''=>r = .returned (.bool true)∧w' = w'')
  (CO:∀ w',Calls Tryz.prog 28 #[.int .i64 a0] w' fun r w''=>∃ v,r = .returned v∧IsNumM 2 w'.heap.size w'' v a0∧Below w'.heap.size w' w'')
  (CV:∀ w' v,IsNumM 2 0 w' v (-m)→Calls Tryz.prog 27 #[v,.int .i64 e] w' fun r w''=>∃ u,r = .returned u∧IsDy w'' u X Y∧Below w'.heap.size w' w'')
  (w1:IntKind.u64.wrap ((f:Int)+4503599627370496) = a1) (w2:IntKind.i64.wrap a1 = m) (w3:IntKind.i64.wrap ((p:Int) - 1075) = e)
  (C1:∀ w',Calls Tryz.prog 28 #[.int .i64 m] w' fun r w''=>∃ v,r = .returned v∧IsNumM 2 w'.heap.size w'' v m∧Below w'.heap.size w' w'')
  : Calls Tryz.prog 60 #[.int .u64 b] w fun r w'=>∃ u,r = .returned u∧IsDy w' u X Y∧Below w.heap.size w w':=by
 have h1':decide (0 < p) = true:=decide_eq_true h1
 have KF:=hide CF;have KP:=hide CP;have KN:=hide CN;have KO:=hide CO;have KV:=hide CV
 clear CF CP CN CO CV
 have K1:=hide C1
 clear C1
 have hb0:Below w.heap.size w (w.alloc (.cells #[.bool false,.slice none 0 0,.int .i64 0] 35)):=(Below.refl _ _).alloc (Nat.le_refl _) _
 have B0:=hide hb0;have X2:=hide (Box3.new w (.bool false) (.slice none 0 0) (.int .i64 0))
 clear hb0
 go_enter Tryz.func60,Tryz.ntmps60
 go_wp2_with (go_at_call 113;refine (uH KF _).mono ?_;rintro r w2 ⟨rfl,rfl⟩)
 refine (uH KO _).mono ?_
 rintro r w1 ⟨v,rfl,hv,hb1⟩
 obtain ⟨n1,a1',c1,L1,rfl,i1⟩:=hv
 have b1:=(uH B0).trans (hb1.mono (uH B0).size)
 have v1:VSt w (w1.alloc (.cells #[.bool n1,.slice a1' L1.length c1] 33)) w1.heap.size n1 a1' L1.length c1 a0 :=
  ⟨b1.alloc b1.size _,((uH X2).all hb1).old _,Box2.new _ _ _,by have:=hb1.size;simp at this;omega,(IsNumM.zeroB ⟨n1,a1',c1,L1,rfl,i1⟩).below ((Below.refl _ _).alloc (Nat.le_refl _) _)⟩
 have V1:=hide v1
 clear b1 v1 hb1 i1 B0 X2 KO
 go_upto_region 3 with (fail)
 refine at_world (fun W=>VSt w W w1.heap.size n1 a1' L1.length c1 a0) (uH V1) ?_
 clear V1
 intro W1 v1
 generalize w1.heap.size = g at *
 generalize L1.length = l1 at *
 have VV:=hide v1
 clear v1
 go_wp2_with (first | (go_at_call 114;refine (uH KP _).mono ?_;rintro r w2 ⟨rfl,rfl⟩) | (go_at_call 113;refine (uH KF _).mono ?_;rintro r w2 ⟨rfl,rfl⟩))
 refine (uH K1 _).mono ?_
 rintro r w5 ⟨v,rfl,hv,hb5⟩
 have v5:=(uH VV).below hb5
 clear VV hb5 K1
 obtain ⟨n5,a5,c5,L5,rfl,i5⟩:=hv
 have v6:=v5.put (IsNumM.zeroB ⟨n5,a5,c5,L5,rfl,i5⟩)
 have V6:=hide v6
 have y0:=v5.2.2.1.c0;have y1:=v5.2.2.1.c1;have f0:=v5.2.2.1.free 0;have f1:=v5.2.2.1.free 1
 clear v5 v6 i5
 go_upto_region 5 with (fail)
 refine at_world (fun W=>VSt w W g n5 a5 L5.length c5 m) (uH V6) ?_
 clear V6 y0 y1 f0 f1
 intro W5 v5
 generalize L5.length = l5 at *
 have VV:=hide v5
 have y0:=v5.2.2.1.c0;have y1:=v5.2.2.1.c1;have f0:=v5.2.2.1.free 0;have f1:=v5.2.2.1.free 1
 clear v5
 go_wp2_with (first | (go_at_call 114;refine (uH KP _).mono ?_;rintro r w2 ⟨rfl,rfl⟩) | (go_at_call 115;refine (uH KN _).mono ?_;rintro r w2 ⟨rfl,rfl⟩))
 refine (refNeg_num (uH VV).2.2.2.2 (by decide)).mono ?_
 rintro r w7 ⟨v,rfl,hv,hb7⟩
 have v5:=(uH VV).below hb7
 clear VV hb7 y0 y1 f0 f1
 obtain ⟨n7,a7,c7,L7,rfl,i7⟩:=hv
 have v6:=v5.put ⟨n7,a7,c7,L7,rfl,i7⟩
 have V6:=hide v6
 have y0:=v5.2.2.1.c0;have y1:=v5.2.2.1.c1;have f0:=v5.2.2.1.free 0;have f1:=v5.2.2.1.free 1
 clear v5 v6 i7
 go_upto_region 8 with (fail)
 refine at_world (fun W=>VSt w W g n7 a7 L7.length c7 _) (uH V6) ?_
 clear V6 y0 y1 f0 f1
 intro W7 v5
 generalize L7.length = l7 at *
 have VV:=hide v5
 have y0:=v5.2.2.1.c0;have y1:=v5.2.2.1.c1;have f0:=v5.2.2.1.free 0;have f1:=v5.2.2.1.free 1
 clear v5
 go_wp2_with fail
 refine (uH KV _ _ (uH VV).2.2.2.2).mono ?_
 rintro r w9 ⟨u,rfl,hu,hb9⟩
 have v9:=(uH VV).below hb9
 have x9:=v9.2.1
 have V9:=hide v9
 obtain ⟨n9,a9,c9,L9,rfl,j9⟩:=hu
 have J:=hide (show IsDy w9 (.agg #[.bool n9,.slice a9 L9.length c9,.int .i64 Y]) X Y from ⟨n9,a9,c9,L9,rfl,j9⟩)
 clear y0 y1 f0 f1
 have y0:=x9.c0;have y1:=x9.c1;have y2:=x9.c2;have f0:=x9.free 0;have f1:=x9.free 1;have f2:=x9.free 2
 clear hb9 v9 x9 VV j9
 go_wp2
 exact bodyPost_ret (v:=.agg #[.bool n9,.slice a9 L9.length c9,.int .i64 Y]) (by simp [results,Tryz.results60,go_sem,y0,y1,y2]) rfl ⟨_,rfl,(uH J).put3 (uH V9).2.1 _ _ _,below_put3 (uH V9).1 (Nat.le_refl _) _ _ _⟩
end Go.Proofs.YtcbcmlaogehimaaGreatDoor
