/- Part 10 of the texts. -/
import Derived.Test.YtcbcmlaogehimaaGreatDoorPartc09
import Derived.Test.YtcbcmlaogehimaaGreatDoorPartc03
set_option maxHeartbeats 4000000
namespace Go.Proofs.YtcbcmlaogehimaaGreatDoor
open Go.RowKit
theorem bitLen_spec:∀ (t:Nat),0 < t→t < 4294967296→1≤Lib.bitLen t∧2 ^ (Lib.bitLen t - 1)≤t∧t < 2 ^ Lib.bitLen t:=by
 intro t
 induction t using Nat.strongRecOn with
 | ind t ih =>
  intro h0 h1
  have hb:=bitLen_half t h0 h1
  by_cases h2:t = 1
  ·subst h2;decide
  ·obtain ⟨i1,i2,i3⟩:=ih (t / 2) (by omega) (by omega) (by omega)
   rw [hb]
   refine ⟨by omega,?_,?_⟩
   ·rw [show 1+Lib.bitLen (t / 2) - 1 = (Lib.bitLen (t / 2) - 1)+1 by omega,Nat.pow_succ]
    omega
   ·rw [show 1+Lib.bitLen (t / 2) = Lib.bitLen (t / 2)+1 by omega,Nat.pow_succ]
    omega
def bits1 (L:List Nat):Nat:=if L.length = 0 then 0 else 32 * (L.length - 1)+Lib.bitLen (L[L.length - 1]?.getD 0)
theorem lenL_bits (L:List Nat):lenL L = (bits1 L:Int):=by
 unfold lenL bits1
 by_cases h:L.length = 0
 ·rw [if_pos h,if_pos h];rfl
 ·rw [if_neg h,if_neg h];omega
theorem bits_spec (L:List Nat) (hf:Fits L) (hc:Canon L) (h0:L ≠ []):1≤bits1 L∧2 ^ (bits1 L - 1)≤val L∧val L < 2 ^ bits1 L:=by
 have hl:0 < L.length:=List.length_pos_iff.2 h0
 have ht:L[L.length - 1]?.getD 0 ≠ 0:=by
  rcases hc with h | h
  ·exact absurd h h0
  ·exact h
 have htl:L[L.length - 1]?.getD 0 < 4294967296:=by
  rw [List.getElem?_eq_getElem (by omega)]
  exact hf _ (List.getElem_mem _)
 obtain ⟨s1,s2,s3⟩:=bitLen_spec (L[L.length - 1]?.getD 0) (by omega) htl
 have hv:=val_take_succ L (L.length - 1)
 rw [show L.length - 1+1 = L.length by omega,List.take_length] at hv
 have hr:=val_take_lt L hf (L.length - 1)
 rw [show (4294967296:Nat) = 2 ^ 32 by decide,← Nat.pow_mul] at hr hv
 unfold bits1
 rw [if_neg (by omega)]
 generalize L[L.length - 1]?.getD 0 = t at *
 generalize Lib.bitLen t = b at *
 generalize val (L.take (L.length - 1)) = r at *
 generalize hk:32 * (L.length - 1) = k at *
 refine ⟨by omega,?_,?_⟩
 ·rw [show k+b - 1 = k+(b - 1) by omega,Nat.pow_add,hv]
  have:2 ^ k * 2 ^ (b - 1)≤2 ^ k * t:=Nat.mul_le_mul_left _ s2
  omega
 ·rw [Nat.pow_add,hv]
  have:2 ^ k * (t+1)≤2 ^ k * 2 ^ b:=Nat.mul_le_mul_left _ s3
  rw [Nat.mul_add] at this
  omega
theorem bits_up (v n d k:Nat) (h1:1≤n) (h2:2 ^ (n - 1)≤v) (h3:v < 2 ^ n):v * 2 ^ d < 2 ^ k ↔ n+d≤k:=by
 constructor
 ·intro h
  apply Nat.le_of_not_lt
  intro hlt
  have e1:2 ^ (n - 1) * 2 ^ d≤v * 2 ^ d:=Nat.mul_le_mul_right _ h2
  rw [← Nat.pow_add] at e1
  have e2:2 ^ k≤2 ^ (n - 1+d):=Nat.pow_le_pow_right (by decide) (by omega)
  omega
 ·intro h
  have e1:v * 2 ^ d < 2 ^ n * 2 ^ d:=Nat.mul_lt_mul_of_pos_right h3 (Nat.pow_pos (by decide))
  rw [← Nat.pow_add] at e1
  exact Nat.lt_of_lt_of_le e1 (Nat.pow_le_pow_right (by decide) h)
theorem natAbs_up (n:Bool) (L:List Nat) (x l:Int):(up (sval n L) x l).natAbs = val L * 2 ^ (x - l).toNat:=by
 unfold up
 rw [Int.natAbs_mul,natAbs_sval,Int.natAbs_pow]
 rfl
theorem up_bits (n:Bool) (L:List Nat) (x l:Int) (hf:Fits L) (hr:rightB n L = true) (h0:L ≠ []) (hl:l≤x):upE (sval n L) x l = 0 ↔ (x - l≤16384∧lenL L+x - l≤16384):=by
 obtain ⟨s1,s2,s3⟩:=bits_spec L hf (right_canon hr).2.1 h0
 have hb:=bits_up (val L) (bits1 L) (x - l).toNat (32 * TOPN) s1 s2 s3
 rw [← TOP_eq,← natAbs_up n L x l] at hb
 have e2:32 * TOPN = 16384:=rfl
 rw [lenL_bits]
 constructor
 ·intro h
  have:=hb.1 (upE_TOP h)
  omega
 ·intro h
  exact upE_ok _ _ _ (hb.2 (by omega)) h.1
end Go.Proofs.YtcbcmlaogehimaaGreatDoor
namespace Go.Proofs.YtcbcmlaogehimaaGreatDoor
open Go.RowKit
def fA (b:Nat):Nat:=if fP b = 0 then fF b else fF b+4503599627370496
def fM (b:Nat):Int:=sg (fS b) (fA b)
def fE (b:Nat):Int:=if fP b = 0 then -1074 else (fP b:Int) - 1075
theorem fA_lt (b:Nat):fA b < 9007199254740992:=by unfold fA;have:=fF_lt b;split <;> omega
theorem fM_lt (b:Nat):(fM b).natAbs < 9007199254740992:=by
 have:=fA_lt b
 unfold fM sg
 split <;> omega
theorem fE_in (b:Nat):-1074≤fE b∧fE b≤972:=by
 have:=fP_lt b
 unfold fE
 split <;> omega
theorem parts_any (b:Nat) (w:World) :
  Calls Tryz.prog 205 #[fV b] w fun e w'=>e = .returned (.tuple #[.int .i64 (fM b),.int .i64 (fE b)])∧Below w.heap.size w w':=by
 unfold fV fM fE fA
 have hp:=fP_lt b
 have hf:=fF_lt b
 generalize fF b = f at *
 generalize fP b = p at *
 generalize fS b = s at *
 have hf0:(0:Int)≤f:=by omega
 have hf1:(f:Int) < 4503599627370496:=by omega
 have hp1:(p:Int) < 2048:=by omega
 by_cases h0:p = 0
 ·subst h0
  rw [if_pos rfl,if_pos rfl]
  cases s
  ·go_enter Tryz.func205,Tryz.ntmps205
   go_wp2
   exact bodyPost_ret (v:=.tuple #[.int .i64 f,.int .i64 (-1074)]) (by simp [results,Tryz.results205,go_sem]) rfl ⟨rfl,(Below.refl _ _).alloc (Nat.le_refl _) _⟩
  ·go_enter Tryz.func205,Tryz.ntmps205
   go_wp2
   exact bodyPost_ret (v:=.tuple #[.int .i64 (-f),.int .i64 (-1074)]) (by simp [results,Tryz.results205,go_sem]) rfl ⟨rfl,(Below.refl _ _).alloc (Nat.le_refl _) _⟩
 ·rw [if_neg h0,if_neg h0]
  have h1:0 < p:=by omega
  have h1':decide (0 < p) = true:=decide_eq_true h1
  have w0:IntKind.i64.wrap (f:Int) = (f:Int):=by simp only [IntKind.wrap_i64];omega
  have w2:IntKind.i64.wrap (p:Int) = (p:Int):=by simp only [IntKind.wrap_i64];omega
  obtain ⟨a,ha⟩:∃ a:Nat,a = f+4503599627370496:=⟨_,rfl⟩
  have w1:IntKind.i64.wrap ((f:Int)+4503599627370496) = (a:Int):=by simp only [IntKind.wrap_i64];omega
  have w4:IntKind.i64.wrap (-(a:Int)) = -(a:Int):=by simp only [IntKind.wrap_i64];omega
  have w5:IntKind.i64.wrap ((p:Int) - 1) = (p:Int) - 1:=by simp only [IntKind.wrap_i64];omega
  have w6:IntKind.i64.wrap (-1074+((p:Int) - 1)) = (p:Int) - 1075:=by simp only [IntKind.wrap_i64];omega
  rw [← ha]
  clear h0 hf hp hf1 hp1 hf0 ha
  cases s
  ·go_enter Tryz.func205,Tryz.ntmps205
   go_wp2
   exact bodyPost_ret (v:=.tuple #[.int .i64 a,.int .i64 (p - 1075)]) (by simp [results,Tryz.results205,go_sem]) rfl ⟨rfl,(Below.refl _ _).alloc (Nat.le_refl _) _⟩
  ·go_enter Tryz.func205,Tryz.ntmps205
   go_wp2
   exact bodyPost_ret (v:=.tuple #[.int .i64 (-a),.int .i64 (p - 1075)]) (by simp [results,Tryz.results205,go_sem]) rfl ⟨rfl,(Below.refl _ _).alloc (Nat.le_refl _) _⟩
end Go.Proofs.YtcbcmlaogehimaaGreatDoor
namespace Go.Proofs.YtcbcmlaogehimaaGreatDoor
open Go.RowKit
attribute [local go_sem ↓] Go.wp_at_zero Go.wp_at_succ
def lowR (n m:Nat) (x y:Int):Int:=if n = 0 then y else if m = 0 then x else min x y
theorem lowR_E {na nb:Bool} {A B:List Nat} {x y:Int} (ra:rightB na A = true) (rb:rightB nb B = true):lowR A.length B.length x y = lowE (sval na A) x (sval nb B) y:=by
 unfold lowR lowE
 by_cases h1:A.length = 0
 ·rw [if_pos h1,if_pos ((sval_zero_iff ra).2 h1)]
 ·rw [if_neg h1,if_neg (fun e=>h1 ((sval_zero_iff ra).1 e))]
  by_cases h2:B.length = 0
  ·rw [if_pos h2,if_pos ((sval_zero_iff rb).2 h2)]
  ·rw [if_neg h2,if_neg (fun e=>h2 ((sval_zero_iff rb).1 e))]
theorem low_any (na nb:Bool) (ao bo:Option Addr) (ca cb n m:Nat) (x y:Int) (w:World) :
  Calls Tryz.prog 55 #[.agg #[.bool na,.slice ao n ca,.int .i64 x],.agg #[.bool nb,.slice bo m cb,.int .i64 y]] w fun r w'=>r = .returned (.int .i64 (lowR n m x y))∧Below w.heap.size w w':=by
 have hb0:Below w.heap.size w ((w.alloc (.cells #[.bool na,.slice ao n ca,.int .i64 x] 35)).alloc (.cells #[.bool nb,.slice bo m cb,.int .i64 y] 35)):=((Below.refl _ _).alloc (Nat.le_refl _) _).alloc (by simp) _
 have B0:=hide hb0
 clear hb0
 by_cases h1:n = 0
 ·have hl:lowR n m x y = y:=by unfold lowR;rw [if_pos h1]
  rw [hl]
  subst h1
  clear hl
  go_enter Tryz.func55,Tryz.ntmps55
  go_wp2
  go_ret
  exact ⟨rfl,uH B0⟩
 have h1':((n:Int) == 0) = false:=by rw [beq_eq_false_iff_ne];omega
 by_cases h2:m = 0
 ·have hl:lowR n m x y = x:=by unfold lowR;rw [if_neg h1,if_pos h2]
  rw [hl]
  subst h2
  clear hl h1
  go_enter Tryz.func55,Tryz.ntmps55
  go_wp2
  go_ret
  exact ⟨rfl,uH B0⟩
 have h2':((m:Int) == 0) = false:=by rw [beq_eq_false_iff_ne];omega
 have HL:=hide (show lowR n m x y = min x y by unfold lowR;rw [if_neg h1,if_neg h2])
 generalize lowR n m x y = l at *
 clear h1 h2
 rcases (show x < y ∨ x = y ∨ y < x by omega) with hxy | hxy | hxy
 ·have hl:l = x:=by rw [uH HL];omega
  subst hl
  clear HL
  go_enter Tryz.func55,Tryz.ntmps55
  go_wp2
  go_ret
  exact ⟨rfl,uH B0⟩
 ·have hl:l = x:=by rw [uH HL];omega
  subst hxy
  subst hl
  clear HL
  go_enter Tryz.func55,Tryz.ntmps55
  go_wp2
  go_ret
  exact ⟨rfl,uH B0⟩
 ·have hl:l = y:=by rw [uH HL];omega
  subst hl
  clear HL
  go_enter Tryz.func55,Tryz.ntmps55
  go_wp2
  go_ret
  exact ⟨rfl,uH B0⟩
end Go.Proofs.YtcbcmlaogehimaaGreatDoor
namespace Go.Proofs.YtcbcmlaogehimaaGreatDoor
open Go.RowKit
attribute [local go_sem ↓] Go.wp_at_zero Go.wp_at_succ
theorem lowR_bounds (n m:Nat) (x y:Int) (hx:-16384≤x∧x≤16384) (hy:-16384≤y∧y≤16384):-16384≤lowR n m x y∧lowR n m x y≤16384:=by
 unfold lowR
 split
 ·omega
 ·split <;> omega
theorem level_any (na:Bool) (ao:Option Addr) (ca:Nat) (A:List Nat) (x l:Int) (w:World) (hA:LimbsAt w ao ca A) (ra:rightB na A = true) (h:A.length ≠ 0→l≤x∧x - l≤16384) (hx:-16384≤x∧x≤16384) (hl:-16384≤l∧l≤16384) :
  Calls Tryz.prog 57 #[.agg #[.bool na,.slice ao A.length ca,.int .i64 x],.int .i64 l] w fun r w'=>∃ v,r = .returned v∧IsNum 0 w' v (up (sval na A) x l)∧Below w.heap.size w w':=by
 have la:=(right_canon ra).1
 have HZ:=hide (show A.length = 0→up (sval na A) x l = 0∧na = false from fun h0=>by
  refine ⟨by rw [(sval_zero_iff ra).2 h0,up_zero],?_⟩
  cases na
  ·rfl
  ·exact absurd (List.length_eq_zero_iff.1 h0) ((right_canon ra).2.2 rfl))
 have CS:=hide (fun w' h' (h0:A.length ≠ 0)=>show Calls Tryz.prog 111 #[.agg #[.bool na,.slice ao A.length ca],.int .i64 (x - l)] w' fun e w''=>∃ v,e = .returned v∧IsNum 0 w'' v (up (sval na A) x l)∧Below w'.heap.size w' w'' by
  have:=refShift_any na ao ca A (x - l) w' h' ra (by have:=h h0;omega)
  rwa [shV_upto na A (x - l) (by have:=h h0;omega)] at this)
 clear h ra
 generalize up (sval na A) x l = z at *
 obtain ⟨hx1,hx2⟩:=hx
 obtain ⟨hl1,hl2⟩:=hl
 have hb0:Below w.heap.size w ((w.alloc (.cells #[.bool na,.slice ao A.length ca,.int .i64 x] 35)).alloc (.cells #[.bool false,.slice none 0 0] 33)):=((Below.refl _ _).alloc (Nat.le_refl _) _).alloc (by simp) _
 have x0:Box3 ((w.alloc (.cells #[.bool na,.slice ao A.length ca,.int .i64 x] 35)).alloc (.cells #[.bool false,.slice none 0 0] 33)) w.heap.size (.bool na) (.slice ao A.length ca) (.int .i64 x):=(Box3.new _ _ _ _).old _
 have x2:Box2 ((w.alloc (.cells #[.bool na,.slice ao A.length ca,.int .i64 x] 35)).alloc (.cells #[.bool false,.slice none 0 0] 33)) (w.heap.size+1) (.bool false) (.slice none 0 0):=by
  have:=Box2.new (w.alloc (.cells #[.bool na,.slice ao A.length ca,.int .i64 x] 35)) (.bool false) (.slice none 0 0)
  simpa using this
 have B0:=hide hb0;have X0:=hide x0;have X2:=hide x2
 clear hb0 x0 x2
 by_cases h0:A.length = 0
 ·obtain ⟨rfl,rfl⟩:=uH HZ h0
  have hA0:A = []:=List.length_eq_zero_iff.1 h0
  subst hA0
  clear HZ CS h0
  go_enter Tryz.func57,Tryz.ntmps57
  go_wp2
  refine bodyPost_ret (v:=.agg #[.bool false,.slice ao 0 ca]) (by simp [results,Tryz.results57,go_sem]) rfl ⟨_,rfl,IsNum.zero _ _ _ _,?_⟩
  exact ((Below.refl w.heap.size w).alloc (Nat.le_refl _) _).alloc (by simp) _
 have h0':((A.length:Int) == 0) = false:=by rw [beq_eq_false_iff_ne];omega
 have CS':=hide (fun w' h'=>uH CS w' h' h0)
 clear HZ CS h0
 go_enter Tryz.func57,Tryz.ntmps57
 go_wp2_with fail
 refine (uH CS' _ (hA.below (uH B0))).mono ?_
 rintro r w2 ⟨v,rfl,⟨n3,a3,c3,L3,rfl,i3⟩,hb1⟩
 have x2:=(uH X2).all hb1
 have b2:=(uH B0).trans (hb1.mono (uH B0).size)
 have y0:=x2.c0;have y1:=x2.c1;have f0:=x2.free 0;have f1:=x2.free 1
 have X3:=hide x2;have B2:=hide b2;have I3:=hide i3
 clear x2 b2 hb1 i3
 go_wp2
 refine bodyPost_ret (v:=.agg #[.bool n3,.slice a3 L3.length c3]) (by simp [results,Tryz.results57,go_sem,y0,y1]) rfl ⟨_,rfl,⟨n3,a3,c3,L3,rfl,(uH I3).1.box (uH X3) _ _,(uH I3).2⟩,below_put2 (uH B2) (by omega) _ _⟩
theorem rneg_any (na:Bool) (ao:Option Addr) (ca:Nat) (A:List Nat) (x:Int) (w:World) (hA:LimbsAt w ao ca A) (la:A.length≤512) :
  Calls Tryz.prog 112 #[.agg #[.bool na,.slice ao A.length ca,.int .i64 x]] w fun r w'=>∃ v,r = .returned v∧IsDy w' v (- sval na A) x∧Below w.heap.size w w':=by
 have CN:=hide (fun w' h=>refNeg_any na ao ca A w' h (by omega))
 generalize - sval na A = z at *
 have hb0:Below w.heap.size w ((w.alloc (.cells #[.bool na,.slice ao A.length ca,.int .i64 x] 35)).alloc (.cells #[.bool false,.slice none 0 0,.int .i64 0] 35)):=((Below.refl _ _).alloc (Nat.le_refl _) _).alloc (by simp) _
 have x0:Box3 ((w.alloc (.cells #[.bool na,.slice ao A.length ca,.int .i64 x] 35)).alloc (.cells #[.bool false,.slice none 0 0,.int .i64 0] 35)) w.heap.size (.bool na) (.slice ao A.length ca) (.int .i64 x):=(Box3.new _ _ _ _).old _
 have x2:Box3 ((w.alloc (.cells #[.bool na,.slice ao A.length ca,.int .i64 x] 35)).alloc (.cells #[.bool false,.slice none 0 0,.int .i64 0] 35)) (w.heap.size+1) (.bool false) (.slice none 0 0) (.int .i64 0):=by
  have:=Box3.new (w.alloc (.cells #[.bool na,.slice ao A.length ca,.int .i64 x] 35)) (.bool false) (.slice none 0 0) (.int .i64 0)
  simpa using this
 have B0:=hide hb0;have X0:=hide x0;have X2:=hide x2
 clear hb0 x0 x2
 go_enter Tryz.func112,Tryz.ntmps112
 go_wp2_with fail
 refine at_world (fun W=>Below w.heap.size w W∧Box3 W w.heap.size (.bool na) (.slice ao A.length ca) (.int .i64 x)∧Box3 W (w.heap.size+1) (.bool false) (.slice none 0 0) (.int .i64 0)) ⟨uH B0,uH X0,uH X2⟩ ?_
 clear B0 X0 X2
 rintro W0 ⟨b0,x0,x2⟩
 have s0:w.heap.size+1 < W0.heap.size:=x2.lt
 have hK:∀ w',Below (w.heap.size+1) W0 w'→Below (w.heap.size+1) W0 w'∧w'.cell? ⟨w.heap.size,0,none⟩ = some (.bool na)∧w'.cell? ⟨w.heap.size,1,none⟩ = some (.slice ao A.length ca)∧w'.cell? ⟨w.heap.size,2,none⟩ = some (.int .i64 x):=fun w' h =>
  ⟨h,(x0.below h (by omega)).c0,(x0.below h (by omega)).c1,(x0.below h (by omega)).c2⟩
 have HK:=hide hK;have BB:=hide b0;have X2:=hide x2
 clear hK b0 x0 x2
 go_region_held3 (fun w'=>Below (w.heap.size+1) W0 w'∧w'.cell? ⟨w.heap.size,0,none⟩ = some (.bool na)∧w'.cell? ⟨w.heap.size,1,none⟩ = some (.slice ao A.length ca)∧w'.cell? ⟨w.heap.size,2,none⟩ = some (.int .i64 x))
  (first | exact uH HK _ (Below.refl _ _).drew | exact uH HK _ (by assumption) | exact uH HK _ (below_put3 hB1 (by omega) _ _ _))
  (first | (go_at_call 116;refine (uH CN _ (hA.below ((uH BB).trans ((Below.refl _ _).drew)))).mono ?_;rintro e w3 ⟨v,rfl,⟨n4,a4,c4,L4,rfl,i4⟩,hb1⟩;have hB1:Below (w.heap.size+1) W0 w3:=((Below.refl _ _).drew).trans (hb1.mono (by simp;omega));have X4:=((uH X2).drew.below hb1 (by simp;omega));have IZ:=hide (show IsNum 0 w3 (.agg #[.bool n4,.slice a4 L4.length c4]) z from ⟨n4,a4,c4,L4,rfl,i4.1,i4.2.1,i4.2.2.1,i4.2.2.2.1,i4.2.2.2.2.1,by have:=i4.2.2.2.2.2;omega⟩);have y0:=X4.c0;have y1:=X4.c1;have y2:=X4.c2;have f0:=X4.free 0;have f1:=X4.free 1;have f2:=X4.free 2;have X5:=hide X4;have BB1:=hide ((uH BB).trans (hB1.mono (by omega)));clear hb1 i4 X4))
 go_wp2
 have j2:IsDy w3 (.agg #[.bool n4,.slice a4 L4.length c4,.int .i64 x]) z x:=⟨n4,a4,c4,L4,rfl,uH IZ⟩
 refine bodyPost_ret (v:=.agg #[.bool n4,.slice a4 L4.length c4,.int .i64 x]) (by simp [results,Tryz.results112,go_sem,y0,y1,y2]) rfl ⟨_,rfl,j2.put3 (uH X5) _ _ _,below_put3 (uH BB1) (by omega) _ _ _⟩
end Go.Proofs.YtcbcmlaogehimaaGreatDoor
namespace Go.Proofs.YtcbcmlaogehimaaGreatDoor
open Go.RowKit
attribute [local go_sem ↓] Go.wp_at_zero Go.wp_at_succ
theorem refAdd_num {B B':Nat} {w:World} {v u:Value} {x y:Int} (hv:IsNum B w v x) (hu:IsNum B' w u y) (hx:x.natAbs < TOP) (hy:y.natAbs < TOP) :
  Calls Tryz.prog 56 #[v,u] w fun e w'=>∃ r,e = .returned r∧IsNumM 513 w.heap.size w' r (x+y)∧Below w.heap.size w w':=by
 obtain ⟨na,ao,ca,A,rfl,a1,a2,a3,a4⟩:=hv.right hx
 obtain ⟨nb,bo,cb,C,rfl,b1,b2,b3,b4⟩:=hu.right hy
 have:=refAdd_any na nb ao bo ca cb A C w a1 b1 (by omega) (by omega)
 rw [a3,b3] at this
 exact this.mono fun e w' ⟨r,h1,h2,h3⟩=>⟨r,h1,h2.more (by omega),h3⟩
theorem upE_le {s x l:Int} (h:upE s x l = 0):x - l≤16384:=by
 unfold upE at h
 by_cases h1:(up s x l).natAbs < TOP∧x - l≤16384
 ·exact h1.2
 ·rw [if_neg h1] at h;exact absurd h (by decide)
theorem radd_any (na nb:Bool) (ao bo:Option Addr) (ca cb:Nat) (A B:List Nat) (x y:Int) (w:World) (hA:LimbsAt w ao ca A) (hB:LimbsAt w bo cb B) (ra:rightB na A = true) (rb:rightB nb B = true) (hx:-16384≤x∧x≤16384) (hy:-16384≤y∧y≤16384) (e1:upE (sval na A) x (lowE (sval na A) x (sval nb B) y) = 0) (e2:upE (sval nb B) y (lowE (sval na A) x (sval nb B) y) = 0) :
  Calls Tryz.prog 19 #[.agg #[.bool na,.slice ao A.length ca,.int .i64 x],.agg #[.bool nb,.slice bo B.length cb,.int .i64 y]] w fun r w'=>∃ v,r = .returned v∧IsDy w' v (oM (sumZ (sval na A) x (sval nb B) y)) (oE (sumZ (sval na A) x (sval nb B) y) (lowE (sval na A) x (sval nb B) y))∧Below w.heap.size w w':=by
 have CL:=hide (fun w'=>low_any na nb ao bo ca cb A.length B.length x y w')
 have hlb:=lowR_bounds A.length B.length x y hx hy
 rw [lowR_E ra rb] at CL hlb
 have g1:A.length ≠ 0→lowE (sval na A) x (sval nb B) y≤x:=fun h=>by
  unfold lowE
  rw [if_neg (fun e=>h ((sval_zero_iff ra).1 e))]
  split <;> omega
 have g2:B.length ≠ 0→lowE (sval na A) x (sval nb B) y≤y:=fun h=>by
  unfold lowE
  split
  ·omega
  ·rw [if_neg (fun e=>h ((sval_zero_iff rb).1 e))];omega
 obtain ⟨z,hz⟩:∃ z,sumZ (sval na A) x (sval nb B) y = z:=⟨_,rfl⟩
 have hz2:z = up (sval na A) x (lowE (sval na A) x (sval nb B) y)+up (sval nb B) y (lowE (sval na A) x (sval nb B) y):=by rw [← hz];rfl
 rw [hz]
 clear hz
 generalize lowE (sval na A) x (sval nb B) y = l at *
 have CLA:=hide (fun w' h=>level_any na ao ca A x l w' h ra (fun h0=>⟨g1 h0,upE_le e1⟩) hx hlb)
 have CLB:=hide (fun w' h=>level_any nb bo cb B y l w' h rb (fun h0=>⟨g2 h0,upE_le e2⟩) hy hlb)
 have CAD:=hide (fun w' u v (iu:IsNum 0 w' u (up (sval na A) x l)) (iv:IsNum 0 w' v (up (sval nb B) y l))=>refAdd_num iu iv (upE_TOP e1) (upE_TOP e2))
 rw [← hz2] at CAD
 have CO:=hide (fun w' u B' (iu:IsNumM 513 B' w' u z)=>rof_small l iu (by decide) (by omega))
 clear ra rb e1 e2 hz2 g1 g2 hx hy
 generalize oE z l = ox at *
 generalize oM z = om at *
 generalize up (sval na A) x l = za at *
 generalize up (sval nb B) y l = zb at *
 obtain ⟨hl1,hl2⟩:=hlb
 have hb0:Below w.heap.size w (((w.alloc (.cells #[.bool na,.slice ao A.length ca,.int .i64 x] 35)).alloc (.cells #[.bool nb,.slice bo B.length cb,.int .i64 y] 35)).alloc (.cells #[.bool false,.slice none 0 0,.int .i64 0] 35)) :=
  (((Below.refl _ _).alloc (Nat.le_refl _) _).alloc (by simp) _).alloc (by simp;omega) _
 have x0:Box3 (((w.alloc (.cells #[.bool na,.slice ao A.length ca,.int .i64 x] 35)).alloc (.cells #[.bool nb,.slice bo B.length cb,.int .i64 y] 35)).alloc (.cells #[.bool false,.slice none 0 0,.int .i64 0] 35)) w.heap.size (.bool na) (.slice ao A.length ca) (.int .i64 x):=((Box3.new _ _ _ _).old _).old _
 have x1:Box3 (((w.alloc (.cells #[.bool na,.slice ao A.length ca,.int .i64 x] 35)).alloc (.cells #[.bool nb,.slice bo B.length cb,.int .i64 y] 35)).alloc (.cells #[.bool false,.slice none 0 0,.int .i64 0] 35)) (w.heap.size+1) (.bool nb) (.slice bo B.length cb) (.int .i64 y):=by
  have:=(Box3.new (w.alloc (.cells #[.bool na,.slice ao A.length ca,.int .i64 x] 35)) (.bool nb) (.slice bo B.length cb) (.int .i64 y)).old (.cells #[.bool false,.slice none 0 0,.int .i64 0] 35)
  simpa using this
 have x2:Box3 (((w.alloc (.cells #[.bool na,.slice ao A.length ca,.int .i64 x] 35)).alloc (.cells #[.bool nb,.slice bo B.length cb,.int .i64 y] 35)).alloc (.cells #[.bool false,.slice none 0 0,.int .i64 0] 35)) (w.heap.size+1+1) (.bool false) (.slice none 0 0) (.int .i64 0):=by
  have:=Box3.new ((w.alloc (.cells #[.bool na,.slice ao A.length ca,.int .i64 x] 35)).alloc (.cells #[.bool nb,.slice bo B.length cb,.int .i64 y] 35)) (.bool false) (.slice none 0 0) (.int .i64 0)
  simpa using this
 have B0:=hide hb0;have X0:=hide x0;have X1:=hide x1;have X2:=hide x2
 clear hb0 x0 x1 x2
 go_enter Tryz.func19,Tryz.ntmps19
 go_wp2_with fail
 refine (uH CL _).mono ?_
 rintro r w1 ⟨rfl,hb1⟩
 have x0:=(uH X0).all hb1;have x1:=(uH X1).all hb1;have x2:=(uH X2).all hb1
 have b1:=(uH B0).trans (hb1.mono (uH B0).size)
 have X0':=hide x0;have X1':=hide x1;have X2':=hide x2;have B1:=hide b1
 clear hb1 x0 x1 x2 b1 X0 X1 X2 B0 CL
 go_wp2_with fail
 refine at_world (fun W=>Below w.heap.size w W∧Box3 W w.heap.size (.bool na) (.slice ao A.length ca) (.int .i64 x)∧Box3 W (w.heap.size+1) (.bool nb) (.slice bo B.length cb) (.int .i64 y)∧Box3 W (w.heap.size+1+1) (.bool false) (.slice none 0 0) (.int .i64 0)) ⟨uH B1,uH X0',uH X1',uH X2'⟩ ?_
 clear B1 X0' X1' X2'
 rintro W0 ⟨b0,x0,x1,x2⟩
 have s0:w.heap.size+1+1 < W0.heap.size:=x2.lt
 have hK:∀ w',Below (w.heap.size+1+1) W0 w'→Below (w.heap.size+1+1) W0 w'∧w'.cell? ⟨w.heap.size,0,none⟩ = some (.bool na)∧w'.cell? ⟨w.heap.size,1,none⟩ = some (.slice ao A.length ca)∧w'.cell? ⟨w.heap.size,2,none⟩ = some (.int .i64 x)∧w'.cell? ⟨w.heap.size+1,0,none⟩ = some (.bool nb)∧w'.cell? ⟨w.heap.size+1,1,none⟩ = some (.slice bo B.length cb)∧w'.cell? ⟨w.heap.size+1,2,none⟩ = some (.int .i64 y):=fun w' h =>
  ⟨h,(x0.below h (by omega)).c0,(x0.below h (by omega)).c1,(x0.below h (by omega)).c2,(x1.below h (by omega)).c0,(x1.below h (by omega)).c1,(x1.below h (by omega)).c2⟩
 have HK:=hide hK;have BB:=hide b0;have X2:=hide x2
 clear hK b0 x0 x1 x2
 go_region_held3 (fun w'=>Below (w.heap.size+1+1) W0 w'∧w'.cell? ⟨w.heap.size,0,none⟩ = some (.bool na)∧w'.cell? ⟨w.heap.size,1,none⟩ = some (.slice ao A.length ca)∧w'.cell? ⟨w.heap.size,2,none⟩ = some (.int .i64 x)∧w'.cell? ⟨w.heap.size+1,0,none⟩ = some (.bool nb)∧w'.cell? ⟨w.heap.size+1,1,none⟩ = some (.slice bo B.length cb)∧w'.cell? ⟨w.heap.size+1,2,none⟩ = some (.int .i64 y))
  (first | exact uH HK _ (Below.refl _ _).drew | exact uH HK _ (by assumption) | exact uH HK _ (below_put3 hB4 (by omega) _ _ _))
  (first | (go_at_call_of 57 (Value.agg #[.bool na,.slice ao A.length ca,.int .i64 x]);refine (uH CLA _ (hA.below ((uH BB).trans ((Below.refl _ _).drew)))).mono ?_;rintro e w3 ⟨v,rfl,⟨n1,a1,c1,L1,rfl,i1⟩,hb1⟩;have hB1:Below (w.heap.size+1+1) W0 w3:=((Below.refl _ _).drew).trans (hb1.mono (by simp;omega));have X3:=hide ((uH X2).drew.below hb1 (by simp;omega));have IA:=hide (show IsNum 0 w3 (.agg #[.bool n1,.slice a1 L1.length c1]) za from ⟨n1,a1,c1,L1,rfl,i1⟩);have s1:w.heap.size+1+1 < w3.heap.size:=(by have:=hb1.size;simp at this;omega);have BB1:=hide ((uH BB).trans (hB1.mono (by omega)));clear hb1 i1) | (go_at_call_of 57 (Value.agg #[.bool nb,.slice bo B.length cb,.int .i64 y]);refine (uH CLB _ (hB.below (uH BB1))).mono ?_;rintro e w4 ⟨v,rfl,⟨n2,a2,c2,L2,rfl,i2⟩,hb2⟩;have hB2:Below (w.heap.size+1+1) W0 w4:=hB1.trans (hb2.mono (by omega));have X4:=hide ((uH X3).below hb2 (by omega));have IA2:=hide ((uH IA).below hb2);have IB:=hide (show IsNum 0 w4 (.agg #[.bool n2,.slice a2 L2.length c2]) zb from ⟨n2,a2,c2,L2,rfl,i2⟩);have s2:w.heap.size+1+1 < w4.heap.size:=(by have:=hb2.size;omega);have BB2:=hide ((uH BB1).trans (hb2.mono (by omega)));clear hb2 i2) | (go_at_call 56;refine (uH CAD _ _ _ (uH IA2) (uH IB)).mono ?_;rintro e w5 ⟨v,rfl,⟨n3,a3,c3,L3,rfl,i3⟩,hb3⟩;have hB3:Below (w.heap.size+1+1) W0 w5:=hB2.trans (hb3.mono (by omega));have X5:=hide ((uH X4).below hb3 (by omega));have IZ:=hide (show IsNumM 513 w4.heap.size w5 (.agg #[.bool n3,.slice a3 L3.length c3]) z from ⟨n3,a3,c3,L3,rfl,i3⟩);have s3:w.heap.size+1+1 < w5.heap.size:=(by have:=hb3.size;omega);have BB3:=hide ((uH BB2).trans (hb3.mono (by omega)));clear hb3 i3) | (go_at_call 27;refine (uH CO _ _ _ (uH IZ)).mono ?_;rintro e w6 ⟨u,rfl,iu,hb4⟩;obtain ⟨n5,a5,c5,L5,rfl,i5⟩:=iu.num;have hB4:Below (w.heap.size+1+1) W0 w6:=hB3.trans (hb4.mono (by omega));have X6:=(uH X5).below hb4 (by omega);have y0:=X6.c0;have y1:=X6.c1;have y2:=X6.c2;have f0:=X6.free 0;have f1:=X6.free 1;have f2:=X6.free 2;have IU:=hide iu;have X7:=hide X6;have BB4:=hide ((uH BB3).trans (hb4.mono (by omega)));clear hb4 iu i5 X6))
 go_wp2
 refine bodyPost_ret (v:=.agg #[.bool n5,.slice a5 L5.length c5,.int .i64 ox]) (by simp [results,Tryz.results19,go_sem,y0,y1,y2]) rfl ⟨_,rfl,(uH IU).put3 (uH X7) _ _ _,below_put3 (uH BB4) (by omega) _ _ _⟩
theorem rsub_any (na nb:Bool) (ao bo:Option Addr) (ca cb:Nat) (A B:List Nat) (x y:Int) (w:World) (hA:LimbsAt w ao ca A) (hB:LimbsAt w bo cb B) (ra:rightB na A = true) (rb:rightB nb B = true) (hx:-16384≤x∧x≤16384) (hy:-16384≤y∧y≤16384) (e1:upE (sval na A) x (lowE (sval na A) x (- sval nb B) y) = 0) (e2:upE (- sval nb B) y (lowE (sval na A) x (- sval nb B) y) = 0) :
  Calls Tryz.prog 58 #[.agg #[.bool na,.slice ao A.length ca,.int .i64 x],.agg #[.bool nb,.slice bo B.length cb,.int .i64 y]] w fun r w'=>∃ v,r = .returned v∧IsDy w' v (oM (sumZ (sval na A) x (- sval nb B) y)) (oE (sumZ (sval na A) x (- sval nb B) y) (lowE (sval na A) x (- sval nb B) y))∧Below w.heap.size w w':=by
 have lb:=(right_canon rb).1
 have tb:=sval_TOP hB rb
 have CN:=hide (fun w' h=>rneg_any nb bo cb B y w' h lb)
 have CAD:=hide (fun w' u (h:LimbsAt w' ao ca A) (iu:IsDy w' u (- sval nb B) y)=>show Calls Tryz.prog 19 #[.agg #[.bool na,.slice ao A.length ca,.int .i64 x],u] w' fun r w''=>∃ v,r = .returned v∧IsDy w'' v (oM (sumZ (sval na A) x (- sval nb B) y)) (oE (sumZ (sval na A) x (- sval nb B) y) (lowE (sval na A) x (- sval nb B) y))∧Below w'.heap.size w' w'' by
  obtain ⟨n1,a1,c1,L1,rfl,q1,q2,q3,q4,q5⟩:=iu.right (by rw [Int.natAbs_neg];exact tb)
  have:=radd_any na n1 ao a1 ca c1 A L1 x y w' h q1 ra q2 hx hy (by rw [q3];exact e1) (by rw [q3];exact e2)
  rwa [q3] at this)
 clear ra rb hx hy e1 e2 tb
 generalize oE (sumZ (sval na A) x (- sval nb B) y) (lowE (sval na A) x (- sval nb B) y) = ox at *
 generalize oM (sumZ (sval na A) x (- sval nb B) y) = om at *
 generalize - sval nb B = sb at *
 have hb0:Below w.heap.size w (((w.alloc (.cells #[.bool na,.slice ao A.length ca,.int .i64 x] 35)).alloc (.cells #[.bool nb,.slice bo B.length cb,.int .i64 y] 35)).alloc (.cells #[.bool false,.slice none 0 0,.int .i64 0] 35)) :=
  (((Below.refl _ _).alloc (Nat.le_refl _) _).alloc (by simp) _).alloc (by simp;omega) _
 have x0:Box3 (((w.alloc (.cells #[.bool na,.slice ao A.length ca,.int .i64 x] 35)).alloc (.cells #[.bool nb,.slice bo B.length cb,.int .i64 y] 35)).alloc (.cells #[.bool false,.slice none 0 0,.int .i64 0] 35)) w.heap.size (.bool na) (.slice ao A.length ca) (.int .i64 x):=((Box3.new _ _ _ _).old _).old _
 have x1:Box3 (((w.alloc (.cells #[.bool na,.slice ao A.length ca,.int .i64 x] 35)).alloc (.cells #[.bool nb,.slice bo B.length cb,.int .i64 y] 35)).alloc (.cells #[.bool false,.slice none 0 0,.int .i64 0] 35)) (w.heap.size+1) (.bool nb) (.slice bo B.length cb) (.int .i64 y):=by
  have:=(Box3.new (w.alloc (.cells #[.bool na,.slice ao A.length ca,.int .i64 x] 35)) (.bool nb) (.slice bo B.length cb) (.int .i64 y)).old (.cells #[.bool false,.slice none 0 0,.int .i64 0] 35)
  simpa using this
 have x2:Box3 (((w.alloc (.cells #[.bool na,.slice ao A.length ca,.int .i64 x] 35)).alloc (.cells #[.bool nb,.slice bo B.length cb,.int .i64 y] 35)).alloc (.cells #[.bool false,.slice none 0 0,.int .i64 0] 35)) (w.heap.size+1+1) (.bool false) (.slice none 0 0) (.int .i64 0):=by
  have:=Box3.new ((w.alloc (.cells #[.bool na,.slice ao A.length ca,.int .i64 x] 35)).alloc (.cells #[.bool nb,.slice bo B.length cb,.int .i64 y] 35)) (.bool false) (.slice none 0 0) (.int .i64 0)
  simpa using this
 have B0:=hide hb0;have X0:=hide x0;have X1:=hide x1;have X2:=hide x2
 clear hb0 x0 x1 x2
 go_enter Tryz.func58,Tryz.ntmps58
 go_wp2_with fail
 refine at_world (fun W=>Below w.heap.size w W∧Box3 W w.heap.size (.bool na) (.slice ao A.length ca) (.int .i64 x)∧Box3 W (w.heap.size+1) (.bool nb) (.slice bo B.length cb) (.int .i64 y)∧Box3 W (w.heap.size+1+1) (.bool false) (.slice none 0 0) (.int .i64 0)) ⟨uH B0,uH X0,uH X1,uH X2⟩ ?_
 clear B0 X0 X1 X2
 rintro W0 ⟨b0,x0,x1,x2⟩
 have s0:w.heap.size+1+1 < W0.heap.size:=x2.lt
 have hK:∀ w',Below (w.heap.size+1+1) W0 w'→Below (w.heap.size+1+1) W0 w'∧w'.cell? ⟨w.heap.size,0,none⟩ = some (.bool na)∧w'.cell? ⟨w.heap.size,1,none⟩ = some (.slice ao A.length ca)∧w'.cell? ⟨w.heap.size,2,none⟩ = some (.int .i64 x)∧w'.cell? ⟨w.heap.size+1,0,none⟩ = some (.bool nb)∧w'.cell? ⟨w.heap.size+1,1,none⟩ = some (.slice bo B.length cb)∧w'.cell? ⟨w.heap.size+1,2,none⟩ = some (.int .i64 y):=fun w' h =>
  ⟨h,(x0.below h (by omega)).c0,(x0.below h (by omega)).c1,(x0.below h (by omega)).c2,(x1.below h (by omega)).c0,(x1.below h (by omega)).c1,(x1.below h (by omega)).c2⟩
 have HK:=hide hK;have BB:=hide b0;have X2:=hide x2
 clear hK b0 x0 x1 x2
 go_region_held3 (fun w'=>Below (w.heap.size+1+1) W0 w'∧w'.cell? ⟨w.heap.size,0,none⟩ = some (.bool na)∧w'.cell? ⟨w.heap.size,1,none⟩ = some (.slice ao A.length ca)∧w'.cell? ⟨w.heap.size,2,none⟩ = some (.int .i64 x)∧w'.cell? ⟨w.heap.size+1,0,none⟩ = some (.bool nb)∧w'.cell? ⟨w.heap.size+1,1,none⟩ = some (.slice bo B.length cb)∧w'.cell? ⟨w.heap.size+1,2,none⟩ = some (.int .i64 y))
  (first | exact uH HK _ (Below.refl _ _).drew | exact uH HK _ (by assumption) | exact uH HK _ (below_put3 hB4 (by omega) _ _ _))
  (first | (go_at_call 112;refine (uH CN _ (hB.below ((uH BB).trans ((Below.refl _ _).drew)))).mono ?_;rintro e w3 ⟨v,rfl,iv,hb1⟩;obtain ⟨n1,a1,c1,L1,rfl,i1⟩:=iv.num;have hB1:Below (w.heap.size+1+1) W0 w3:=((Below.refl _ _).drew).trans (hb1.mono (by simp;omega));have X3:=hide ((uH X2).drew.below hb1 (by simp;omega));have IN:=hide iv;have s1:w.heap.size+1+1 < w3.heap.size:=(by have:=hb1.size;simp at this;omega);have BB1:=hide ((uH BB).trans (hB1.mono (by omega)));clear hb1 i1 iv) | (go_at_call 19;refine (uH CAD _ _ (hA.below (uH BB1)) (uH IN)).mono ?_;rintro e w6 ⟨u,rfl,iu,hb4⟩;obtain ⟨n5,a5,c5,L5,rfl,i5⟩:=iu.num;have hB4:Below (w.heap.size+1+1) W0 w6:=hB1.trans (hb4.mono (by omega));have X6:=(uH X3).below hb4 (by omega);have y0:=X6.c0;have y1:=X6.c1;have y2:=X6.c2;have f0:=X6.free 0;have f1:=X6.free 1;have f2:=X6.free 2;have IU:=hide iu;have X7:=hide X6;have BB4:=hide ((uH BB1).trans (hb4.mono (by omega)));clear hb4 iu i5 X6))
 go_wp2
 refine bodyPost_ret (v:=.agg #[.bool n5,.slice a5 L5.length c5,.int .i64 ox]) (by simp [results,Tryz.results58,go_sem,y0,y1,y2]) rfl ⟨_,rfl,(uH IU).put3 (uH X7) _ _ _,below_put3 (uH BB4) (by omega) _ _ _⟩
end Go.Proofs.YtcbcmlaogehimaaGreatDoor
namespace Go.Proofs.YtcbcmlaogehimaaGreatDoor
open Go.RowKit
theorem up_neg (s x l:Int):up (-s) x l = - up s x l:=by unfold up;rw [Int.neg_mul]
theorem upE_neg (s x l:Int):upE (-s) x l = upE s x l:=by unfold upE;rw [up_neg,Int.natAbs_neg]
theorem lowE_neg (sa x sb y:Int):lowE sa x (-sb) y = lowE sa x sb y:=by
 unfold lowE
 by_cases h:sb = 0
 ·subst h;rfl
 ·rw [if_neg h,if_neg (show ¬ -sb = 0 by omega)]
end Go.Proofs.YtcbcmlaogehimaaGreatDoor
namespace Go.Proofs.YtcbcmlaogehimaaGreatDoor
open Go.RowKit
attribute [local go_sem ↓] Go.wp_at_zero Go.wp_at_succ
theorem ad_fits {sa x sb y:Int} (e1:upE sa x (lowE sa x sb y) = 0) (e2:upE sb y (lowE sa x sb y) = 0) (hz:(sumZ sa x sb y).natAbs < TOP) :
  adE sa x sb y = dErr (sumZ sa x sb y) (lowE sa x sb y)∧adM sa x sb y = dM (sumZ sa x sb y) (lowE sa x sb y)∧adX sa x sb y = dX (sumZ sa x sb y) (lowE sa x sb y):=by
 have hf:fitsB sa x sb y = true:=decide_eq_true ⟨e1,e2,hz⟩
 unfold adE adM adX
 rw [hf]
 exact ⟨rfl,rfl,rfl⟩
end Go.Proofs.YtcbcmlaogehimaaGreatDoor
