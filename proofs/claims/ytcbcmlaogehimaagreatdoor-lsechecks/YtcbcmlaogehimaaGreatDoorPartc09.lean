/- Part 9 of the texts. -/
import Derived.Test.YtcbcmlaogehimaaGreatDoorPartc08
set_option maxHeartbeats 4000000
namespace Go.Proofs.YtcbcmlaogehimaaGreatDoor
open Go.RowKit
theorem oM_le (z:Int):(oM z).natAbs≤z.natAbs:=by
 by_cases h:z = 0
 ·subst h;simp [oM]
 ·have hO:=oddOf z h
  have e1:z.natAbs = (oM z).natAbs * 2 ^ tz z.natAbs:=by
   conv=>lhs;rw [hO.1]
   rw [Int.natAbs_mul,Int.natAbs_pow]
   rfl
  rw [e1]
  exact Nat.le_mul_of_pos_right _ (Nat.pow_pos (by decide))
theorem oM_zero:oM 0 = 0:=by simp [oM]
theorem oE_zero (e:Int):oE 0 e = 0:=by simp [oE]
theorem oM_ne (z:Int) (h:z ≠ 0):oM z ≠ 0∧oM z % 2 = 1:=by
 have hO:=(oddOf z h).2
 exact ⟨fun e=>by rw [e] at hO;simp at hO,hO⟩
theorem oE_ne (z e:Int) (h:z ≠ 0):oE z e = e+tz z.natAbs:=by unfold oE;rw [if_neg h]
theorem dOk_rt (z e:Int) (he:-32768≤e∧e≤32768):dRt (oM z) (oE z e) = dOk z e:=by
 unfold dOk dRt
 rw [decide_eq_true he,Bool.true_and]
 by_cases h:z = 0
 ·subst h
  rw [oM_zero,oE_zero];simp
 ·obtain ⟨h1,h2⟩:=oM_ne z h
  rw [if_neg h1,decide_eq_true h2,oE_ne z e h,decide_eq_false h]
  simp
theorem told_make (z e:Int) (he:-32768≤e∧e≤32768) :
  (dRt (oM z) (oE z e) = true→dErr z e = 0∧dM z e = oM z∧dX z e = oE z e)∧(dRt (oM z) (oE z e) = false→dErr z e = 2∧dM z e = 0∧dX z e = 0):=by
 rw [dOk_rt z e he]
 constructor <;> intro h <;> simp [dErr,dM,dX,h]
end Go.Proofs.YtcbcmlaogehimaaGreatDoor
namespace Go.Proofs.YtcbcmlaogehimaaGreatDoor
open Go.RowKit
attribute [local go_sem ↓] Go.wp_at_zero Go.wp_at_succ
def up (s x l:Int):Int:=s * 2 ^ (x - l).toNat
theorem shV_upto (na:Bool) (A:List Nat) (n:Int) (h:0≤n):shV na A n = sval na A * 2 ^ n.toNat:=by
 rw [shV_shF,sval_sg]
 unfold shF
 rw [if_pos h]
 unfold sg
 cases na
 ·simp
 ·simp [Int.neg_mul]
def upE (s x l:Int):Int:=if (up s x l).natAbs < TOP∧x - l≤16384 then 0 else 2
def upN (s x l:Int):Int:=if (up s x l).natAbs < TOP∧x - l≤16384 then up s x l else 0
theorem shift_up (na:Bool) (A:List Nat) (x l:Int) (hr:rightB na A = true) (h:l≤x):shE na A (x - l) = upE (sval na A) x l∧shN na A (x - l) = upN (sval na A) x l:=by
 unfold shE shN shOk upE upN
 rw [hr,shV_upto na A (x - l) (by omega)]
 change (if (true && decide (-16384≤x - l∧x - l≤16384)) = true then errOf (up (sval na A) x l) else if true = true then 2 else 1) = _∧(if (true && decide (-16384≤x - l∧x - l≤16384)) = true then numOf (up (sval na A) x l) else 0) = _
 rw [Bool.true_and]
 by_cases h1:x - l≤16384
 ·rw [if_pos (decide_eq_true (show -16384≤x - l∧x - l≤16384 by omega)),if_pos (decide_eq_true (show -16384≤x - l∧x - l≤16384 by omega))]
  unfold errOf numOf
  by_cases h2:(up (sval na A) x l).natAbs < TOP
  ·rw [if_pos h2,if_pos h2,if_pos ⟨h2,h1⟩,if_pos ⟨h2,h1⟩];exact ⟨rfl,rfl⟩
  ·rw [if_neg h2,if_neg h2,if_neg (fun h=>h2 h.1),if_neg (fun h=>h2 h.1)];exact ⟨rfl,rfl⟩
 ·have hd:decide (-16384≤x - l∧x - l≤16384) = false:=decide_eq_false (by omega)
  rw [hd,if_neg (show ¬ ((up (sval na A) x l).natAbs < TOP∧x - l≤16384) from fun h=>h1 h.2),if_neg (show ¬ ((up (sval na A) x l).natAbs < TOP∧x - l≤16384) from fun h=>h1 h.2)]
  exact ⟨by simp,by simp⟩
theorem up_cases (s x l:Int):(upE s x l = 0∧upN s x l = up s x l) ∨ upE s x l = 2:=by
 unfold upE upN
 by_cases h:(up s x l).natAbs < TOP∧x - l≤16384
 ·rw [if_pos h,if_pos h];exact .inl ⟨rfl,rfl⟩
 ·rw [if_neg h];exact .inr rfl
theorem IsNum.put2 {B:Nat} {w:World} {v:Value} {x:Int} (h:IsNum B w v x) {p q:Addr} (hp:p.block < B) (hq:q.block < B) (u u':Value):IsNum B ((w.setCell p u).setCell q u') v x:=by
 obtain ⟨n,ao,cap,L,rfl,h1,h2,h3⟩:=h
 exact ⟨n,ao,cap,L,rfl,(h1.store h2 hp u).store h2 hq u',h2,h3⟩
theorem below_put2 {w w':World} {B b:Nat} (h:Below B w w') (hb:B≤b) (u u':Value):Below B w ((w'.setCell ⟨b,0,none⟩ u).setCell ⟨b,1,none⟩ u') :=
 (h.setCell hb _).setCell hb _
theorem ends_a {w:World} {b c:Nat} {x0 x1 y0 y1:Value} (h2:Box2 w b x0 x1) (h3:Box2 w c y0 y1) (hne:b ≠ c) (u0 u1 v0 v1:Value) :
  Box2 ((((((w.setCell ⟨c,0,none⟩ v0).setCell ⟨c,1,none⟩ v1).setCell ⟨b,0,none⟩ u0).setCell ⟨b,1,none⟩ u1).setCell ⟨c,0,none⟩ v0).setCell ⟨c,1,none⟩ v1) b u0 u1 ∧
  Box2 ((((((w.setCell ⟨c,0,none⟩ v0).setCell ⟨c,1,none⟩ v1).setCell ⟨b,0,none⟩ u0).setCell ⟨b,1,none⟩ u1).setCell ⟨c,0,none⟩ v0).setCell ⟨c,1,none⟩ v1) c v0 v1 :=
 ⟨((((h2.other (p:=⟨c,0,none⟩) hne v0).other (p:=⟨c,1,none⟩) hne v1).put u0 u1).other (p:=⟨c,0,none⟩) hne v0).other (p:=⟨c,1,none⟩) hne v1,
  (((h3.put v0 v1).other (p:=⟨b,0,none⟩) (Ne.symm hne) u0).other (p:=⟨b,1,none⟩) (Ne.symm hne) u1).put v0 v1⟩
theorem ends_b {w:World} {b c:Nat} {x0 x1 y0 y1:Value} (h2:Box2 w b x0 x1) (h3:Box2 w c y0 y1) (hne:b ≠ c) (u0 u1 v0 v1:Value) :
  Box2 ((((((w.setCell ⟨b,0,none⟩ u0).setCell ⟨b,1,none⟩ u1).setCell ⟨b,0,none⟩ u0).setCell ⟨b,1,none⟩ u1).setCell ⟨c,0,none⟩ v0).setCell ⟨c,1,none⟩ v1) b u0 u1 ∧
  Box2 ((((((w.setCell ⟨b,0,none⟩ u0).setCell ⟨b,1,none⟩ u1).setCell ⟨b,0,none⟩ u0).setCell ⟨b,1,none⟩ u1).setCell ⟨c,0,none⟩ v0).setCell ⟨c,1,none⟩ v1) c v0 v1 :=
 ⟨(((h2.put u0 u1).put u0 u1).other (p:=⟨c,0,none⟩) hne v0).other (p:=⟨c,1,none⟩) hne v1,
  ((((h3.other (p:=⟨b,0,none⟩) (Ne.symm hne) u0).other (p:=⟨b,1,none⟩) (Ne.symm hne) u1).other (p:=⟨b,0,none⟩) (Ne.symm hne) u0).other (p:=⟨b,1,none⟩) (Ne.symm hne) u1).put v0 v1⟩
def AlignR (w':World) (r:Ending) (ea eb za zb:Int):Prop :=
 ∃ (n1:Bool) (a1:Option Addr) (l1 c1:Nat) (n2:Bool) (a2:Option Addr) (l2 c2:Nat) (er:Int),r = .returned (.tuple #[.agg #[.bool n1,.slice a1 l1 c1],.agg #[.bool n2,.slice a2 l2 c2],.int .i64 er])∧(ea = 0→eb = 0→er = 0∧IsNum 0 w' (.agg #[.bool n1,.slice a1 l1 c1]) za∧IsNum 0 w' (.agg #[.bool n2,.slice a2 l2 c2]) zb)∧(¬ (ea = 0∧eb = 0)→er = 2)
theorem align_any (na nb:Bool) (ao bo:Option Addr) (ca cb:Nat) (A B:List Nat) (x y l:Int) (w:World) (hA:LimbsAt w ao ca A) (hB:LimbsAt w bo cb B) (ra:rightB na A = true) (rb:rightB nb B = true) (bx:-16384≤x∧x≤16384) (by':-16384≤y∧y≤16384) (hl:l = min x y) :
  Calls Tryz.prog 294 #[.agg #[.bool na,.slice ao A.length ca,.int .i64 x],.agg #[.bool nb,.slice bo B.length cb,.int .i64 y]] w fun r w'=>AlignR w' r (upE (sval na A) x l) (upE (sval nb B) y l) (up (sval na A) x l) (up (sval nb B) y l)∧Below w.heap.size w w':=by
 have la:=(right_canon ra).1
 have lb:=(right_canon rb).1
 have hxl:l≤x:=by omega
 have hyl:l≤y:=by omega
 have CA:=hide (fun n w' h (e:n = x - l)=>show Calls Tryz.prog 238 #[.agg #[.bool na,.slice ao A.length ca],.int .i64 n] w' fun e w''=>∃ v,e = .returned (.tuple #[v,.int .i64 (upE (sval na A) x l)])∧IsNum w'.heap.size w'' v (upN (sval na A) x l)∧Below w'.heap.size w' w'' by
  have:=shift_any na ao ca A n w' h (by omega) (by omega)
  rwa [e,(shift_up na A x l ra hxl).1,(shift_up na A x l ra hxl).2,← e] at this)
 have CB:=hide (fun n w' h (e:n = y - l)=>show Calls Tryz.prog 238 #[.agg #[.bool nb,.slice bo B.length cb],.int .i64 n] w' fun e w''=>∃ v,e = .returned (.tuple #[v,.int .i64 (upE (sval nb B) y l)])∧IsNum w'.heap.size w'' v (upN (sval nb B) y l)∧Below w'.heap.size w' w'' by
  have:=shift_any nb bo cb B n w' h (by omega) (by omega)
  rwa [e,(shift_up nb B y l rb hyl).1,(shift_up nb B y l rb hyl).2,← e] at this)
 have HA:=hide (up_cases (sval na A) x l)
 have HB:=hide (up_cases (sval nb B) y l)
 have HL:=hide hl
 clear hl ra rb hxl hyl
 generalize upE (sval na A) x l = ea at *
 generalize upE (sval nb B) y l = eb at *
 generalize upN (sval na A) x l = ua at *
 generalize upN (sval nb B) y l = ub at *
 generalize up (sval na A) x l = za at *
 generalize up (sval nb B) y l = zb at *
 obtain ⟨bx1,bx2⟩:=bx
 obtain ⟨by1,by2⟩:=by'
 have hb0:Below w.heap.size w ((((w.alloc (.cells #[.bool na,.slice ao A.length ca,.int .i64 x] 35)).alloc (.cells #[.bool nb,.slice bo B.length cb,.int .i64 y] 35)).alloc (.cells #[.bool false,.slice none 0 0] 33)).alloc (.cells #[.bool false,.slice none 0 0] 33)) :=
  ((((Below.refl _ _).alloc (Nat.le_refl _) _).alloc (by simp) _).alloc (by simp;omega) _).alloc (by simp;omega) _
 have x1:Box3 ((((w.alloc (.cells #[.bool na,.slice ao A.length ca,.int .i64 x] 35)).alloc (.cells #[.bool nb,.slice bo B.length cb,.int .i64 y] 35)).alloc (.cells #[.bool false,.slice none 0 0] 33)).alloc (.cells #[.bool false,.slice none 0 0] 33)) (w.heap.size+1) (.bool nb) (.slice bo B.length cb) (.int .i64 y):=by
  have:=((Box3.new (w.alloc (.cells #[.bool na,.slice ao A.length ca,.int .i64 x] 35)) (.bool nb) (.slice bo B.length cb) (.int .i64 y)).old (.cells #[.bool false,.slice none 0 0] 33)).old (.cells #[.bool false,.slice none 0 0] 33)
  simpa using this
 have x2:Box2 ((((w.alloc (.cells #[.bool na,.slice ao A.length ca,.int .i64 x] 35)).alloc (.cells #[.bool nb,.slice bo B.length cb,.int .i64 y] 35)).alloc (.cells #[.bool false,.slice none 0 0] 33)).alloc (.cells #[.bool false,.slice none 0 0] 33)) (w.heap.size+1+1) (.bool false) (.slice none 0 0):=by
  have:=(Box2.new ((w.alloc (.cells #[.bool na,.slice ao A.length ca,.int .i64 x] 35)).alloc (.cells #[.bool nb,.slice bo B.length cb,.int .i64 y] 35)) (.bool false) (.slice none 0 0)).old (.cells #[.bool false,.slice none 0 0] 33)
  simpa using this
 have x3:Box2 ((((w.alloc (.cells #[.bool na,.slice ao A.length ca,.int .i64 x] 35)).alloc (.cells #[.bool nb,.slice bo B.length cb,.int .i64 y] 35)).alloc (.cells #[.bool false,.slice none 0 0] 33)).alloc (.cells #[.bool false,.slice none 0 0] 33)) (w.heap.size+1+1+1) (.bool false) (.slice none 0 0):=by
  have:=Box2.new (((w.alloc (.cells #[.bool na,.slice ao A.length ca,.int .i64 x] 35)).alloc (.cells #[.bool nb,.slice bo B.length cb,.int .i64 y] 35)).alloc (.cells #[.bool false,.slice none 0 0] 33)) (.bool false) (.slice none 0 0)
  simpa using this
 have B0:=hide hb0;have X1:=hide x1;have X2:=hide x2;have X3:=hide x3
 clear hb0 x1 x2 x3
 rcases (show x < y ∨ x = y ∨ y < x by omega) with hxy | hxy | hxy
 all_goals
  first | subst hxy | skip
  go_enter Tryz.func294,Tryz.ntmps294
  go_wp2_with fail
  refine (uH CA _ _ (hA.below (uH B0)) (by have:=uH HL;omega)).mono ?_
  rintro r w1 ⟨v1,rfl,⟨n1,a1,c1,L1,rfl,i1⟩,hb1⟩
  have x1:=(uH X1).all hb1;have x2:=(uH X2).all hb1;have x3:=(uH X3).all hb1
  have b1:=(uH B0).trans (hb1.mono (uH B0).size)
  have hs:w.heap.size+4≤w1.heap.size:=by have:=hb1.size;simp at this;omega
  have i1':IsNum (w.heap.size+4) w1 (.agg #[.bool n1,.slice a1 L1.length c1]) ua:=by
   refine IsNum.mono ⟨n1,a1,c1,L1,rfl,i1⟩ (by simp)
  have p0:=x1.c0;have p1:=x1.c1;have p2:=x1.c2
  have q0:=x2.c0;have q1:=x2.c1;have f0:=x2.free 0;have f1:=x2.free 1
  have X1':=hide x1;have X2':=hide x2;have X3':=hide x3;have B1:=hide b1;have I1:=hide i1'
  clear hb1 x1 x2 x3 b1 i1 i1' X1 X2 X3 B0
  have s0:=(uH X3').c0;have s1:=(uH X3').c1;have g0:=(uH X3').free 0;have g1:=(uH X3').free 1
  rcases uH HA with ⟨rfl,hu⟩ | rfl
  ·have HU:=hide hu
   clear HA CA hu
   go_wp2_with fail
   have b2:=below_put2 (uH B1) (show w.heap.size≤w.heap.size+1+1 by omega) (.bool n1) (.slice a1 L1.length c1)
   refine (uH CB _ _ (hB.below b2) (by have:=uH HL;omega)).mono ?_
   rintro r w2 ⟨v2,rfl,⟨n2,a2,c2,L2,rfl,i2⟩,hb2⟩
   have hs2:w.heap.size+4≤w2.heap.size:=by have:=hb2.size;simp at this;omega
   have y2:=((uH X2').put (.bool n1) (.slice a1 L1.length c1)).all hb2
   have y3:=(((uH X3').other (p:=⟨w.heap.size+1+1,0,none⟩) (by simp) (.bool n1)).other (p:=⟨w.heap.size+1+1,1,none⟩) (by simp) (.slice a1 L1.length c1)).all hb2
   have b3:=b2.trans (hb2.mono b2.size)
   have j1:IsNum (w.heap.size+4) w2 (.agg #[.bool n1,.slice a1 L1.length c1]) ua:=((uH I1).put2 (p:=⟨w.heap.size+1+1,0,none⟩) (q:=⟨w.heap.size+1+1,1,none⟩) (by simp) (by simp) (.bool n1) (.slice a1 L1.length c1)).below hb2
   have j2:IsNum (w.heap.size+4) w2 (.agg #[.bool n2,.slice a2 L2.length c2]) ub:=IsNum.mono ⟨n2,a2,c2,L2,rfl,i2⟩ (by simp;omega)
   clear q0 q1 f0 f1 s0 s1 g0 g1 p0 p1 p2 X1' X2' X3' I1 B1 hb2 i2 CB
   have q0:=y2.c0;have q1:=y2.c1;have f0:=y2.free 0;have f1:=y2.free 1
   have s0:=y3.c0;have s1:=y3.c1;have g0:=y3.free 0;have g1:=y3.free 1
   have B3:=hide b3;have J1:=hide j1;have J2:=hide j2
   have EE:=hide (fun u0 u1 v0 v1=>ends_a y2 y3 (by omega) u0 u1 v0 v1)
   clear b2 b3 y2 y3 j1 j2
   rcases uH HB with ⟨rfl,hv⟩ | rfl
   ·have HV:=hide hv
    clear HB hv
    go_wp2
    go_region_with fail
    all_goals
     go_wp2
     obtain ⟨E1,E2⟩:=uH EE (.bool n1) (.slice a1 L1.length c1) (.bool n2) (.slice a2 L2.length c2)
     have z0:=E1.c0;have z1:=E1.c1;have z2:=E2.c0;have z3:=E2.c1
     refine bodyPost_ret (v:=.tuple #[.agg #[.bool n1,.slice a1 L1.length c1],.agg #[.bool n2,.slice a2 L2.length c2],.int .i64 0]) (by simp [results,Tryz.results294,go_sem,z0,z1,z2,z3]) rfl ⟨⟨n1,a1,L1.length,c1,n2,a2,L2.length,c2,0,rfl,?_,?_⟩,?_⟩
     ·intro _ _
      rw [← uH HU,← uH HV]
      exact ⟨rfl,((((((uH J1).put2 (by simp) (by simp) _ _).put2 (by simp) (by simp) _ _).put2 (by simp) (by simp) _ _).below ((Below.refl _ _).drew)).mono (Nat.zero_le _)),((((((uH J2).put2 (by simp) (by simp) _ _).put2 (by simp) (by simp) _ _).put2 (by simp) (by simp) _ _).below ((Below.refl _ _).drew)).mono (Nat.zero_le _))⟩
     ·intro h;exact absurd ⟨rfl,rfl⟩ h
     ·exact (below_put2 (below_put2 (below_put2 (uH B3) (by omega) _ _) (by omega) _ _) (by omega) _ _).drew
   ·clear HB
    go_wp2
    go_region_with fail
    all_goals
     go_wp2
     obtain ⟨E1,E2⟩:=uH EE (.bool n1) (.slice a1 L1.length c1) (.bool n2) (.slice a2 L2.length c2)
     have z0:=E1.c0;have z1:=E1.c1;have z2:=E2.c0;have z3:=E2.c1
     refine bodyPost_ret (v:=.tuple #[.agg #[.bool n1,.slice a1 L1.length c1],.agg #[.bool n2,.slice a2 L2.length c2],.int .i64 2]) (by simp [results,Tryz.results294,go_sem,z0,z1,z2,z3]) rfl ⟨⟨n1,a1,L1.length,c1,n2,a2,L2.length,c2,2,rfl,?_,fun _=>rfl⟩,?_⟩
     ·intro _ h;exact absurd h (by decide)
     ·exact (below_put2 (below_put2 (below_put2 (uH B3) (by omega) _ _) (by omega) _ _) (by omega) _ _).drew
  ·clear HA HB CA CB
   go_wp2
   go_region_with fail
   all_goals
    go_wp2
    obtain ⟨E1,E2⟩:=ends_b (uH X2') (uH X3') (by omega) (.bool n1) (.slice a1 L1.length c1) (.bool false) (.slice none 0 0)
    have z0:=E1.c0;have z1:=E1.c1;have z2:=E2.c0;have z3:=E2.c1
    refine bodyPost_ret (v:=.tuple #[.agg #[.bool n1,.slice a1 L1.length c1],.agg #[.bool false,.slice none 0 0],.int .i64 2]) (by simp [results,Tryz.results294,go_sem,z0,z1,z2,z3]) rfl ⟨⟨n1,a1,L1.length,c1,false,none,0,0,2,rfl,?_,fun _=>rfl⟩,?_⟩
    ·intro h;exact absurd h (by decide)
    ·exact (below_put2 (below_put2 (below_put2 (uH B1) (by omega) _ _) (by omega) _ _) (by omega) _ _).drew
end Go.Proofs.YtcbcmlaogehimaaGreatDoor
namespace Go.Proofs.YtcbcmlaogehimaaGreatDoor
open Go.RowKit
attribute [local go_sem ↓] Go.wp_at_zero Go.wp_at_succ
def lowE (sa x sb y:Int):Int:=if sa = 0 then y else if sb = 0 then x else min x y
def sumZ (sa x sb y:Int):Int:=up sa x (lowE sa x sb y)+up sb y (lowE sa x sb y)
def fitsB (sa x sb y:Int):Bool:=decide (upE sa x (lowE sa x sb y) = 0∧upE sb y (lowE sa x sb y) = 0∧(sumZ sa x sb y).natAbs < TOP)
def adE (sa x sb y:Int):Int:=if fitsB sa x sb y then dErr (sumZ sa x sb y) (lowE sa x sb y) else 2
def adM (sa x sb y:Int):Int:=if fitsB sa x sb y then dM (sumZ sa x sb y) (lowE sa x sb y) else 0
def adX (sa x sb y:Int):Int:=if fitsB sa x sb y then dX (sumZ sa x sb y) (lowE sa x sb y) else 0
def DyR (w':World) (r:Ending) (er m e:Int):Prop:=∃ v,r = .returned (.tuple #[v,.int .i64 er])∧IsDy w' v m e
theorem sval_zero_iff {n:Bool} {L:List Nat} (h:rightB n L = true):sval n L = 0 ↔ L.length = 0:=by
 have hc:=(right_canon h).2.1
 constructor
 ·intro e
  have:val L = 0:=by rw [← natAbs_sval n L,e];rfl
  rw [(val_zero_of_canon L hc).1 this];rfl
 ·intro e
  have:L = []:=List.length_eq_zero_iff.1 e
  rw [this,sval_nil]
theorem sval_TOP {w:World} {ao:Option Addr} {cap:Nat} {n:Bool} {L:List Nat} (h:LimbsAt w ao cap L) (hr:rightB n L = true):(sval n L).natAbs < TOP:=by
 rw [natAbs_sval];exact (val_lt_TOP L h.2.1 (right_canon hr).2.1).2 (right_canon hr).1
theorem up_zero (x l:Int):up 0 x l = 0:=by simp [up]
theorem up_self (s x:Int):up s x x = s:=by simp [up]
theorem upE_ok (s x l:Int) (h1:(up s x l).natAbs < TOP) (h2:x - l≤16384):upE s x l = 0:=by unfold upE;rw [if_pos ⟨h1,h2⟩]
theorem upE_TOP {s x l:Int} (h:upE s x l = 0):(up s x l).natAbs < TOP:=by
 unfold upE at h
 by_cases h1:(up s x l).natAbs < TOP∧x - l≤16384
 ·exact h1.1
 ·rw [if_neg h1] at h;exact absurd h (by decide)
theorem add_zero_l (sb y:Int) (hy:-16384≤y∧y≤16384) (hs:sb.natAbs < TOP):adE 0 0 sb y = dErr sb y∧adM 0 0 sb y = dM sb y∧adX 0 0 sb y = dX sb y:=by
 have hl:lowE 0 0 sb y = y:=by simp [lowE]
 have hz:sumZ 0 0 sb y = sb:=by unfold sumZ;rw [hl,up_zero,up_self];omega
 have hf:fitsB 0 0 sb y = true:=by
  unfold fitsB
  rw [hl,hz]
  exact decide_eq_true ⟨upE_ok _ _ _ (by rw [up_zero];exact TOP_pos) (by omega),upE_ok _ _ _ (by rw [up_self];exact hs) (by omega),hs⟩
 unfold adE adM adX
 rw [hf,hl,hz]
 exact ⟨rfl,rfl,rfl⟩
theorem add_zero_r (sa x:Int) (hx:-16384≤x∧x≤16384) (hs:sa.natAbs < TOP) (h0:sa ≠ 0):adE sa x 0 0 = dErr sa x∧adM sa x 0 0 = dM sa x∧adX sa x 0 0 = dX sa x:=by
 have hl:lowE sa x 0 0 = x:=by simp [lowE,h0]
 have hz:sumZ sa x 0 0 = sa:=by unfold sumZ;rw [hl,up_zero,up_self];omega
 have hf:fitsB sa x 0 0 = true:=by
  unfold fitsB
  rw [hl,hz]
  exact decide_eq_true ⟨upE_ok _ _ _ (by rw [up_self];exact hs) (by omega),upE_ok _ _ _ (by rw [up_zero];exact TOP_pos) (by omega),hs⟩
 unfold adE adM adX
 rw [hf,hl,hz]
 exact ⟨rfl,rfl,rfl⟩
theorem lowE_ne (sa x sb y:Int) (ha:sa ≠ 0) (hb:sb ≠ 0):lowE sa x sb y = min x y:=by unfold lowE;rw [if_neg ha,if_neg hb]
theorem add_ways (sa x sb y l z:Int) (hl:lowE sa x sb y = l) (hz:sumZ sa x sb y = z) :
  (upE sa x l = 0∧upE sb y l = 0∧z.natAbs < TOP∧adE sa x sb y = dErr z l∧adM sa x sb y = dM z l∧adX sa x sb y = dX z l) ∨
  (upE sa x l = 0∧upE sb y l = 0∧¬ z.natAbs < TOP∧adE sa x sb y = 2∧adM sa x sb y = 0∧adX sa x sb y = 0) ∨
  (¬ (upE sa x l = 0∧upE sb y l = 0)∧adE sa x sb y = 2∧adM sa x sb y = 0∧adX sa x sb y = 0):=by
 unfold adE adM adX fitsB
 rw [hl,hz]
 by_cases h1:upE sa x l = 0∧upE sb y l = 0
 ·by_cases h2:z.natAbs < TOP
  ·left
   rw [decide_eq_true (show upE sa x l = 0∧upE sb y l = 0∧z.natAbs < TOP from ⟨h1.1,h1.2,h2⟩)]
   exact ⟨h1.1,h1.2,h2,rfl,rfl,rfl⟩
  ·right;left
   rw [decide_eq_false (show ¬ (upE sa x l = 0∧upE sb y l = 0∧z.natAbs < TOP) from fun h=>h2 h.2.2)]
   exact ⟨h1.1,h1.2,h2,rfl,rfl,rfl⟩
 ·right;right
  rw [decide_eq_false (show ¬ (upE sa x l = 0∧upE sb y l = 0∧z.natAbs < TOP) from fun h=>h1 ⟨h.1,h.2.1⟩)]
  exact ⟨h1,rfl,rfl,rfl⟩
theorem addRight_any (na nb:Bool) (ao bo:Option Addr) (ca cb:Nat) (A B:List Nat) (x y:Int) (w:World) (hA:LimbsAt w ao ca A) (hB:LimbsAt w bo cb B) (ra:rightB na A = true) (rb:rightB nb B = true) (bx:-16384≤x∧x≤16384) (by':-16384≤y∧y≤16384) (zx:A.length = 0→x = 0) (zy:B.length = 0→y = 0) (hT:Tab w) :
  Calls Tryz.prog 289 #[.agg #[.bool na,.slice ao A.length ca,.int .i64 x],.agg #[.bool nb,.slice bo B.length cb,.int .i64 y]] w fun r w'=>DyR w' r (adE (sval na A) x (sval nb B) y) (adM (sval na A) x (sval nb B) y) (adX (sval na A) x (sval nb B) y)∧Below w.heap.size w w':=by
 have ta:=sval_TOP hA ra
 have tb:=sval_TOP hB rb
 have HZ1:=hide (show A.length = 0→adE (sval na A) x (sval nb B) y = dErr (sval nb B) y∧adM (sval na A) x (sval nb B) y = dM (sval nb B) y∧adX (sval na A) x (sval nb B) y = dX (sval nb B) y from fun h=>by
  have:=(sval_zero_iff ra).2 h
  rw [this,zx h];exact add_zero_l _ _ by' tb)
 have HZ2:=hide (show A.length ≠ 0→B.length = 0→adE (sval na A) x (sval nb B) y = dErr (sval na A) x∧adM (sval na A) x (sval nb B) y = dM (sval na A) x∧adX (sval na A) x (sval nb B) y = dX (sval na A) x from fun h0 h=>by
  have:=(sval_zero_iff rb).2 h
  rw [this,zy h];exact add_zero_r _ _ bx ta (fun e=>h0 ((sval_zero_iff ra).1 e)))
 have HL:=hide (show A.length ≠ 0→B.length ≠ 0→lowE (sval na A) x (sval nb B) y = min x y from fun h0 h=>lowE_ne _ _ _ _ (fun e=>h0 ((sval_zero_iff ra).1 e)) (fun e=>h ((sval_zero_iff rb).1 e)))
 obtain ⟨l,hl⟩:∃ l,lowE (sval na A) x (sval nb B) y = l:=⟨_,rfl⟩
 obtain ⟨z,hz⟩:∃ z,sumZ (sval na A) x (sval nb B) y = z:=⟨_,rfl⟩
 have HW:=hide (add_ways _ _ _ _ l z hl hz)
 have HSUM:=hide (show z = up (sval na A) x l+up (sval nb B) y l by rw [← hz,← hl];rfl)
 rw [hl] at HL
 have CMB:=hide (fun w' h t=>make_right nb bo cb B y w' h rb (by omega) t)
 have CMA:=hide (fun w' h t=>make_right na ao ca A x w' h ra (by omega) t)
 have CAL:=hide (fun w' h h' e=>align_any na nb ao bo ca cb A B x y l w' h h' ra rb bx by' e)
 have CADD:=hide (fun w' u v (h1:upE (sval na A) x l = 0) (h2:upE (sval nb B) y l = 0) (iu:IsNum 0 w' u (up (sval na A) x l)) (iv:IsNum 0 w' v (up (sval nb B) y l))=>add_num iu iv (upE_TOP h1) (upE_TOP h2))
 rw [← uH HSUM] at CADD
 have CMK:=hide (fun (hzT:z.natAbs < TOP) e' w' u B' (he:e' = l) (iu:IsNum B' w' u z) (t:Tab w')=>show Calls Tryz.prog 206 #[u,.int .i64 e'] w' fun r w''=>∃ v,r = .returned (.tuple #[v,.int .i64 (dErr z l)])∧IsDy w'' v (dM z l) (dX z l)∧Below w'.heap.size w' w'' by
  subst he
  refine make_num _ iu hzT ?_ t
  have:-16384≤e'∧e'≤16384:=by
   rw [← hl];unfold lowE
   split
   ·omega
   ·split <;> omega
  omega)
 have HES:=hide (fun h:z.natAbs < TOP=>And.intro (errOf_small z h) (numOf_small z h))
 have HEB:=hide (fun h:¬ z.natAbs < TOP=>(show errOf z = 2 by unfold errOf;rw [if_neg h]))
 clear hl hz ta tb ra rb zx zy HSUM
 obtain ⟨bx1,bx2⟩:=bx
 obtain ⟨by1,by2⟩:=by'
 generalize adE (sval na A) x (sval nb B) y = er at *
 generalize adM (sval na A) x (sval nb B) y = am at *
 generalize adX (sval na A) x (sval nb B) y = ax at *
 generalize upE (sval na A) x l = ea at *
 generalize upE (sval nb B) y l = eb at *
 generalize up (sval na A) x l = za at *
 generalize up (sval nb B) y l = zb at *
 have hb0:Below w.heap.size w (((w.alloc (.cells #[.bool na,.slice ao A.length ca,.int .i64 x] 35)).alloc (.cells #[.bool nb,.slice bo B.length cb,.int .i64 y] 35)).alloc (.cells #[.bool false,.slice none 0 0,.int .i64 0] 35)) :=
  (((Below.refl _ _).alloc (Nat.le_refl _) _).alloc (by simp) _).alloc (by simp;omega) _
 have x0:Box3 (((w.alloc (.cells #[.bool na,.slice ao A.length ca,.int .i64 x] 35)).alloc (.cells #[.bool nb,.slice bo B.length cb,.int .i64 y] 35)).alloc (.cells #[.bool false,.slice none 0 0,.int .i64 0] 35)) w.heap.size (.bool na) (.slice ao A.length ca) (.int .i64 x):=((Box3.new _ _ _ _).old _).old _
 have x1:Box3 (((w.alloc (.cells #[.bool na,.slice ao A.length ca,.int .i64 x] 35)).alloc (.cells #[.bool nb,.slice bo B.length cb,.int .i64 y] 35)).alloc (.cells #[.bool false,.slice none 0 0,.int .i64 0] 35)) (w.heap.size+1) (.bool nb) (.slice bo B.length cb) (.int .i64 y):=by
  have:=(Box3.new (w.alloc (.cells #[.bool na,.slice ao A.length ca,.int .i64 x] 35)) (.bool nb) (.slice bo B.length cb) (.int .i64 y)).old (.cells #[.bool false,.slice none 0 0,.int .i64 0] 35)
  simpa using this
 have x2:Box3 (((w.alloc (.cells #[.bool na,.slice ao A.length ca,.int .i64 x] 35)).alloc (.cells #[.bool nb,.slice bo B.length cb,.int .i64 y] 35)).alloc (.cells #[.bool false,.slice none 0 0,.int .i64 0] 35)) (w.heap.size+1+1) (.bool false) (.slice none 0 0) (.int .i64 0):=by
  have:=Box3.new ((w.alloc (.cells #[.bool na,.slice ao A.length ca,.int .i64 x] 35)).alloc (.cells #[.bool nb,.slice bo B.length cb,.int .i64 y] 35)) (.bool false) (.slice none 0 0) (.int .i64 0)
  simpa using this
 have B0:=hide hb0;have X0:=hide x0;have X1:=hide x1;have X2:=hide x2
 clear hb0 x0 x1 x2
 go_enter Tryz.func289,Tryz.ntmps289
 go_wp2_with fail
 refine (isZero_any na ao ca A.length _).mono ?_
 by_cases h0:A.length = 0
 ·rw [decide_eq_true h0]
  rintro r w1 ⟨rfl,hb1⟩
  obtain ⟨rfl,rfl,rfl⟩:=uH HZ1 h0
  have x1:=(uH X1).all hb1;have x2:=(uH X2).all hb1
  have b1:=(uH B0).trans (hb1.mono (uH B0).size)
  have q0:=x1.c0;have q1:=x1.c1;have q2:=x1.c2
  have X2':=hide x2;have B1:=hide b1
  clear h0 HZ1 HZ2 HL HW CMA CAL CADD CMK HES HEB hb1 x1 x2 b1 X0 X1 X2 B0
  go_wp2_with fail
  refine (uH CMB _ (hB.below (uH B1)) (hT.all (uH B1))).mono ?_
  rintro r w2 ⟨v,rfl,iv,hb1⟩
  obtain ⟨n3,a3,c3,L3,rfl,i3⟩:=iv.num
  have x2:=(uH X2').all hb1
  have b2:=(uH B1).trans (hb1.mono (uH B1).size)
  have y0:=x2.c0;have y1:=x2.c1;have y2:=x2.c2;have f0:=x2.free 0;have f1:=x2.free 1;have f2:=x2.free 2
  have X3:=hide x2;have B2:=hide b2;have IV:=hide iv
  clear x2 b2 hb1 iv i3
  go_wp2
  refine bodyPost_ret (v:=.tuple #[.agg #[.bool n3,.slice a3 L3.length c3,.int .i64 (dX (sval nb B) y)],.int .i64 (dErr (sval nb B) y)]) (by simp [results,Tryz.results289,go_sem,y0,y1,y2]) rfl ⟨⟨_,rfl,(uH IV).put3 (uH X3) _ _ _⟩,below_put3 (uH B2) (by omega) _ _ _⟩
 ·rw [decide_eq_false h0]
  rintro r w1 ⟨rfl,hb1⟩
  have x0:=(uH X0).all hb1;have x1:=(uH X1).all hb1;have x2:=(uH X2).all hb1
  have b1:=(uH B0).trans (hb1.mono (uH B0).size)
  have q0:=x1.c0;have q1:=x1.c1;have q2:=x1.c2
  have X0':=hide x0;have X1':=hide x1;have X2':=hide x2;have B1:=hide b1
  have HZ2':=hide (uH HZ2 h0);have HL':=hide (uH HL h0)
  clear h0 HZ1 HZ2 HL CMB hb1 x0 x1 x2 b1 X0 X1 X2 B0
  go_wp2_with fail
  refine (isZero_any nb bo cb B.length _).mono ?_
  by_cases h0:B.length = 0
  ·rw [decide_eq_true h0]
   rintro r w2 ⟨rfl,hb1⟩
   obtain ⟨rfl,rfl,rfl⟩:=uH HZ2' h0
   have x0:=(uH X0').all hb1;have x2:=(uH X2').all hb1
   have b1:=(uH B1).trans (hb1.mono (uH B1).size)
   clear q0 q1 q2 X0' X1' X2' B1
   have q0:=x0.c0;have q1:=x0.c1;have q2:=x0.c2
   have X2':=hide x2;have B1:=hide b1
   clear h0 HZ2' HL' HW CAL CADD CMK HES HEB hb1 x0 x2 b1
   go_wp2_with fail
   refine (uH CMA _ (hA.below (uH B1)) (hT.all (uH B1))).mono ?_
   rintro r w4 ⟨v,rfl,iv,hb1⟩
   obtain ⟨n3,a3,c3,L3,rfl,i3⟩:=iv.num
   have x2:=(uH X2').all hb1
   have b2:=(uH B1).trans (hb1.mono (uH B1).size)
   have y0:=x2.c0;have y1:=x2.c1;have y2:=x2.c2;have f0:=x2.free 0;have f1:=x2.free 1;have f2:=x2.free 2
   have X3:=hide x2;have B2:=hide b2;have IV:=hide iv
   clear x2 b2 hb1 iv i3
   go_wp2
   refine bodyPost_ret (v:=.tuple #[.agg #[.bool n3,.slice a3 L3.length c3,.int .i64 (dX (sval na A) x)],.int .i64 (dErr (sval na A) x)]) (by simp [results,Tryz.results289,go_sem,y0,y1,y2]) rfl ⟨⟨_,rfl,(uH IV).put3 (uH X3) _ _ _⟩,below_put3 (uH B2) (by omega) _ _ _⟩
  ·rw [decide_eq_false h0]
   rintro r w2 ⟨rfl,hb1⟩
   have x0:=(uH X0').all hb1;have x1:=(uH X1').all hb1;have x2:=(uH X2').all hb1
   have b1:=(uH B1).trans (hb1.mono (uH B1).size)
   have hll:=uH HL' h0
   clear q0 q1 q2 X0' X1' X2' B1
   have p0:=x0.c0;have p1:=x0.c1;have p2:=x0.c2
   have q0:=x1.c0;have q1:=x1.c1;have q2:=x1.c2
   have X0':=hide x0;have X1':=hide x1;have X2':=hide x2;have B1:=hide b1;have HLL:=hide hll
   clear h0 HZ2' HL' CMA hb1 x0 x1 x2 b1 hll
   go_wp2_with fail
   refine (uH CAL _ (hA.below (uH B1)) (hB.below (uH B1)) (uH HLL)).mono ?_
   rintro r w3 ⟨⟨n1,a1,l1,c1,n2,a2,l2,c2,ae,rfl,g1,g2⟩,hb1⟩
   have x0:=(uH X0').all hb1;have x1:=(uH X1').all hb1;have x2:=(uH X2').all hb1
   have b1:=(uH B1).trans (hb1.mono (uH B1).size)
   have G1:=hide g1;have G2:=hide g2
   clear p0 p1 p2 q0 q1 q2 X0' X1' X2' B1 CAL hb1 g1 g2
   -- the two boxes of what align answered
   have bA:Below w3.heap.size w3 ((w3.alloc (.cells #[.bool n1,.slice a1 l1 c1] 33)).alloc (.cells #[.bool n2,.slice a2 l2 c2] 33)):=((Below.refl _ _).alloc (Nat.le_refl _) _).alloc (by simp) _
   have X0':=hide (x0.all bA);have X1':=hide (x1.all bA);have X2':=hide (x2.all bA);have B1:=hide (b1.trans (bA.mono b1.size));have BA:=hide bA
   clear x0 x1 x2 b1 bA
   rcases uH HW with ⟨e1,e2,hzT,rfl,rfl,rfl⟩ | ⟨e1,e2,hzT,rfl,rfl,rfl⟩ | ⟨hno,rfl,rfl,rfl⟩
   ·obtain ⟨rfl,iu,iv⟩:=uH G1 e1 e2
    obtain ⟨es1,es2⟩:=uH HES hzT
    have CADD':=hide (fun w' u v iu iv=>uH CADD w' u v e1 e2 iu iv)
    rw [es1,es2] at CADD'
    have CMK':=hide (uH CMK hzT)
    have IU:=hide (iu.below (uH BA));have IV0:=hide (iv.below (uH BA))
    clear HW CADD CMK HES HEB G1 G2 e1 e2 hzT es1 es2 iu iv
    go_wp2_with fail
    refine (uH CADD' _ _ _ (uH IU) (uH IV0)).mono ?_
    rintro r w5 ⟨u,rfl,⟨n4,a4,c4,L4,rfl,i4⟩,hb1⟩
    have x0:=((uH X0').all hb1).old (.cells #[.bool n4,.slice a4 L4.length c4] 33)
    have x1:=((uH X1').all hb1).old (.cells #[.bool n4,.slice a4 L4.length c4] 33)
    have x2:=((uH X2').all hb1).old (.cells #[.bool n4,.slice a4 L4.length c4] 33)
    have b1:=((uH B1).trans (hb1.mono (uH B1).size)).alloc ((uH B1).trans (hb1.mono (uH B1).size)).size (.cells #[.bool n4,.slice a4 L4.length c4] 33)
    have iz:IsNum 0 (w5.alloc (.cells #[.bool n4,.slice a4 L4.length c4] 33)) (.agg #[.bool n4,.slice a4 L4.length c4]) z:=IsNum.mono (IsNum.below ⟨n4,a4,c4,L4,rfl,i4⟩ ((Below.refl _ _).alloc (Nat.le_refl _) _)) (Nat.zero_le _)
    clear X0' X1' X2' B1 hb1 i4 CADD' IU IV0 BA
    have p2:=x0.c2;have q2:=x1.c2
    have X2':=hide x2;have B1:=hide b1;have IZ:=hide iz
    clear x0 x1 x2 b1 iz
    rcases (show x < y ∨ x = y ∨ y < x by omega) with hxy | hxy | hxy
    all_goals
     first | subst hxy | skip
     go_wp2_with fail
     refine (uH CMK' _ _ _ _ (by have:=uH HLL;omega) (uH IZ) (hT.all (uH B1))).mono ?_
     rintro r w4 ⟨v,rfl,iv,hb1⟩
     obtain ⟨n3,a3,c3,L3,rfl,i3⟩:=iv.num
     have x2:=(uH X2').all hb1
     have b2:=(uH B1).trans (hb1.mono (uH B1).size)
     have y0:=x2.c0;have y1:=x2.c1;have y2:=x2.c2;have f0:=x2.free 0;have f1:=x2.free 1;have f2:=x2.free 2
     have X3:=hide x2;have B2:=hide b2;have IV:=hide iv
     clear x2 b2 hb1 iv i3
     go_wp2
     refine bodyPost_ret (v:=.tuple #[.agg #[.bool n3,.slice a3 L3.length c3,.int .i64 (dX z l)],.int .i64 (dErr z l)]) (by simp [results,Tryz.results289,go_sem,y0,y1,y2]) rfl ⟨⟨_,rfl,(uH IV).put3 (uH X3) _ _ _⟩,below_put3 (uH B2) (by omega) _ _ _⟩
   ·obtain ⟨rfl,iu,iv⟩:=uH G1 e1 e2
    have es1:=uH HEB hzT
    have CADD':=hide (fun w' u v iu iv=>uH CADD w' u v e1 e2 iu iv)
    rw [es1] at CADD'
    have IU:=hide (iu.below (uH BA));have IV0:=hide (iv.below (uH BA))
    clear HW CADD CMK HES HEB G1 G2 e1 e2 hzT es1 iu iv
    go_wp2_with fail
    refine (uH CADD' _ _ _ (uH IU) (uH IV0)).mono ?_
    rintro r w5 ⟨u,rfl,⟨n4,a4,c4,L4,rfl,i4⟩,hb1⟩
    have x2:=((uH X2').all hb1).old (.cells #[.bool n4,.slice a4 L4.length c4] 33)
    have b1:=((uH B1).trans (hb1.mono (uH B1).size)).alloc ((uH B1).trans (hb1.mono (uH B1).size)).size (.cells #[.bool n4,.slice a4 L4.length c4] 33)
    have y0:=x2.c0;have y1:=x2.c1;have y2:=x2.c2;have f0:=x2.free 0;have f1:=x2.free 1;have f2:=x2.free 2
    have B2:=hide b1
    clear X0' X1' X2' B1 hb1 i4 CADD' IU IV0 BA x2 b1
    go_wp2
    refine bodyPost_ret (v:=.tuple #[.agg #[.bool false,.slice none 0 0,.int .i64 0],.int .i64 (2)]) (by simp [results,Tryz.results289,go_sem,y0,y1,y2]) rfl ⟨⟨_,rfl,IsDy.zero _ _ _⟩,below_put3 (uH B2) (by omega) _ _ _⟩
   ·have ha:=uH G2 hno
    subst ha
    have x2:=uH X2'
    have y0:=x2.c0;have y1:=x2.c1;have y2:=x2.c2;have f0:=x2.free 0;have f1:=x2.free 1;have f2:=x2.free 2
    have B2:=B1
    clear HW CADD CMK HES HEB G1 G2 hno x2 X0' X1' X2' BA B1
    go_wp2
    refine bodyPost_ret (v:=.tuple #[.agg #[.bool false,.slice none 0 0,.int .i64 0],.int .i64 (2)]) (by simp [results,Tryz.results289,go_sem,y0,y1,y2]) rfl ⟨⟨_,rfl,IsDy.zero _ _ _⟩,below_put3 (uH B2) (by omega) _ _ _⟩
end Go.Proofs.YtcbcmlaogehimaaGreatDoor
namespace Go.Proofs.YtcbcmlaogehimaaGreatDoor
open Go.RowKit
attribute [local go_sem ↓] Go.wp_at_zero Go.wp_at_succ
theorem drB_bounds {neg:Bool} {L:List Nat} {e:Int} (h:drB neg L e = true):rightB neg L = true∧L.length≤512∧-16384≤e∧e≤16384∧(L.length = 0→e = 0):=by
 unfold drB at h
 rw [Bool.and_eq_true] at h
 obtain ⟨h1,h2⟩:=h
 refine ⟨h1,(right_canon h1).1,?_⟩
 by_cases h0:L.length = 0
 ·rw [if_pos h0] at h2
  have:=of_decide_eq_true h2
  omega
 ·rw [if_neg h0,Bool.and_eq_true] at h2
  have:=of_decide_eq_true h2.2
  omega
end Go.Proofs.YtcbcmlaogehimaaGreatDoor
namespace Go.Proofs.YtcbcmlaogehimaaGreatDoor
open Go.RowKit
attribute [local go_sem ↓] Go.wp_at_zero Go.wp_at_succ
theorem dadd_right (na nb:Bool) (ao bo:Option Addr) (ca cb:Nat) (A B:List Nat) (x y:Int) (w:World) (hA:LimbsAt w ao ca A) (hB:LimbsAt w bo cb B) (hra:drB na A x = true) (hrb:drB nb B y = true) (hT:Tab w) :
  Calls Tryz.prog 275 #[.agg #[.bool na,.slice ao A.length ca,.int .i64 x],.agg #[.bool nb,.slice bo B.length cb,.int .i64 y]] w fun r w'=>DyR w' r (adE (sval na A) x (sval nb B) y) (adM (sval na A) x (sval nb B) y) (adX (sval na A) x (sval nb B) y)∧Below w.heap.size w w':=by
 obtain ⟨ra,la,bx1,bx2,zx⟩:=drB_bounds hra
 obtain ⟨rb,lb,by1,by2,zy⟩:=drB_bounds hrb
 have CC:=hide (fun w' h h' t=>dcheckBoth_any na nb ao bo ca cb A B x y w' h h' (by omega) (by omega) t)
 have he:drE2 na A x nb B y = 0:=by unfold drE2;rw [hra,hrb];rfl
 rw [he] at CC
 have CA:=hide (fun w' h h' t=>addRight_any na nb ao bo ca cb A B x y w' h h' ra rb ⟨bx1,bx2⟩ ⟨by1,by2⟩ zx zy t)
 generalize adE (sval na A) x (sval nb B) y = er at *
 generalize adM (sval na A) x (sval nb B) y = am at *
 generalize adX (sval na A) x (sval nb B) y = ax at *
 clear he hra hrb zx zy ra rb
 have hb0:Below w.heap.size w (((w.alloc (.cells #[.bool na,.slice ao A.length ca,.int .i64 x] 35)).alloc (.cells #[.bool nb,.slice bo B.length cb,.int .i64 y] 35)).alloc (.cells #[.bool false,.slice none 0 0,.int .i64 0] 35)) :=
  (((Below.refl _ _).alloc (Nat.le_refl _) _).alloc (by simp) _).alloc (by simp;omega) _
 have x0:Box3 (((w.alloc (.cells #[.bool na,.slice ao A.length ca,.int .i64 x] 35)).alloc (.cells #[.bool nb,.slice bo B.length cb,.int .i64 y] 35)).alloc (.cells #[.bool false,.slice none 0 0,.int .i64 0] 35)) w.heap.size (.bool na) (.slice ao A.length ca) (.int .i64 x):=((Box3.new _ _ _ _).old _).old _
 have x1:Box3 (((w.alloc (.cells #[.bool na,.slice ao A.length ca,.int .i64 x] 35)).alloc (.cells #[.bool nb,.slice bo B.length cb,.int .i64 y] 35)).alloc (.cells #[.bool false,.slice none 0 0,.int .i64 0] 35)) (w.heap.size+1) (.bool nb) (.slice bo B.length cb) (.int .i64 y):=by
  have:=(Box3.new (w.alloc (.cells #[.bool na,.slice ao A.length ca,.int .i64 x] 35)) (.bool nb) (.slice bo B.length cb) (.int .i64 y)).old (.cells #[.bool false,.slice none 0 0,.int .i64 0] 35)
  simpa using this
 have x2:Box3 (((w.alloc (.cells #[.bool na,.slice ao A.length ca,.int .i64 x] 35)).alloc (.cells #[.bool nb,.slice bo B.length cb,.int .i64 y] 35)).alloc (.cells #[.bool false,.slice none 0 0,.int .i64 0] 35)) (w.heap.size+1+1) (.bool false) (.slice none 0 0) (.int .i64 0):=by
  have:=Box3.new ((w.alloc (.cells #[.bool na,.slice ao A.length ca,.int .i64 x] 35)).alloc (.cells #[.bool nb,.slice bo B.length cb,.int .i64 y] 35)) (.bool false) (.slice none 0 0) (.int .i64 0)
  simpa using this
 have B0:=hide hb0;have X0:=hide x0;have X1:=hide x1;have X2:=hide x2
 clear hb0 x0 x1 x2
 go_enter Tryz.func275,Tryz.ntmps275
 go_wp2_with fail
 refine (uH CC _ (hA.below (uH B0)) (hB.below (uH B0)) (hT.all (uH B0))).mono ?_
 rintro r w1 ⟨rfl,hb1⟩
 have x0:=(uH X0).all hb1;have x1:=(uH X1).all hb1;have x2:=(uH X2).all hb1
 have b1:=(uH B0).trans (hb1.mono (uH B0).size)
 have p0:=x0.c0;have p1:=x0.c1;have p2:=x0.c2
 have q0:=x1.c0;have q1:=x1.c1;have q2:=x1.c2
 have X0':=hide x0;have X1':=hide x1;have X2':=hide x2;have B1:=hide b1
 clear hb1 x0 x1 x2 b1 X0 X1 X2 B0 CC
 go_wp2_with fail
 refine (uH CA _ (hA.below (uH B1)) (hB.below (uH B1)) (hT.all (uH B1))).mono ?_
 rintro r w4 ⟨⟨v,rfl,iv⟩,hb1⟩
 obtain ⟨n3,a3,c3,L3,rfl,i3⟩:=iv.num
 have x2:=(uH X2').all hb1
 have b2:=(uH B1).trans (hb1.mono (uH B1).size)
 have y0:=x2.c0;have y1:=x2.c1;have y2:=x2.c2;have f0:=x2.free 0;have f1:=x2.free 1;have f2:=x2.free 2
 have X3:=hide x2;have B2:=hide b2;have IV:=hide iv
 clear x2 b2 hb1 iv i3
 go_wp2
 refine bodyPost_ret (v:=.tuple #[.agg #[.bool n3,.slice a3 L3.length c3,.int .i64 (ax)],.int .i64 (er)]) (by simp [results,Tryz.results275,go_sem,y0,y1,y2]) rfl ⟨⟨_,rfl,(uH IV).put3 (uH X3) _ _ _⟩,below_put3 (uH B2) (by omega) _ _ _⟩
end Go.Proofs.YtcbcmlaogehimaaGreatDoor
namespace Go.Proofs.YtcbcmlaogehimaaGreatDoor
open Go.RowKit
attribute [local go_sem ↓] Go.wp_at_zero Go.wp_at_succ
theorem dmul_right (na nb:Bool) (ao bo:Option Addr) (ca cb:Nat) (A B:List Nat) (x y:Int) (w:World) (hA:LimbsAt w ao ca A) (hB:LimbsAt w bo cb B) (hra:drB na A x = true) (hrb:drB nb B y = true) (hz:(sval na A * sval nb B).natAbs < TOP) (hT:Tab w) :
  Calls Tryz.prog 282 #[.agg #[.bool na,.slice ao A.length ca,.int .i64 x],.agg #[.bool nb,.slice bo B.length cb,.int .i64 y]] w fun r w'=>DyR w' r (dErr (sval na A * sval nb B) (x+y)) (dM (sval na A * sval nb B) (x+y)) (dX (sval na A * sval nb B) (x+y))∧Below w.heap.size w w':=by
 obtain ⟨ra,la,bx1,bx2,zx⟩:=drB_bounds hra
 obtain ⟨rb,lb,by1,by2,zy⟩:=drB_bounds hrb
 have CC:=hide (fun w' h h' t=>dcheckBoth_any na nb ao bo ca cb A B x y w' h h' (by omega) (by omega) t)
 have he:drE2 na A x nb B y = 0:=by unfold drE2;rw [hra,hrb];rfl
 rw [he] at CC
 have CM:=hide (fun w' h h'=>mul_any na nb ao bo ca cb A B w' h h' (by omega) (by omega))
 rw [ra,rb,Bool.and_self,opErr_true,opNum_true,errOf_small _ hz,numOf_small _ hz] at CM
 have CK:=hide (fun w' u B' (iu:IsNum B' w' u (sval na A * sval nb B)) t=>make_num (x+y) iu hz (by omega) t)
 generalize dErr (sval na A * sval nb B) (x+y) = er at *
 generalize dM (sval na A * sval nb B) (x+y) = am at *
 generalize dX (sval na A * sval nb B) (x+y) = ax at *
 clear he hra hrb zx zy ra rb hz
 generalize sval na A * sval nb B = z at *
 have hb0:Below w.heap.size w (((w.alloc (.cells #[.bool na,.slice ao A.length ca,.int .i64 x] 35)).alloc (.cells #[.bool nb,.slice bo B.length cb,.int .i64 y] 35)).alloc (.cells #[.bool false,.slice none 0 0,.int .i64 0] 35)) :=
  (((Below.refl _ _).alloc (Nat.le_refl _) _).alloc (by simp) _).alloc (by simp;omega) _
 have x0:Box3 (((w.alloc (.cells #[.bool na,.slice ao A.length ca,.int .i64 x] 35)).alloc (.cells #[.bool nb,.slice bo B.length cb,.int .i64 y] 35)).alloc (.cells #[.bool false,.slice none 0 0,.int .i64 0] 35)) w.heap.size (.bool na) (.slice ao A.length ca) (.int .i64 x):=((Box3.new _ _ _ _).old _).old _
 have x1:Box3 (((w.alloc (.cells #[.bool na,.slice ao A.length ca,.int .i64 x] 35)).alloc (.cells #[.bool nb,.slice bo B.length cb,.int .i64 y] 35)).alloc (.cells #[.bool false,.slice none 0 0,.int .i64 0] 35)) (w.heap.size+1) (.bool nb) (.slice bo B.length cb) (.int .i64 y):=by
  have:=(Box3.new (w.alloc (.cells #[.bool na,.slice ao A.length ca,.int .i64 x] 35)) (.bool nb) (.slice bo B.length cb) (.int .i64 y)).old (.cells #[.bool false,.slice none 0 0,.int .i64 0] 35)
  simpa using this
 have x2:Box3 (((w.alloc (.cells #[.bool na,.slice ao A.length ca,.int .i64 x] 35)).alloc (.cells #[.bool nb,.slice bo B.length cb,.int .i64 y] 35)).alloc (.cells #[.bool false,.slice none 0 0,.int .i64 0] 35)) (w.heap.size+1+1) (.bool false) (.slice none 0 0) (.int .i64 0):=by
  have:=Box3.new ((w.alloc (.cells #[.bool na,.slice ao A.length ca,.int .i64 x] 35)).alloc (.cells #[.bool nb,.slice bo B.length cb,.int .i64 y] 35)) (.bool false) (.slice none 0 0) (.int .i64 0)
  simpa using this
 have B0:=hide hb0;have X0:=hide x0;have X1:=hide x1;have X2:=hide x2
 clear hb0 x0 x1 x2
 go_enter Tryz.func282,Tryz.ntmps282
 go_wp2_with fail
 refine (uH CC _ (hA.below (uH B0)) (hB.below (uH B0)) (hT.all (uH B0))).mono ?_
 rintro r w1 ⟨rfl,hb1⟩
 have x0:=(uH X0).all hb1;have x1:=(uH X1).all hb1;have x2:=(uH X2).all hb1
 have b1:=(uH B0).trans (hb1.mono (uH B0).size)
 have p0:=x0.c0;have p1:=x0.c1;have p2:=x0.c2
 have q0:=x1.c0;have q1:=x1.c1;have q2:=x1.c2
 have X0':=hide x0;have X1':=hide x1;have X2':=hide x2;have B1:=hide b1
 clear hb1 x0 x1 x2 b1 X0 X1 X2 B0 CC
 go_wp2_with fail
 refine (uH CM _ (hA.below (uH B1)) (hB.below (uH B1))).mono ?_
 rintro r w5 ⟨u,rfl,⟨n4,a4,c4,L4,rfl,i4⟩,hb1⟩
 have x0:=((uH X0').all hb1).old (.cells #[.bool n4,.slice a4 L4.length c4] 33)
 have x1:=((uH X1').all hb1).old (.cells #[.bool n4,.slice a4 L4.length c4] 33)
 have x2:=((uH X2').all hb1).old (.cells #[.bool n4,.slice a4 L4.length c4] 33)
 have b1:=((uH B1).trans (hb1.mono (uH B1).size)).alloc ((uH B1).trans (hb1.mono (uH B1).size)).size (.cells #[.bool n4,.slice a4 L4.length c4] 33)
 have iz:IsNum 0 (w5.alloc (.cells #[.bool n4,.slice a4 L4.length c4] 33)) (.agg #[.bool n4,.slice a4 L4.length c4]) z:=IsNum.mono (IsNum.below ⟨n4,a4,c4,L4,rfl,i4⟩ ((Below.refl _ _).alloc (Nat.le_refl _) _)) (Nat.zero_le _)
 clear X0' X1' X2' B1 hb1 i4 CM p0 p1 p2 q0 q1 q2
 have p2:=x0.c2;have q2:=x1.c2
 have X2':=hide x2;have B1:=hide b1;have IZ:=hide iz
 clear x0 x1 x2 b1 iz
 go_wp2_with fail
 refine (uH CK _ _ _ (uH IZ) (hT.all (uH B1))).mono ?_
 rintro r w4 ⟨v,rfl,iv,hb1⟩
 obtain ⟨n3,a3,c3,L3,rfl,i3⟩:=iv.num
 have x2:=(uH X2').all hb1
 have b2:=(uH B1).trans (hb1.mono (uH B1).size)
 have y0:=x2.c0;have y1:=x2.c1;have y2:=x2.c2;have f0:=x2.free 0;have f1:=x2.free 1;have f2:=x2.free 2
 have X3:=hide x2;have B2:=hide b2;have IV:=hide iv
 clear x2 b2 hb1 iv i3
 go_wp2
 refine bodyPost_ret (v:=.tuple #[.agg #[.bool n3,.slice a3 L3.length c3,.int .i64 (ax)],.int .i64 (er)]) (by simp [results,Tryz.results282,go_sem,y0,y1,y2]) rfl ⟨⟨_,rfl,(uH IV).put3 (uH X3) _ _ _⟩,below_put3 (uH B2) (by omega) _ _ _⟩
theorem dscale_right (na:Bool) (ao:Option Addr) (ca:Nat) (A:List Nat) (x n:Int) (w:World) (hA:LimbsAt w ao ca A) (hr:drB na A x = true) (hn:-32768≤n∧n≤32768) (hT:Tab w) :
  Calls Tryz.prog 228 #[.agg #[.bool na,.slice ao A.length ca,.int .i64 x],.int .i64 n] w fun r w'=>DyR w' r (dErr (sval na A) (x+n)) (dM (sval na A) (x+n)) (dX (sval na A) (x+n))∧Below w.heap.size w w':=by
 obtain ⟨ra,la,bx1,bx2,zx⟩:=drB_bounds hr
 have CC:=hide (fun w' h t=>dcheck_any na ao ca A x w' h (by omega) t)
 have he:drE na A x = 0:=by unfold drE;rw [hr];rfl
 rw [he] at CC
 have CW:=hide (fun w'=>within_any n 32768 w' (by decide) (by decide))
 rw [decide_eq_true hn] at CW
 have CK:=hide (fun w' h t=>make_right na ao ca A (x+n) w' h ra (by omega) t)
 generalize dErr (sval na A) (x+n) = er at *
 generalize dM (sval na A) (x+n) = am at *
 generalize dX (sval na A) (x+n) = ax at *
 obtain ⟨hn1,hn2⟩:=hn
 clear he hr zx ra
 have hb0:Below w.heap.size w ((w.alloc (.cells #[.bool na,.slice ao A.length ca,.int .i64 x] 35)).alloc (.cells #[.bool false,.slice none 0 0,.int .i64 0] 35)):=((Below.refl _ _).alloc (Nat.le_refl _) _).alloc (by simp) _
 have x0:Box3 ((w.alloc (.cells #[.bool na,.slice ao A.length ca,.int .i64 x] 35)).alloc (.cells #[.bool false,.slice none 0 0,.int .i64 0] 35)) w.heap.size (.bool na) (.slice ao A.length ca) (.int .i64 x):=(Box3.new _ _ _ _).old _
 have x2:Box3 ((w.alloc (.cells #[.bool na,.slice ao A.length ca,.int .i64 x] 35)).alloc (.cells #[.bool false,.slice none 0 0,.int .i64 0] 35)) (w.heap.size+1) (.bool false) (.slice none 0 0) (.int .i64 0):=by
  have:=Box3.new (w.alloc (.cells #[.bool na,.slice ao A.length ca,.int .i64 x] 35)) (.bool false) (.slice none 0 0) (.int .i64 0)
  simpa using this
 have B0:=hide hb0;have X0:=hide x0;have X2:=hide x2
 clear hb0 x0 x2
 go_enter Tryz.func228,Tryz.ntmps228
 go_wp2_with fail
 refine (uH CC _ (hA.below (uH B0)) (hT.all (uH B0))).mono ?_
 rintro r w1 ⟨rfl,hb1⟩
 have x0:=(uH X0).all hb1;have x2:=(uH X2).all hb1
 have b1:=(uH B0).trans (hb1.mono (uH B0).size)
 have p0:=x0.c0;have p1:=x0.c1;have p2:=x0.c2
 have X2':=hide x2;have B1:=hide b1
 clear hb1 x0 x2 b1 X0 X2 B0 CC
 go_wp2_with fail
 refine (uH CW _).mono ?_
 rintro r w2 ⟨rfl,rfl⟩
 go_wp2_with fail
 refine (uH CK _ (hA.below (uH B1)) (hT.all (uH B1))).mono ?_
 rintro r w4 ⟨v,rfl,iv,hb1⟩
 obtain ⟨n3,a3,c3,L3,rfl,i3⟩:=iv.num
 have x2:=(uH X2').all hb1
 have b2:=(uH B1).trans (hb1.mono (uH B1).size)
 have y0:=x2.c0;have y1:=x2.c1;have y2:=x2.c2;have f0:=x2.free 0;have f1:=x2.free 1;have f2:=x2.free 2
 have X3:=hide x2;have B2:=hide b2;have IV:=hide iv
 clear x2 b2 hb1 iv i3
 go_wp2
 refine bodyPost_ret (v:=.tuple #[.agg #[.bool n3,.slice a3 L3.length c3,.int .i64 (ax)],.int .i64 (er)]) (by simp [results,Tryz.results228,go_sem,y0,y1,y2]) rfl ⟨⟨_,rfl,(uH IV).put3 (uH X3) _ _ _⟩,below_put3 (uH B2) (by omega) _ _ _⟩
end Go.Proofs.YtcbcmlaogehimaaGreatDoor
namespace Go.Proofs.YtcbcmlaogehimaaGreatDoor
open Go.RowKit
attribute [local go_sem ↓] Go.wp_at_zero Go.wp_at_succ
theorem val_lt_pow (L:List Nat) (hf:Fits L) (k:Nat) (h:L.length≤k):val L < 2 ^ (32 * k):=by
 have h1:=val_lt L hf
 rw [show (4294967296:Nat) = 2 ^ 32 by decide,← Nat.pow_mul] at h1
 exact Nat.lt_of_lt_of_le h1 (Nat.pow_le_pow_right (by decide) (by omega))
theorem TOP_eq:TOP = 2 ^ (32 * TOPN):=by
 unfold TOP
 rw [show (4294967296:Nat) = 2 ^ 32 by decide,← Nat.pow_mul]
theorem lt_TOP {v k:Nat} (h:v < 2 ^ k) (hk:k≤16384):v < TOP:=by
 rw [TOP_eq]
 exact Nat.lt_of_lt_of_le h (Nat.pow_le_pow_right (by decide) hk)
end Go.Proofs.YtcbcmlaogehimaaGreatDoor
