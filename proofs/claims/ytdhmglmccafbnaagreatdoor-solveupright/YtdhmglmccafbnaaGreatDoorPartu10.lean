/- Part 10 of the texts. -/
import Derived.Test.YtdhmglmccafbnaaGreatDoorPartu09
import Derived.Test.YtdhmglmccafbnaaGreatDoorPartu03
set_option maxHeartbeats 2000000
namespace Go.Proofs.YtdhmglmccafbnaaGreatDoor
open Go.RowKit
attribute [local go_sem ↓] Go.wp_at_zero Go.wp_at_succ
theorem dadd_right (na nb:Bool) (ao bo:Option Addr) (ca cb:Nat) (A B:List Nat) (x y:Int) (w:World) (hA:LimbsAt w ao ca A) (hB:LimbsAt w bo cb B) (hra:drB na A x = true) (hrb:drB nb B y = true) (hT:Tab w) :
  Calls Tryz.prog 295 #[.agg #[.bool na,.slice ao A.length ca,.int .i64 x],.agg #[.bool nb,.slice bo B.length cb,.int .i64 y]] w fun r w'=>DyR w' r (adE (sval na A) x (sval nb B) y) (adM (sval na A) x (sval nb B) y) (adX (sval na A) x (sval nb B) y)∧Below w.heap.size w w':=by
 obtain ⟨ra,la,bx1,bx2,zx⟩:=drB_bounds hra
 obtain ⟨rb,lb,by1,by2,zy⟩:=drB_bounds hrb
 have CC:=hide (fun w' h h' t=>dcheckBoth_any na nb ao bo ca cb A B x y w' h h' (by omega) (by omega) t)
 have he:drE2 na A x nb B y = 0:=by unfold drE2;rw [hra,hrb];rfl
 rw [he] at CC
 have CA:=hide (fun w' h h' t=>addRight_any na nb ao bo ca cb A B x y w' h h' ra rb ⟨bx1,bx2⟩ ⟨by1,by2⟩ zx zy t)
 generalize adE (sval na A) x (sval nb B) y = er at *
 generalize adM (sval na A) x (sval nb B) y = am at *
 generalize adX (sval na A) x (sval nb B) y = ax at *
 clear he hra hrb zx zy ra rb
 have hb0:Below w.heap.size w (((w.alloc (.cells #[.bool na,.slice ao A.length ca,.int .i64 x] 41)).alloc (.cells #[.bool nb,.slice bo B.length cb,.int .i64 y] 41)).alloc (.cells #[.bool false,.slice none 0 0,.int .i64 0] 41)) :=
  (((Below.refl _ _).alloc (Nat.le_refl _) _).alloc (by simp) _).alloc (by simp;omega) _
 have x0:Box3 (((w.alloc (.cells #[.bool na,.slice ao A.length ca,.int .i64 x] 41)).alloc (.cells #[.bool nb,.slice bo B.length cb,.int .i64 y] 41)).alloc (.cells #[.bool false,.slice none 0 0,.int .i64 0] 41)) w.heap.size (.bool na) (.slice ao A.length ca) (.int .i64 x):=((Box3.new _ _ _ _).old _).old _
 have x1:Box3 (((w.alloc (.cells #[.bool na,.slice ao A.length ca,.int .i64 x] 41)).alloc (.cells #[.bool nb,.slice bo B.length cb,.int .i64 y] 41)).alloc (.cells #[.bool false,.slice none 0 0,.int .i64 0] 41)) (w.heap.size+1) (.bool nb) (.slice bo B.length cb) (.int .i64 y):=by
  have:=(Box3.new (w.alloc (.cells #[.bool na,.slice ao A.length ca,.int .i64 x] 41)) (.bool nb) (.slice bo B.length cb) (.int .i64 y)).old (.cells #[.bool false,.slice none 0 0,.int .i64 0] 41)
  simpa using this
 have x2:Box3 (((w.alloc (.cells #[.bool na,.slice ao A.length ca,.int .i64 x] 41)).alloc (.cells #[.bool nb,.slice bo B.length cb,.int .i64 y] 41)).alloc (.cells #[.bool false,.slice none 0 0,.int .i64 0] 41)) (w.heap.size+1+1) (.bool false) (.slice none 0 0) (.int .i64 0):=by
  have:=Box3.new ((w.alloc (.cells #[.bool na,.slice ao A.length ca,.int .i64 x] 41)).alloc (.cells #[.bool nb,.slice bo B.length cb,.int .i64 y] 41)) (.bool false) (.slice none 0 0) (.int .i64 0)
  simpa using this
 have B0:=hide hb0;have X0:=hide x0;have X1:=hide x1;have X2:=hide x2
 clear hb0 x0 x1 x2
 go_enter Tryz.func295,Tryz.ntmps295
 go_wp2_with fail
 refine (uH CC _ (hA.below (uH B0)) (hB.below (uH B0)) (hT.all (uH B0))).mono ?_
 rintro r w1 ⟨rfl,hb1⟩
 have x0:=(uH X0).all hb1;have x1:=(uH X1).all hb1;have x2:=(uH X2).all hb1
 have b1:=(uH B0).trans (hb1.mono (uH B0).size)
 have p0:=x0.c0;have p1:=x0.c1;have p2:=x0.c2
 have q0:=x1.c0;have q1:=x1.c1;have q2:=x1.c2
 have X0':=hide x0;have X1':=hide x1;have X2':=hide x2;have B1:=hide b1
 clear hb1 x0 x1 x2 b1 X0 X1 X2 B0 CC
 go_wp2_with fail
 refine (uH CA _ (hA.below (uH B1)) (hB.below (uH B1)) (hT.all (uH B1))).mono ?_
 rintro r w4 ⟨⟨v,rfl,iv⟩,hb1⟩
 obtain ⟨n3,a3,c3,L3,rfl,i3⟩:=iv.num
 have x2:=(uH X2').all hb1
 have b2:=(uH B1).trans (hb1.mono (uH B1).size)
 have y0:=x2.c0;have y1:=x2.c1;have y2:=x2.c2;have f0:=x2.free 0;have f1:=x2.free 1;have f2:=x2.free 2
 have X3:=hide x2;have B2:=hide b2;have IV:=hide iv
 clear x2 b2 hb1 iv i3
 go_wp2
 refine bodyPost_ret (v:=.tuple #[.agg #[.bool n3,.slice a3 L3.length c3,.int .i64 (ax)],.int .i64 (er)]) (by simp [results,Tryz.results295,go_sem,y0,y1,y2]) rfl ⟨⟨_,rfl,(uH IV).put3 (uH X3) _ _ _⟩,below_put3 (uH B2) (by omega) _ _ _⟩
end Go.Proofs.YtdhmglmccafbnaaGreatDoor
namespace Go.Proofs.YtdhmglmccafbnaaGreatDoor
open Go.RowKit
attribute [local go_sem ↓] Go.wp_at_zero Go.wp_at_succ
theorem dmul_right (na nb:Bool) (ao bo:Option Addr) (ca cb:Nat) (A B:List Nat) (x y:Int) (w:World) (hA:LimbsAt w ao ca A) (hB:LimbsAt w bo cb B) (hra:drB na A x = true) (hrb:drB nb B y = true) (hz:(sval na A * sval nb B).natAbs < TOP) (hT:Tab w) :
  Calls Tryz.prog 278 #[.agg #[.bool na,.slice ao A.length ca,.int .i64 x],.agg #[.bool nb,.slice bo B.length cb,.int .i64 y]] w fun r w'=>DyR w' r (dErr (sval na A * sval nb B) (x+y)) (dM (sval na A * sval nb B) (x+y)) (dX (sval na A * sval nb B) (x+y))∧Below w.heap.size w w':=by
 obtain ⟨ra,la,bx1,bx2,zx⟩:=drB_bounds hra
 obtain ⟨rb,lb,by1,by2,zy⟩:=drB_bounds hrb
 have CC:=hide (fun w' h h' t=>dcheckBoth_any na nb ao bo ca cb A B x y w' h h' (by omega) (by omega) t)
 have he:drE2 na A x nb B y = 0:=by unfold drE2;rw [hra,hrb];rfl
 rw [he] at CC
 have CM:=hide (fun w' h h'=>mul_any na nb ao bo ca cb A B w' h h' (by omega) (by omega))
 rw [ra,rb,Bool.and_self,opErr_true,opNum_true,errOf_small _ hz,numOf_small _ hz] at CM
 have CK:=hide (fun w' u B' (iu:IsNum B' w' u (sval na A * sval nb B)) t=>make_num (x+y) iu hz (by omega) t)
 generalize dErr (sval na A * sval nb B) (x+y) = er at *
 generalize dM (sval na A * sval nb B) (x+y) = am at *
 generalize dX (sval na A * sval nb B) (x+y) = ax at *
 clear he hra hrb zx zy ra rb hz
 generalize sval na A * sval nb B = z at *
 have hb0:Below w.heap.size w (((w.alloc (.cells #[.bool na,.slice ao A.length ca,.int .i64 x] 41)).alloc (.cells #[.bool nb,.slice bo B.length cb,.int .i64 y] 41)).alloc (.cells #[.bool false,.slice none 0 0,.int .i64 0] 41)) :=
  (((Below.refl _ _).alloc (Nat.le_refl _) _).alloc (by simp) _).alloc (by simp;omega) _
 have x0:Box3 (((w.alloc (.cells #[.bool na,.slice ao A.length ca,.int .i64 x] 41)).alloc (.cells #[.bool nb,.slice bo B.length cb,.int .i64 y] 41)).alloc (.cells #[.bool false,.slice none 0 0,.int .i64 0] 41)) w.heap.size (.bool na) (.slice ao A.length ca) (.int .i64 x):=((Box3.new _ _ _ _).old _).old _
 have x1:Box3 (((w.alloc (.cells #[.bool na,.slice ao A.length ca,.int .i64 x] 41)).alloc (.cells #[.bool nb,.slice bo B.length cb,.int .i64 y] 41)).alloc (.cells #[.bool false,.slice none 0 0,.int .i64 0] 41)) (w.heap.size+1) (.bool nb) (.slice bo B.length cb) (.int .i64 y):=by
  have:=(Box3.new (w.alloc (.cells #[.bool na,.slice ao A.length ca,.int .i64 x] 41)) (.bool nb) (.slice bo B.length cb) (.int .i64 y)).old (.cells #[.bool false,.slice none 0 0,.int .i64 0] 41)
  simpa using this
 have x2:Box3 (((w.alloc (.cells #[.bool na,.slice ao A.length ca,.int .i64 x] 41)).alloc (.cells #[.bool nb,.slice bo B.length cb,.int .i64 y] 41)).alloc (.cells #[.bool false,.slice none 0 0,.int .i64 0] 41)) (w.heap.size+1+1) (.bool false) (.slice none 0 0) (.int .i64 0):=by
  have:=Box3.new ((w.alloc (.cells #[.bool na,.slice ao A.length ca,.int .i64 x] 41)).alloc (.cells #[.bool nb,.slice bo B.length cb,.int .i64 y] 41)) (.bool false) (.slice none 0 0) (.int .i64 0)
  simpa using this
 have B0:=hide hb0;have X0:=hide x0;have X1:=hide x1;have X2:=hide x2
 clear hb0 x0 x1 x2
 go_enter Tryz.func278,Tryz.ntmps278
 go_wp2_with fail
 refine (uH CC _ (hA.below (uH B0)) (hB.below (uH B0)) (hT.all (uH B0))).mono ?_
 rintro r w1 ⟨rfl,hb1⟩
 have x0:=(uH X0).all hb1;have x1:=(uH X1).all hb1;have x2:=(uH X2).all hb1
 have b1:=(uH B0).trans (hb1.mono (uH B0).size)
 have p0:=x0.c0;have p1:=x0.c1;have p2:=x0.c2
 have q0:=x1.c0;have q1:=x1.c1;have q2:=x1.c2
 have X0':=hide x0;have X1':=hide x1;have X2':=hide x2;have B1:=hide b1
 clear hb1 x0 x1 x2 b1 X0 X1 X2 B0 CC
 go_wp2_with fail
 refine (uH CM _ (hA.below (uH B1)) (hB.below (uH B1))).mono ?_
 rintro r w5 ⟨u,rfl,⟨n4,a4,c4,L4,rfl,i4⟩,hb1⟩
 have x0:=((uH X0').all hb1).old (.cells #[.bool n4,.slice a4 L4.length c4] 39)
 have x1:=((uH X1').all hb1).old (.cells #[.bool n4,.slice a4 L4.length c4] 39)
 have x2:=((uH X2').all hb1).old (.cells #[.bool n4,.slice a4 L4.length c4] 39)
 have b1:=((uH B1).trans (hb1.mono (uH B1).size)).alloc ((uH B1).trans (hb1.mono (uH B1).size)).size (.cells #[.bool n4,.slice a4 L4.length c4] 39)
 have iz:IsNum 0 (w5.alloc (.cells #[.bool n4,.slice a4 L4.length c4] 39)) (.agg #[.bool n4,.slice a4 L4.length c4]) z:=IsNum.mono (IsNum.below ⟨n4,a4,c4,L4,rfl,i4⟩ ((Below.refl _ _).alloc (Nat.le_refl _) _)) (Nat.zero_le _)
 clear X0' X1' X2' B1 hb1 i4 CM p0 p1 p2 q0 q1 q2
 have p2:=x0.c2;have q2:=x1.c2
 have X2':=hide x2;have B1:=hide b1;have IZ:=hide iz
 clear x0 x1 x2 b1 iz
 go_wp2_with fail
 refine (uH CK _ _ _ (uH IZ) (hT.all (uH B1))).mono ?_
 rintro r w4 ⟨v,rfl,iv,hb1⟩
 obtain ⟨n3,a3,c3,L3,rfl,i3⟩:=iv.num
 have x2:=(uH X2').all hb1
 have b2:=(uH B1).trans (hb1.mono (uH B1).size)
 have y0:=x2.c0;have y1:=x2.c1;have y2:=x2.c2;have f0:=x2.free 0;have f1:=x2.free 1;have f2:=x2.free 2
 have X3:=hide x2;have B2:=hide b2;have IV:=hide iv
 clear x2 b2 hb1 iv i3
 go_wp2
 refine bodyPost_ret (v:=.tuple #[.agg #[.bool n3,.slice a3 L3.length c3,.int .i64 (ax)],.int .i64 (er)]) (by simp [results,Tryz.results278,go_sem,y0,y1,y2]) rfl ⟨⟨_,rfl,(uH IV).put3 (uH X3) _ _ _⟩,below_put3 (uH B2) (by omega) _ _ _⟩
theorem dscale_right (na:Bool) (ao:Option Addr) (ca:Nat) (A:List Nat) (x n:Int) (w:World) (hA:LimbsAt w ao ca A) (hr:drB na A x = true) (hn:-32768≤n∧n≤32768) (hT:Tab w) :
  Calls Tryz.prog 250 #[.agg #[.bool na,.slice ao A.length ca,.int .i64 x],.int .i64 n] w fun r w'=>DyR w' r (dErr (sval na A) (x+n)) (dM (sval na A) (x+n)) (dX (sval na A) (x+n))∧Below w.heap.size w w':=by
 obtain ⟨ra,la,bx1,bx2,zx⟩:=drB_bounds hr
 have CC:=hide (fun w' h t=>dcheck_any na ao ca A x w' h (by omega) t)
 have he:drE na A x = 0:=by unfold drE;rw [hr];rfl
 rw [he] at CC
 have CW:=hide (fun w'=>within_any n 32768 w' (by decide) (by decide))
 rw [decide_eq_true hn] at CW
 have CK:=hide (fun w' h t=>make_right na ao ca A (x+n) w' h ra (by omega) t)
 generalize dErr (sval na A) (x+n) = er at *
 generalize dM (sval na A) (x+n) = am at *
 generalize dX (sval na A) (x+n) = ax at *
 obtain ⟨hn1,hn2⟩:=hn
 clear he hr zx ra
 have hb0:Below w.heap.size w ((w.alloc (.cells #[.bool na,.slice ao A.length ca,.int .i64 x] 41)).alloc (.cells #[.bool false,.slice none 0 0,.int .i64 0] 41)):=((Below.refl _ _).alloc (Nat.le_refl _) _).alloc (by simp) _
 have x0:Box3 ((w.alloc (.cells #[.bool na,.slice ao A.length ca,.int .i64 x] 41)).alloc (.cells #[.bool false,.slice none 0 0,.int .i64 0] 41)) w.heap.size (.bool na) (.slice ao A.length ca) (.int .i64 x):=(Box3.new _ _ _ _).old _
 have x2:Box3 ((w.alloc (.cells #[.bool na,.slice ao A.length ca,.int .i64 x] 41)).alloc (.cells #[.bool false,.slice none 0 0,.int .i64 0] 41)) (w.heap.size+1) (.bool false) (.slice none 0 0) (.int .i64 0):=by
  have:=Box3.new (w.alloc (.cells #[.bool na,.slice ao A.length ca,.int .i64 x] 41)) (.bool false) (.slice none 0 0) (.int .i64 0)
  simpa using this
 have B0:=hide hb0;have X0:=hide x0;have X2:=hide x2
 clear hb0 x0 x2
 go_enter Tryz.func250,Tryz.ntmps250
 go_wp2_with fail
 refine (uH CC _ (hA.below (uH B0)) (hT.all (uH B0))).mono ?_
 rintro r w1 ⟨rfl,hb1⟩
 have x0:=(uH X0).all hb1;have x2:=(uH X2).all hb1
 have b1:=(uH B0).trans (hb1.mono (uH B0).size)
 have p0:=x0.c0;have p1:=x0.c1;have p2:=x0.c2
 have X2':=hide x2;have B1:=hide b1
 clear hb1 x0 x2 b1 X0 X2 B0 CC
 go_wp2_with fail
 refine (uH CW _).mono ?_
 rintro r w2 ⟨rfl,rfl⟩
 go_wp2_with fail
 refine (uH CK _ (hA.below (uH B1)) (hT.all (uH B1))).mono ?_
 rintro r w4 ⟨v,rfl,iv,hb1⟩
 obtain ⟨n3,a3,c3,L3,rfl,i3⟩:=iv.num
 have x2:=(uH X2').all hb1
 have b2:=(uH B1).trans (hb1.mono (uH B1).size)
 have y0:=x2.c0;have y1:=x2.c1;have y2:=x2.c2;have f0:=x2.free 0;have f1:=x2.free 1;have f2:=x2.free 2
 have X3:=hide x2;have B2:=hide b2;have IV:=hide iv
 clear x2 b2 hb1 iv i3
 go_wp2
 refine bodyPost_ret (v:=.tuple #[.agg #[.bool n3,.slice a3 L3.length c3,.int .i64 (ax)],.int .i64 (er)]) (by simp [results,Tryz.results250,go_sem,y0,y1,y2]) rfl ⟨⟨_,rfl,(uH IV).put3 (uH X3) _ _ _⟩,below_put3 (uH B2) (by omega) _ _ _⟩
end Go.Proofs.YtdhmglmccafbnaaGreatDoor
namespace Go.Proofs.YtdhmglmccafbnaaGreatDoor
open Go.RowKit
attribute [local go_sem ↓] Go.wp_at_zero Go.wp_at_succ
theorem IsNum.toM {B:Nat} {w:World} {v:Value} {z:Int} (h:IsNum B w v z) (hz:z.natAbs < TOP):IsNumM 512 B w v z:=by
 obtain ⟨n,a,c,L,rfl,h1,h2,h3,h4,h5,h6⟩:=h
 exact ⟨n,a,c,L,rfl,h1,h2,h3,h4,h5,(val_lt_TOP L h1.2.1 h3).1 (by omega)⟩
theorem wrap_range (x:Int):-9223372036854775808≤IntKind.i64.wrap x∧IntKind.i64.wrap x≤9223372036854775807:=by
 simp only [IntKind.wrap,IntKind.signed,IntKind.bits]
 simp
 split <;> omega
theorem val_lt_pow (L:List Nat) (hf:Fits L) (k:Nat) (h:L.length≤k):val L < 2 ^ (32 * k):=by
 have h1:=val_lt L hf
 rw [show (4294967296:Nat) = 2 ^ 32 by decide,← Nat.pow_mul] at h1
 exact Nat.lt_of_lt_of_le h1 (Nat.pow_le_pow_right (by decide) (by omega))
theorem TOP_eq:TOP = 2 ^ (32 * TOPN):=by
 unfold TOP
 rw [show (4294967296:Nat) = 2 ^ 32 by decide,← Nat.pow_mul]
theorem lt_TOP {v k:Nat} (h:v < 2 ^ k) (hk:k≤16384):v < TOP:=by
 rw [TOP_eq]
 exact Nat.lt_of_lt_of_le h (Nat.pow_le_pow_right (by decide) hk)
theorem mul_lt_pow {a b j k:Nat} (h1:a < 2 ^ j) (h2:b < 2 ^ k):a * b < 2 ^ (j+k):=by
 rw [Nat.pow_add]
 exact Nat.mul_lt_mul_of_lt_of_le h1 (Nat.le_of_lt h2) (Nat.pow_pos (by decide))
theorem mul_TOP (na nb:Bool) (A B:List Nat) (fA:Fits A) (fB:Fits B) (la:A.length≤30) (lb:B.length≤30):(sval na A * sval nb B).natAbs < TOP:=by
 rw [Int.natAbs_mul,natAbs_sval,natAbs_sval]
 exact lt_TOP (mul_lt_pow (val_lt_pow A fA 30 la) (val_lt_pow B fB 30 lb)) (by decide)
theorem rmul_any (na nb:Bool) (ao bo:Option Addr) (ca cb:Nat) (A B:List Nat) (x y:Int) (w:World) (hA:LimbsAt w ao ca A) (hB:LimbsAt w bo cb B) (la:A.length≤30) (lb:B.length≤30) :
  Calls Tryz.prog 25 #[.agg #[.bool na,.slice ao A.length ca,.int .i64 x],.agg #[.bool nb,.slice bo B.length cb,.int .i64 y]] w fun r w'=>∃ v,r = .returned v∧IsDy w' v (oM (sval na A * sval nb B)) (if sval na A * sval nb B = 0 then 0 else IntKind.i64.wrap (IntKind.i64.wrap (x+y)+tz (sval na A * sval nb B).natAbs))∧Below w.heap.size w w':=by
 have hz:=mul_TOP na nb A B hA.2.1 hB.2.1 la lb
 have CM:=hide (fun w' h h'=>refMul_any na nb ao bo ca cb A B w' h h' (by omega) (by omega))
 have CO:=hide (fun e' w' u B' (iu:IsNum B' w' u (sval na A * sval nb B)) (he:e' = IntKind.i64.wrap (x+y))=>show Calls Tryz.prog 45 #[u,.int .i64 e'] w' fun r w''=>∃ u,r = .returned u∧IsDy w'' u (oM (sval na A * sval nb B)) (if sval na A * sval nb B = 0 then 0 else IntKind.i64.wrap (IntKind.i64.wrap (x+y)+tz (sval na A * sval nb B).natAbs))∧Below w'.heap.size w' w'' by
  subst he
  exact rof_num _ (iu.toM hz) (by decide) (wrap_range _))
 clear hz
 generalize sval na A * sval nb B = z at *
 generalize (if z = 0 then 0 else IntKind.i64.wrap (IntKind.i64.wrap (x+y)+tz z.natAbs)) = ox at *
 generalize oM z = om at *
 have hb0:Below w.heap.size w (((w.alloc (.cells #[.bool na,.slice ao A.length ca,.int .i64 x] 41)).alloc (.cells #[.bool nb,.slice bo B.length cb,.int .i64 y] 41)).alloc (.cells #[.bool false,.slice none 0 0,.int .i64 0] 41)) :=
  (((Below.refl _ _).alloc (Nat.le_refl _) _).alloc (by simp) _).alloc (by simp;omega) _
 have x0:Box3 (((w.alloc (.cells #[.bool na,.slice ao A.length ca,.int .i64 x] 41)).alloc (.cells #[.bool nb,.slice bo B.length cb,.int .i64 y] 41)).alloc (.cells #[.bool false,.slice none 0 0,.int .i64 0] 41)) w.heap.size (.bool na) (.slice ao A.length ca) (.int .i64 x):=((Box3.new _ _ _ _).old _).old _
 have x1:Box3 (((w.alloc (.cells #[.bool na,.slice ao A.length ca,.int .i64 x] 41)).alloc (.cells #[.bool nb,.slice bo B.length cb,.int .i64 y] 41)).alloc (.cells #[.bool false,.slice none 0 0,.int .i64 0] 41)) (w.heap.size+1) (.bool nb) (.slice bo B.length cb) (.int .i64 y):=by
  have:=(Box3.new (w.alloc (.cells #[.bool na,.slice ao A.length ca,.int .i64 x] 41)) (.bool nb) (.slice bo B.length cb) (.int .i64 y)).old (.cells #[.bool false,.slice none 0 0,.int .i64 0] 41)
  simpa using this
 have x2:Box3 (((w.alloc (.cells #[.bool na,.slice ao A.length ca,.int .i64 x] 41)).alloc (.cells #[.bool nb,.slice bo B.length cb,.int .i64 y] 41)).alloc (.cells #[.bool false,.slice none 0 0,.int .i64 0] 41)) (w.heap.size+1+1) (.bool false) (.slice none 0 0) (.int .i64 0):=by
  have:=Box3.new ((w.alloc (.cells #[.bool na,.slice ao A.length ca,.int .i64 x] 41)).alloc (.cells #[.bool nb,.slice bo B.length cb,.int .i64 y] 41)) (.bool false) (.slice none 0 0) (.int .i64 0)
  simpa using this
 have B0:=hide hb0;have X0:=hide x0;have X1:=hide x1;have X2:=hide x2
 clear hb0 x0 x1 x2
 go_enter Tryz.func25,Tryz.ntmps25
 go_wp2_with fail
 refine at_world (fun W=>Below w.heap.size w W∧Box3 W w.heap.size (.bool na) (.slice ao A.length ca) (.int .i64 x)∧Box3 W (w.heap.size+1) (.bool nb) (.slice bo B.length cb) (.int .i64 y)∧Box3 W (w.heap.size+1+1) (.bool false) (.slice none 0 0) (.int .i64 0)) ⟨uH B0,uH X0,uH X1,uH X2⟩ ?_
 clear B0 X0 X1 X2
 rintro W0 ⟨b0,x0,x1,x2⟩
 have s0:w.heap.size+1+1 < W0.heap.size:=x2.lt
 have hK:∀ w',Below (w.heap.size+1+1) W0 w'→Below (w.heap.size+1+1) W0 w'∧w'.cell? ⟨w.heap.size,0,none⟩ = some (.bool na)∧w'.cell? ⟨w.heap.size,1,none⟩ = some (.slice ao A.length ca)∧w'.cell? ⟨w.heap.size,2,none⟩ = some (.int .i64 x)∧w'.cell? ⟨w.heap.size+1,0,none⟩ = some (.bool nb)∧w'.cell? ⟨w.heap.size+1,1,none⟩ = some (.slice bo B.length cb)∧w'.cell? ⟨w.heap.size+1,2,none⟩ = some (.int .i64 y):=fun w' h =>
  ⟨h,(x0.below h (by omega)).c0,(x0.below h (by omega)).c1,(x0.below h (by omega)).c2,(x1.below h (by omega)).c0,(x1.below h (by omega)).c1,(x1.below h (by omega)).c2⟩
 have HK:=hide hK;have BB:=hide b0;have X2:=hide x2
 clear hK b0 x0 x1 x2
 go_region_held3 (fun w'=>Below (w.heap.size+1+1) W0 w'∧w'.cell? ⟨w.heap.size,0,none⟩ = some (.bool na)∧w'.cell? ⟨w.heap.size,1,none⟩ = some (.slice ao A.length ca)∧w'.cell? ⟨w.heap.size,2,none⟩ = some (.int .i64 x)∧w'.cell? ⟨w.heap.size+1,0,none⟩ = some (.bool nb)∧w'.cell? ⟨w.heap.size+1,1,none⟩ = some (.slice bo B.length cb)∧w'.cell? ⟨w.heap.size+1,2,none⟩ = some (.int .i64 y))
  (first | exact uH HK _ (Below.refl _ _).drew | exact uH HK _ (by assumption) | exact uH HK _ (below_put3 hB2 (by omega) _ _ _))
  (first | (go_at_call 72;refine (uH CM _ (hA.below ((uH BB).trans ((Below.refl _ _).drew))) (hB.below ((uH BB).trans ((Below.refl _ _).drew)))).mono ?_;rintro e w3 ⟨v,rfl,⟨n4,a4,c4,L4,rfl,i4⟩,hb1⟩;have hB1:Below (w.heap.size+1+1) W0 w3:=((Below.refl _ _).drew).trans (hb1.mono (by simp;omega));have X3:=hide ((uH X2).drew.below hb1 (by simp;omega));have IZ:=hide (show IsNum 0 w3 (.agg #[.bool n4,.slice a4 L4.length c4]) z from ⟨n4,a4,c4,L4,rfl,i4⟩);have s1:=hb1.size;have BB1:=hide ((uH BB).trans (hB1.mono (by omega)));clear hb1 i4) | (go_at_call 45;refine (uH CO _ _ _ _ (uH IZ) (by first | rfl | exact (wrap64_is _))).mono ?_;rintro e w4 ⟨u,rfl,iu,hb2⟩;obtain ⟨n5,a5,c5,L5,rfl,i5⟩:=iu.num;have hB2:Below (w.heap.size+1+1) W0 w4:=hB1.trans (hb2.mono (by simp at s1;omega));have X4:=(uH X3).below hb2 (by simp at s1;omega);have y0:=X4.c0;have y1:=X4.c1;have y2:=X4.c2;have f0:=X4.free 0;have f1:=X4.free 1;have f2:=X4.free 2;have IU:=hide iu;have X5:=hide X4;have BB2:=hide ((uH BB1).trans (hb2.mono (by simp at s1;omega)));clear hb2 iu i5 X4))
 go_wp2
 refine bodyPost_ret (v:=.agg #[.bool n5,.slice a5 L5.length c5,.int .i64 ox]) (by simp [results,Tryz.results25,go_sem,y0,y1,y2]) rfl ⟨_,rfl,(uH IU).put3 (uH X5) _ _ _,below_put3 (uH BB2) (by omega) _ _ _⟩
end Go.Proofs.YtdhmglmccafbnaaGreatDoor
namespace Go.Proofs.YtdhmglmccafbnaaGreatDoor
open Go.RowKit
attribute [local go_sem ↓] Go.wp_at_zero Go.wp_at_succ
theorem rscale_any (na:Bool) (ao:Option Addr) (ca:Nat) (A:List Nat) (x n:Int) (w:World) (hA:LimbsAt w ao ca A) (hr:rightB na A = true) (hx:-16384≤x∧x≤16384) (hn:-32768≤n∧n≤32768) :
  Calls Tryz.prog 47 #[.agg #[.bool na,.slice ao A.length ca,.int .i64 x],.int .i64 n] w fun r w'=>∃ v,r = .returned v∧IsDy w' v (oM (sval na A)) (oE (sval na A) (x+n))∧Below w.heap.size w w':=by
 have hz:=sval_TOP hA hr
 have CO:=hide (fun w' (h:LimbsAt w' ao ca A)=>rof_small (x+n) ((right_num h hr (NewAt.zero h)).toM hz) (by decide) (by omega))
 clear hz hr
 generalize oE (sval na A) (x+n) = ox at *
 generalize oM (sval na A) = om at *
 obtain ⟨hx1,hx2⟩:=hx
 obtain ⟨hn1,hn2⟩:=hn
 have hb0:Below w.heap.size w ((w.alloc (.cells #[.bool na,.slice ao A.length ca,.int .i64 x] 41)).alloc (.cells #[.bool false,.slice none 0 0,.int .i64 0] 41)):=((Below.refl _ _).alloc (Nat.le_refl _) _).alloc (by simp) _
 have x0:Box3 ((w.alloc (.cells #[.bool na,.slice ao A.length ca,.int .i64 x] 41)).alloc (.cells #[.bool false,.slice none 0 0,.int .i64 0] 41)) w.heap.size (.bool na) (.slice ao A.length ca) (.int .i64 x):=(Box3.new _ _ _ _).old _
 have x2:Box3 ((w.alloc (.cells #[.bool na,.slice ao A.length ca,.int .i64 x] 41)).alloc (.cells #[.bool false,.slice none 0 0,.int .i64 0] 41)) (w.heap.size+1) (.bool false) (.slice none 0 0) (.int .i64 0):=by
  have:=Box3.new (w.alloc (.cells #[.bool na,.slice ao A.length ca,.int .i64 x] 41)) (.bool false) (.slice none 0 0) (.int .i64 0)
  simpa using this
 have B0:=hide hb0;have X0:=hide x0;have X2:=hide x2
 clear hb0 x0 x2
 go_enter Tryz.func47,Tryz.ntmps47
 go_wp2_with fail
 refine (uH CO _ (hA.below (uH B0))).mono ?_
 rintro r w4 ⟨v,rfl,iv,hb1⟩
 obtain ⟨n3,a3,c3,L3,rfl,i3⟩:=iv.num
 have x2:=(uH X2).all hb1
 have b2:=(uH B0).trans (hb1.mono (uH B0).size)
 have y0:=x2.c0;have y1:=x2.c1;have y2:=x2.c2;have f0:=x2.free 0;have f1:=x2.free 1;have f2:=x2.free 2
 have X3:=hide x2;have B2:=hide b2;have IV:=hide iv
 clear x2 b2 hb1 iv i3
 go_wp2
 refine bodyPost_ret (v:=.agg #[.bool n3,.slice a3 L3.length c3,.int .i64 ox]) (by simp [results,Tryz.results47,go_sem,y0,y1,y2]) rfl ⟨_,rfl,(uH IV).put3 (uH X3) _ _ _,below_put3 (uH B2) (by omega) _ _ _⟩
end Go.Proofs.YtdhmglmccafbnaaGreatDoor
namespace Go.Proofs.YtdhmglmccafbnaaGreatDoor
open Go.RowKit
theorem bitLen_spec:∀ (t:Nat),0 < t→t < 4294967296→1≤Lib.bitLen t∧2 ^ (Lib.bitLen t - 1)≤t∧t < 2 ^ Lib.bitLen t:=by
 intro t
 induction t using Nat.strongRecOn with
 | ind t ih =>
  intro h0 h1
  have hb:=bitLen_half t h0 h1
  by_cases h2:t = 1
  ·subst h2;decide
  ·obtain ⟨i1,i2,i3⟩:=ih (t / 2) (by omega) (by omega) (by omega)
   rw [hb]
   refine ⟨by omega,?_,?_⟩
   ·rw [show 1+Lib.bitLen (t / 2) - 1 = (Lib.bitLen (t / 2) - 1)+1 by omega,Nat.pow_succ]
    omega
   ·rw [show 1+Lib.bitLen (t / 2) = Lib.bitLen (t / 2)+1 by omega,Nat.pow_succ]
    omega
def bits1 (L:List Nat):Nat:=if L.length = 0 then 0 else 32 * (L.length - 1)+Lib.bitLen (L[L.length - 1]?.getD 0)
theorem lenL_bits (L:List Nat):lenL L = (bits1 L:Int):=by
 unfold lenL bits1
 by_cases h:L.length = 0
 ·rw [if_pos h,if_pos h];rfl
 ·rw [if_neg h,if_neg h];omega
theorem bits_spec (L:List Nat) (hf:Fits L) (hc:Canon L) (h0:L ≠ []):1≤bits1 L∧2 ^ (bits1 L - 1)≤val L∧val L < 2 ^ bits1 L:=by
 have hl:0 < L.length:=List.length_pos_iff.2 h0
 have ht:L[L.length - 1]?.getD 0 ≠ 0:=by
  rcases hc with h | h
  ·exact absurd h h0
  ·exact h
 have htl:L[L.length - 1]?.getD 0 < 4294967296:=by
  rw [List.getElem?_eq_getElem (by omega)]
  exact hf _ (List.getElem_mem _)
 obtain ⟨s1,s2,s3⟩:=bitLen_spec (L[L.length - 1]?.getD 0) (by omega) htl
 have hv:=val_take_succ L (L.length - 1)
 rw [show L.length - 1+1 = L.length by omega,List.take_length] at hv
 have hr:=val_take_lt L hf (L.length - 1)
 rw [show (4294967296:Nat) = 2 ^ 32 by decide,← Nat.pow_mul] at hr hv
 unfold bits1
 rw [if_neg (by omega)]
 generalize L[L.length - 1]?.getD 0 = t at *
 generalize Lib.bitLen t = b at *
 generalize val (L.take (L.length - 1)) = r at *
 generalize hk:32 * (L.length - 1) = k at *
 refine ⟨by omega,?_,?_⟩
 ·rw [show k+b - 1 = k+(b - 1) by omega,Nat.pow_add,hv]
  have:2 ^ k * 2 ^ (b - 1)≤2 ^ k * t:=Nat.mul_le_mul_left _ s2
  omega
 ·rw [Nat.pow_add,hv]
  have:2 ^ k * (t+1)≤2 ^ k * 2 ^ b:=Nat.mul_le_mul_left _ s3
  rw [Nat.mul_add] at this
  omega
theorem bits_up (v n d k:Nat) (h1:1≤n) (h2:2 ^ (n - 1)≤v) (h3:v < 2 ^ n):v * 2 ^ d < 2 ^ k ↔ n+d≤k:=by
 constructor
 ·intro h
  apply Nat.le_of_not_lt
  intro hlt
  have e1:2 ^ (n - 1) * 2 ^ d≤v * 2 ^ d:=Nat.mul_le_mul_right _ h2
  rw [← Nat.pow_add] at e1
  have e2:2 ^ k≤2 ^ (n - 1+d):=Nat.pow_le_pow_right (by decide) (by omega)
  omega
 ·intro h
  have e1:v * 2 ^ d < 2 ^ n * 2 ^ d:=Nat.mul_lt_mul_of_pos_right h3 (Nat.pow_pos (by decide))
  rw [← Nat.pow_add] at e1
  exact Nat.lt_of_lt_of_le e1 (Nat.pow_le_pow_right (by decide) h)
theorem natAbs_up (n:Bool) (L:List Nat) (x l:Int):(up (sval n L) x l).natAbs = val L * 2 ^ (x - l).toNat:=by
 unfold up
 rw [Int.natAbs_mul,natAbs_sval,Int.natAbs_pow]
 rfl
theorem up_bits (n:Bool) (L:List Nat) (x l:Int) (hf:Fits L) (hr:rightB n L = true) (h0:L ≠ []) (hl:l≤x):upE (sval n L) x l = 0 ↔ (x - l≤16384∧lenL L+x - l≤16384):=by
 obtain ⟨s1,s2,s3⟩:=bits_spec L hf (right_canon hr).2.1 h0
 have hb:=bits_up (val L) (bits1 L) (x - l).toNat (32 * TOPN) s1 s2 s3
 rw [← TOP_eq,← natAbs_up n L x l] at hb
 have e2:32 * TOPN = 16384:=rfl
 rw [lenL_bits]
 constructor
 ·intro h
  have:=hb.1 (upE_TOP h)
  omega
 ·intro h
  exact upE_ok _ _ _ (hb.2 (by omega)) h.1
end Go.Proofs.YtdhmglmccafbnaaGreatDoor
namespace Go.Proofs.YtdhmglmccafbnaaGreatDoor
open Go.RowKit
def fA (b:Nat):Nat:=if fP b = 0 then fF b else fF b+4503599627370496
def fM (b:Nat):Int:=sg (fS b) (fA b)
def fE (b:Nat):Int:=if fP b = 0 then -1074 else (fP b:Int) - 1075
theorem fA_lt (b:Nat):fA b < 9007199254740992:=by unfold fA;have:=fF_lt b;split <;> omega
theorem fM_lt (b:Nat):(fM b).natAbs < 9007199254740992:=by
 have:=fA_lt b
 unfold fM sg
 split <;> omega
theorem fE_in (b:Nat):-1074≤fE b∧fE b≤972:=by
 have:=fP_lt b
 unfold fE
 split <;> omega
theorem parts_any (b:Nat) (w:World) :
  Calls Tryz.prog 235 #[fV b] w fun e w'=>e = .returned (.tuple #[.int .i64 (fM b),.int .i64 (fE b)])∧Below w.heap.size w w':=by
 unfold fV fM fE fA
 have hp:=fP_lt b
 have hf:=fF_lt b
 generalize fF b = f at *
 generalize fP b = p at *
 generalize fS b = s at *
 have hf0:(0:Int)≤f:=by omega
 have hf1:(f:Int) < 4503599627370496:=by omega
 have hp1:(p:Int) < 2048:=by omega
 by_cases h0:p = 0
 ·subst h0
  rw [if_pos rfl,if_pos rfl]
  cases s
  ·go_enter Tryz.func235,Tryz.ntmps235
   go_wp2
   exact bodyPost_ret (v:=.tuple #[.int .i64 f,.int .i64 (-1074)]) (by simp [results,Tryz.results235,go_sem]) rfl ⟨rfl,(Below.refl _ _).alloc (Nat.le_refl _) _⟩
  ·go_enter Tryz.func235,Tryz.ntmps235
   go_wp2
   exact bodyPost_ret (v:=.tuple #[.int .i64 (-f),.int .i64 (-1074)]) (by simp [results,Tryz.results235,go_sem]) rfl ⟨rfl,(Below.refl _ _).alloc (Nat.le_refl _) _⟩
 ·rw [if_neg h0,if_neg h0]
  have h1:0 < p:=by omega
  have h1':decide (0 < p) = true:=decide_eq_true h1
  have w0:IntKind.i64.wrap (f:Int) = (f:Int):=by simp only [IntKind.wrap_i64];omega
  have w2:IntKind.i64.wrap (p:Int) = (p:Int):=by simp only [IntKind.wrap_i64];omega
  obtain ⟨a,ha⟩:∃ a:Nat,a = f+4503599627370496:=⟨_,rfl⟩
  have w1:IntKind.i64.wrap ((f:Int)+4503599627370496) = (a:Int):=by simp only [IntKind.wrap_i64];omega
  have w4:IntKind.i64.wrap (-(a:Int)) = -(a:Int):=by simp only [IntKind.wrap_i64];omega
  have w5:IntKind.i64.wrap ((p:Int) - 1) = (p:Int) - 1:=by simp only [IntKind.wrap_i64];omega
  have w6:IntKind.i64.wrap (-1074+((p:Int) - 1)) = (p:Int) - 1075:=by simp only [IntKind.wrap_i64];omega
  rw [← ha]
  clear h0 hf hp hf1 hp1 hf0 ha
  cases s
  ·go_enter Tryz.func235,Tryz.ntmps235
   go_wp2
   exact bodyPost_ret (v:=.tuple #[.int .i64 a,.int .i64 (p - 1075)]) (by simp [results,Tryz.results235,go_sem]) rfl ⟨rfl,(Below.refl _ _).alloc (Nat.le_refl _) _⟩
  ·go_enter Tryz.func235,Tryz.ntmps235
   go_wp2
   exact bodyPost_ret (v:=.tuple #[.int .i64 (-a),.int .i64 (p - 1075)]) (by simp [results,Tryz.results235,go_sem]) rfl ⟨rfl,(Below.refl _ _).alloc (Nat.le_refl _) _⟩
end Go.Proofs.YtdhmglmccafbnaaGreatDoor
namespace Go.Proofs.YtdhmglmccafbnaaGreatDoor
open Go.RowKit
attribute [local go_sem ↓] Go.wp_at_zero Go.wp_at_succ
def lowR (n m:Nat) (x y:Int):Int:=if n = 0 then y else if m = 0 then x else min x y
theorem lowR_E {na nb:Bool} {A B:List Nat} {x y:Int} (ra:rightB na A = true) (rb:rightB nb B = true):lowR A.length B.length x y = lowE (sval na A) x (sval nb B) y:=by
 unfold lowR lowE
 by_cases h1:A.length = 0
 ·rw [if_pos h1,if_pos ((sval_zero_iff ra).2 h1)]
 ·rw [if_neg h1,if_neg (fun e=>h1 ((sval_zero_iff ra).1 e))]
  by_cases h2:B.length = 0
  ·rw [if_pos h2,if_pos ((sval_zero_iff rb).2 h2)]
  ·rw [if_neg h2,if_neg (fun e=>h2 ((sval_zero_iff rb).1 e))]
theorem low_any (na nb:Bool) (ao bo:Option Addr) (ca cb n m:Nat) (x y:Int) (w:World) :
  Calls Tryz.prog 73 #[.agg #[.bool na,.slice ao n ca,.int .i64 x],.agg #[.bool nb,.slice bo m cb,.int .i64 y]] w fun r w'=>r = .returned (.int .i64 (lowR n m x y))∧Below w.heap.size w w':=by
 have hb0:Below w.heap.size w ((w.alloc (.cells #[.bool na,.slice ao n ca,.int .i64 x] 41)).alloc (.cells #[.bool nb,.slice bo m cb,.int .i64 y] 41)):=((Below.refl _ _).alloc (Nat.le_refl _) _).alloc (by simp) _
 have B0:=hide hb0
 clear hb0
 by_cases h1:n = 0
 ·have hl:lowR n m x y = y:=by unfold lowR;rw [if_pos h1]
  rw [hl]
  subst h1
  clear hl
  go_enter Tryz.func73,Tryz.ntmps73
  go_wp2
  go_ret
  exact ⟨rfl,uH B0⟩
 have h1':((n:Int) == 0) = false:=by rw [beq_eq_false_iff_ne];omega
 by_cases h2:m = 0
 ·have hl:lowR n m x y = x:=by unfold lowR;rw [if_neg h1,if_pos h2]
  rw [hl]
  subst h2
  clear hl h1
  go_enter Tryz.func73,Tryz.ntmps73
  go_wp2
  go_ret
  exact ⟨rfl,uH B0⟩
 have h2':((m:Int) == 0) = false:=by rw [beq_eq_false_iff_ne];omega
 have HL:=hide (show lowR n m x y = min x y by unfold lowR;rw [if_neg h1,if_neg h2])
 generalize lowR n m x y = l at *
 clear h1 h2
 rcases (show x < y ∨ x = y ∨ y < x by omega) with hxy | hxy | hxy
 ·have hl:l = x:=by rw [uH HL];omega
  subst hl
  clear HL
  go_enter Tryz.func73,Tryz.ntmps73
  go_wp2
  go_ret
  exact ⟨rfl,uH B0⟩
 ·have hl:l = x:=by rw [uH HL];omega
  subst hxy
  subst hl
  clear HL
  go_enter Tryz.func73,Tryz.ntmps73
  go_wp2
  go_ret
  exact ⟨rfl,uH B0⟩
 ·have hl:l = y:=by rw [uH HL];omega
  subst hl
  clear HL
  go_enter Tryz.func73,Tryz.ntmps73
  go_wp2
  go_ret
  exact ⟨rfl,uH B0⟩
end Go.Proofs.YtdhmglmccafbnaaGreatDoor
