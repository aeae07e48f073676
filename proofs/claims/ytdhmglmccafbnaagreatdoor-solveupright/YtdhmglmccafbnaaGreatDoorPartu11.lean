/- Part 11 of the texts. -/
import Derived.Test.YtdhmglmccafbnaaGreatDoorPartu10
set_option maxHeartbeats 4000000
namespace Go.Proofs.YtdhmglmccafbnaaGreatDoor
open Go.RowKit
attribute [local go_sem ↓] Go.wp_at_zero Go.wp_at_succ
theorem lowR_bounds (n m:Nat) (x y:Int) (hx:-16384≤x∧x≤16384) (hy:-16384≤y∧y≤16384):-16384≤lowR n m x y∧lowR n m x y≤16384:=by
 unfold lowR
 split
 ·omega
 ·split <;> omega
theorem level_any (na:Bool) (ao:Option Addr) (ca:Nat) (A:List Nat) (x l:Int) (w:World) (hA:LimbsAt w ao ca A) (ra:rightB na A = true) (h:A.length ≠ 0→l≤x∧x - l≤16384) (hx:-16384≤x∧x≤16384) (hl:-16384≤l∧l≤16384) :
  Calls Tryz.prog 75 #[.agg #[.bool na,.slice ao A.length ca,.int .i64 x],.int .i64 l] w fun r w'=>∃ v,r = .returned v∧IsNum 0 w' v (up (sval na A) x l)∧Below w.heap.size w w':=by
 have la:=(right_canon ra).1
 have HZ:=hide (show A.length = 0→up (sval na A) x l = 0∧na = false from fun h0=>by
  refine ⟨by rw [(sval_zero_iff ra).2 h0,up_zero],?_⟩
  cases na
  ·rfl
  ·exact absurd (List.length_eq_zero_iff.1 h0) ((right_canon ra).2.2 rfl))
 have CS:=hide (fun w' h' (h0:A.length ≠ 0)=>show Calls Tryz.prog 131 #[.agg #[.bool na,.slice ao A.length ca],.int .i64 (x - l)] w' fun e w''=>∃ v,e = .returned v∧IsNum 0 w'' v (up (sval na A) x l)∧Below w'.heap.size w' w'' by
  have:=refShift_any na ao ca A (x - l) w' h' ra (by have:=h h0;omega)
  rwa [shV_upto na A (x - l) (by have:=h h0;omega)] at this)
 clear h ra
 generalize up (sval na A) x l = z at *
 obtain ⟨hx1,hx2⟩:=hx
 obtain ⟨hl1,hl2⟩:=hl
 have hb0:Below w.heap.size w ((w.alloc (.cells #[.bool na,.slice ao A.length ca,.int .i64 x] 41)).alloc (.cells #[.bool false,.slice none 0 0] 39)):=((Below.refl _ _).alloc (Nat.le_refl _) _).alloc (by simp) _
 have x0:Box3 ((w.alloc (.cells #[.bool na,.slice ao A.length ca,.int .i64 x] 41)).alloc (.cells #[.bool false,.slice none 0 0] 39)) w.heap.size (.bool na) (.slice ao A.length ca) (.int .i64 x):=(Box3.new _ _ _ _).old _
 have x2:Box2 ((w.alloc (.cells #[.bool na,.slice ao A.length ca,.int .i64 x] 41)).alloc (.cells #[.bool false,.slice none 0 0] 39)) (w.heap.size+1) (.bool false) (.slice none 0 0):=by
  have:=Box2.new (w.alloc (.cells #[.bool na,.slice ao A.length ca,.int .i64 x] 41)) (.bool false) (.slice none 0 0)
  simpa using this
 have B0:=hide hb0;have X0:=hide x0;have X2:=hide x2
 clear hb0 x0 x2
 by_cases h0:A.length = 0
 ·obtain ⟨rfl,rfl⟩:=uH HZ h0
  have hA0:A = []:=List.length_eq_zero_iff.1 h0
  subst hA0
  clear HZ CS h0
  go_enter Tryz.func75,Tryz.ntmps75
  go_wp2
  refine bodyPost_ret (v:=.agg #[.bool false,.slice ao 0 ca]) (by simp [results,Tryz.results75,go_sem]) rfl ⟨_,rfl,IsNum.zero _ _ _ _,?_⟩
  exact ((Below.refl w.heap.size w).alloc (Nat.le_refl _) _).alloc (by simp) _
 have h0':((A.length:Int) == 0) = false:=by rw [beq_eq_false_iff_ne];omega
 have CS':=hide (fun w' h'=>uH CS w' h' h0)
 clear HZ CS h0
 go_enter Tryz.func75,Tryz.ntmps75
 go_wp2_with fail
 refine (uH CS' _ (hA.below (uH B0))).mono ?_
 rintro r w2 ⟨v,rfl,⟨n3,a3,c3,L3,rfl,i3⟩,hb1⟩
 have x2:=(uH X2).all hb1
 have b2:=(uH B0).trans (hb1.mono (uH B0).size)
 have y0:=x2.c0;have y1:=x2.c1;have f0:=x2.free 0;have f1:=x2.free 1
 have X3:=hide x2;have B2:=hide b2;have I3:=hide i3
 clear x2 b2 hb1 i3
 go_wp2
 refine bodyPost_ret (v:=.agg #[.bool n3,.slice a3 L3.length c3]) (by simp [results,Tryz.results75,go_sem,y0,y1]) rfl ⟨_,rfl,⟨n3,a3,c3,L3,rfl,(uH I3).1.box (uH X3) _ _,(uH I3).2⟩,below_put2 (uH B2) (by omega) _ _⟩
theorem rneg_any (na:Bool) (ao:Option Addr) (ca:Nat) (A:List Nat) (x:Int) (w:World) (hA:LimbsAt w ao ca A) (la:A.length≤512) :
  Calls Tryz.prog 115 #[.agg #[.bool na,.slice ao A.length ca,.int .i64 x]] w fun r w'=>∃ v,r = .returned v∧IsDy w' v (- sval na A) x∧Below w.heap.size w w':=by
 have CN:=hide (fun w' h=>refNeg_any na ao ca A w' h (by omega))
 generalize - sval na A = z at *
 have hb0:Below w.heap.size w ((w.alloc (.cells #[.bool na,.slice ao A.length ca,.int .i64 x] 41)).alloc (.cells #[.bool false,.slice none 0 0,.int .i64 0] 41)):=((Below.refl _ _).alloc (Nat.le_refl _) _).alloc (by simp) _
 have x0:Box3 ((w.alloc (.cells #[.bool na,.slice ao A.length ca,.int .i64 x] 41)).alloc (.cells #[.bool false,.slice none 0 0,.int .i64 0] 41)) w.heap.size (.bool na) (.slice ao A.length ca) (.int .i64 x):=(Box3.new _ _ _ _).old _
 have x2:Box3 ((w.alloc (.cells #[.bool na,.slice ao A.length ca,.int .i64 x] 41)).alloc (.cells #[.bool false,.slice none 0 0,.int .i64 0] 41)) (w.heap.size+1) (.bool false) (.slice none 0 0) (.int .i64 0):=by
  have:=Box3.new (w.alloc (.cells #[.bool na,.slice ao A.length ca,.int .i64 x] 41)) (.bool false) (.slice none 0 0) (.int .i64 0)
  simpa using this
 have B0:=hide hb0;have X0:=hide x0;have X2:=hide x2
 clear hb0 x0 x2
 go_enter Tryz.func115,Tryz.ntmps115
 go_wp2_with fail
 refine at_world (fun W=>Below w.heap.size w W∧Box3 W w.heap.size (.bool na) (.slice ao A.length ca) (.int .i64 x)∧Box3 W (w.heap.size+1) (.bool false) (.slice none 0 0) (.int .i64 0)) ⟨uH B0,uH X0,uH X2⟩ ?_
 clear B0 X0 X2
 rintro W0 ⟨b0,x0,x2⟩
 have s0:w.heap.size+1 < W0.heap.size:=x2.lt
 have hK:∀ w',Below (w.heap.size+1) W0 w'→Below (w.heap.size+1) W0 w'∧w'.cell? ⟨w.heap.size,0,none⟩ = some (.bool na)∧w'.cell? ⟨w.heap.size,1,none⟩ = some (.slice ao A.length ca)∧w'.cell? ⟨w.heap.size,2,none⟩ = some (.int .i64 x):=fun w' h =>
  ⟨h,(x0.below h (by omega)).c0,(x0.below h (by omega)).c1,(x0.below h (by omega)).c2⟩
 have HK:=hide hK;have BB:=hide b0;have X2:=hide x2
 clear hK b0 x0 x2
 go_region_held3 (fun w'=>Below (w.heap.size+1) W0 w'∧w'.cell? ⟨w.heap.size,0,none⟩ = some (.bool na)∧w'.cell? ⟨w.heap.size,1,none⟩ = some (.slice ao A.length ca)∧w'.cell? ⟨w.heap.size,2,none⟩ = some (.int .i64 x))
  (first | exact uH HK _ (Below.refl _ _).drew | exact uH HK _ (by assumption) | exact uH HK _ (below_put3 hB1 (by omega) _ _ _))
  (first | (go_at_call 119;refine (uH CN _ (hA.below ((uH BB).trans ((Below.refl _ _).drew)))).mono ?_;rintro e w3 ⟨v,rfl,⟨n4,a4,c4,L4,rfl,i4⟩,hb1⟩;have hB1:Below (w.heap.size+1) W0 w3:=((Below.refl _ _).drew).trans (hb1.mono (by simp;omega));have X4:=((uH X2).drew.below hb1 (by simp;omega));have IZ:=hide (show IsNum 0 w3 (.agg #[.bool n4,.slice a4 L4.length c4]) z from ⟨n4,a4,c4,L4,rfl,i4.1,i4.2.1,i4.2.2.1,i4.2.2.2.1,i4.2.2.2.2.1,by have:=i4.2.2.2.2.2;omega⟩);have y0:=X4.c0;have y1:=X4.c1;have y2:=X4.c2;have f0:=X4.free 0;have f1:=X4.free 1;have f2:=X4.free 2;have X5:=hide X4;have BB1:=hide ((uH BB).trans (hB1.mono (by omega)));clear hb1 i4 X4))
 go_wp2
 have j2:IsDy w3 (.agg #[.bool n4,.slice a4 L4.length c4,.int .i64 x]) z x:=⟨n4,a4,c4,L4,rfl,uH IZ⟩
 refine bodyPost_ret (v:=.agg #[.bool n4,.slice a4 L4.length c4,.int .i64 x]) (by simp [results,Tryz.results115,go_sem,y0,y1,y2]) rfl ⟨_,rfl,j2.put3 (uH X5) _ _ _,below_put3 (uH BB1) (by omega) _ _ _⟩
end Go.Proofs.YtdhmglmccafbnaaGreatDoor
namespace Go.Proofs.YtdhmglmccafbnaaGreatDoor
open Go.RowKit
attribute [local go_sem ↓] Go.wp_at_zero Go.wp_at_succ
theorem refAdd_num {B B':Nat} {w:World} {v u:Value} {x y:Int} (hv:IsNum B w v x) (hu:IsNum B' w u y) (hx:x.natAbs < TOP) (hy:y.natAbs < TOP) :
  Calls Tryz.prog 74 #[v,u] w fun e w'=>∃ r,e = .returned r∧IsNumM 513 w.heap.size w' r (x+y)∧Below w.heap.size w w':=by
 obtain ⟨na,ao,ca,A,rfl,a1,a2,a3,a4⟩:=hv.right hx
 obtain ⟨nb,bo,cb,C,rfl,b1,b2,b3,b4⟩:=hu.right hy
 have:=refAdd_any na nb ao bo ca cb A C w a1 b1 (by omega) (by omega)
 rw [a3,b3] at this
 exact this.mono fun e w' ⟨r,h1,h2,h3⟩=>⟨r,h1,h2.more (by omega),h3⟩
theorem upE_le {s x l:Int} (h:upE s x l = 0):x - l≤16384:=by
 unfold upE at h
 by_cases h1:(up s x l).natAbs < TOP∧x - l≤16384
 ·exact h1.2
 ·rw [if_neg h1] at h;exact absurd h (by decide)
theorem radd_any (na nb:Bool) (ao bo:Option Addr) (ca cb:Nat) (A B:List Nat) (x y:Int) (w:World) (hA:LimbsAt w ao ca A) (hB:LimbsAt w bo cb B) (ra:rightB na A = true) (rb:rightB nb B = true) (hx:-16384≤x∧x≤16384) (hy:-16384≤y∧y≤16384) (e1:upE (sval na A) x (lowE (sval na A) x (sval nb B) y) = 0) (e2:upE (sval nb B) y (lowE (sval na A) x (sval nb B) y) = 0) :
  Calls Tryz.prog 26 #[.agg #[.bool na,.slice ao A.length ca,.int .i64 x],.agg #[.bool nb,.slice bo B.length cb,.int .i64 y]] w fun r w'=>∃ v,r = .returned v∧IsDy w' v (oM (sumZ (sval na A) x (sval nb B) y)) (oE (sumZ (sval na A) x (sval nb B) y) (lowE (sval na A) x (sval nb B) y))∧Below w.heap.size w w':=by
 have CL:=hide (fun w'=>low_any na nb ao bo ca cb A.length B.length x y w')
 have hlb:=lowR_bounds A.length B.length x y hx hy
 rw [lowR_E ra rb] at CL hlb
 have g1:A.length ≠ 0→lowE (sval na A) x (sval nb B) y≤x:=fun h=>by
  unfold lowE
  rw [if_neg (fun e=>h ((sval_zero_iff ra).1 e))]
  split <;> omega
 have g2:B.length ≠ 0→lowE (sval na A) x (sval nb B) y≤y:=fun h=>by
  unfold lowE
  split
  ·omega
  ·rw [if_neg (fun e=>h ((sval_zero_iff rb).1 e))];omega
 obtain ⟨z,hz⟩:∃ z,sumZ (sval na A) x (sval nb B) y = z:=⟨_,rfl⟩
 have hz2:z = up (sval na A) x (lowE (sval na A) x (sval nb B) y)+up (sval nb B) y (lowE (sval na A) x (sval nb B) y):=by rw [← hz];rfl
 rw [hz]
 clear hz
 generalize lowE (sval na A) x (sval nb B) y = l at *
 have CLA:=hide (fun w' h=>level_any na ao ca A x l w' h ra (fun h0=>⟨g1 h0,upE_le e1⟩) hx hlb)
 have CLB:=hide (fun w' h=>level_any nb bo cb B y l w' h rb (fun h0=>⟨g2 h0,upE_le e2⟩) hy hlb)
 have CAD:=hide (fun w' u v (iu:IsNum 0 w' u (up (sval na A) x l)) (iv:IsNum 0 w' v (up (sval nb B) y l))=>refAdd_num iu iv (upE_TOP e1) (upE_TOP e2))
 rw [← hz2] at CAD
 have CO:=hide (fun w' u B' (iu:IsNumM 513 B' w' u z)=>rof_small l iu (by decide) (by omega))
 clear ra rb e1 e2 hz2 g1 g2 hx hy
 generalize oE z l = ox at *
 generalize oM z = om at *
 generalize up (sval na A) x l = za at *
 generalize up (sval nb B) y l = zb at *
 obtain ⟨hl1,hl2⟩:=hlb
 have hb0:Below w.heap.size w (((w.alloc (.cells #[.bool na,.slice ao A.length ca,.int .i64 x] 41)).alloc (.cells #[.bool nb,.slice bo B.length cb,.int .i64 y] 41)).alloc (.cells #[.bool false,.slice none 0 0,.int .i64 0] 41)) :=
  (((Below.refl _ _).alloc (Nat.le_refl _) _).alloc (by simp) _).alloc (by simp;omega) _
 have x0:Box3 (((w.alloc (.cells #[.bool na,.slice ao A.length ca,.int .i64 x] 41)).alloc (.cells #[.bool nb,.slice bo B.length cb,.int .i64 y] 41)).alloc (.cells #[.bool false,.slice none 0 0,.int .i64 0] 41)) w.heap.size (.bool na) (.slice ao A.length ca) (.int .i64 x):=((Box3.new _ _ _ _).old _).old _
 have x1:Box3 (((w.alloc (.cells #[.bool na,.slice ao A.length ca,.int .i64 x] 41)).alloc (.cells #[.bool nb,.slice bo B.length cb,.int .i64 y] 41)).alloc (.cells #[.bool false,.slice none 0 0,.int .i64 0] 41)) (w.heap.size+1) (.bool nb) (.slice bo B.length cb) (.int .i64 y):=by
  have:=(Box3.new (w.alloc (.cells #[.bool na,.slice ao A.length ca,.int .i64 x] 41)) (.bool nb) (.slice bo B.length cb) (.int .i64 y)).old (.cells #[.bool false,.slice none 0 0,.int .i64 0] 41)
  simpa using this
 have x2:Box3 (((w.alloc (.cells #[.bool na,.slice ao A.length ca,.int .i64 x] 41)).alloc (.cells #[.bool nb,.slice bo B.length cb,.int .i64 y] 41)).alloc (.cells #[.bool false,.slice none 0 0,.int .i64 0] 41)) (w.heap.size+1+1) (.bool false) (.slice none 0 0) (.int .i64 0):=by
  have:=Box3.new ((w.alloc (.cells #[.bool na,.slice ao A.length ca,.int .i64 x] 41)).alloc (.cells #[.bool nb,.slice bo B.length cb,.int .i64 y] 41)) (.bool false) (.slice none 0 0) (.int .i64 0)
  simpa using this
 have B0:=hide hb0;have X0:=hide x0;have X1:=hide x1;have X2:=hide x2
 clear hb0 x0 x1 x2
 go_enter Tryz.func26,Tryz.ntmps26
 go_wp2_with fail
 refine (uH CL _).mono ?_
 rintro r w1 ⟨rfl,hb1⟩
 have x0:=(uH X0).all hb1;have x1:=(uH X1).all hb1;have x2:=(uH X2).all hb1
 have b1:=(uH B0).trans (hb1.mono (uH B0).size)
 have X0':=hide x0;have X1':=hide x1;have X2':=hide x2;have B1:=hide b1
 clear hb1 x0 x1 x2 b1 X0 X1 X2 B0 CL
 go_wp2_with fail
 refine at_world (fun W=>Below w.heap.size w W∧Box3 W w.heap.size (.bool na) (.slice ao A.length ca) (.int .i64 x)∧Box3 W (w.heap.size+1) (.bool nb) (.slice bo B.length cb) (.int .i64 y)∧Box3 W (w.heap.size+1+1) (.bool false) (.slice none 0 0) (.int .i64 0)) ⟨uH B1,uH X0',uH X1',uH X2'⟩ ?_
 clear B1 X0' X1' X2'
 rintro W0 ⟨b0,x0,x1,x2⟩
 have s0:w.heap.size+1+1 < W0.heap.size:=x2.lt
 have hK:∀ w',Below (w.heap.size+1+1) W0 w'→Below (w.heap.size+1+1) W0 w'∧w'.cell? ⟨w.heap.size,0,none⟩ = some (.bool na)∧w'.cell? ⟨w.heap.size,1,none⟩ = some (.slice ao A.length ca)∧w'.cell? ⟨w.heap.size,2,none⟩ = some (.int .i64 x)∧w'.cell? ⟨w.heap.size+1,0,none⟩ = some (.bool nb)∧w'.cell? ⟨w.heap.size+1,1,none⟩ = some (.slice bo B.length cb)∧w'.cell? ⟨w.heap.size+1,2,none⟩ = some (.int .i64 y):=fun w' h =>
  ⟨h,(x0.below h (by omega)).c0,(x0.below h (by omega)).c1,(x0.below h (by omega)).c2,(x1.below h (by omega)).c0,(x1.below h (by omega)).c1,(x1.below h (by omega)).c2⟩
 have HK:=hide hK;have BB:=hide b0;have X2:=hide x2
 clear hK b0 x0 x1 x2
 go_region_held3 (fun w'=>Below (w.heap.size+1+1) W0 w'∧w'.cell? ⟨w.heap.size,0,none⟩ = some (.bool na)∧w'.cell? ⟨w.heap.size,1,none⟩ = some (.slice ao A.length ca)∧w'.cell? ⟨w.heap.size,2,none⟩ = some (.int .i64 x)∧w'.cell? ⟨w.heap.size+1,0,none⟩ = some (.bool nb)∧w'.cell? ⟨w.heap.size+1,1,none⟩ = some (.slice bo B.length cb)∧w'.cell? ⟨w.heap.size+1,2,none⟩ = some (.int .i64 y))
  (first | exact uH HK _ (Below.refl _ _).drew | exact uH HK _ (by assumption) | exact uH HK _ (below_put3 hB4 (by omega) _ _ _))
  (first | (go_at_call_of 75 (Value.agg #[.bool na,.slice ao A.length ca,.int .i64 x]);refine (uH CLA _ (hA.below ((uH BB).trans ((Below.refl _ _).drew)))).mono ?_;rintro e w3 ⟨v,rfl,⟨n1,a1,c1,L1,rfl,i1⟩,hb1⟩;have hB1:Below (w.heap.size+1+1) W0 w3:=((Below.refl _ _).drew).trans (hb1.mono (by simp;omega));have X3:=hide ((uH X2).drew.below hb1 (by simp;omega));have IA:=hide (show IsNum 0 w3 (.agg #[.bool n1,.slice a1 L1.length c1]) za from ⟨n1,a1,c1,L1,rfl,i1⟩);have s1:w.heap.size+1+1 < w3.heap.size:=(by have:=hb1.size;simp at this;omega);have BB1:=hide ((uH BB).trans (hB1.mono (by omega)));clear hb1 i1) | (go_at_call_of 75 (Value.agg #[.bool nb,.slice bo B.length cb,.int .i64 y]);refine (uH CLB _ (hB.below (uH BB1))).mono ?_;rintro e w4 ⟨v,rfl,⟨n2,a2,c2,L2,rfl,i2⟩,hb2⟩;have hB2:Below (w.heap.size+1+1) W0 w4:=hB1.trans (hb2.mono (by omega));have X4:=hide ((uH X3).below hb2 (by omega));have IA2:=hide ((uH IA).below hb2);have IB:=hide (show IsNum 0 w4 (.agg #[.bool n2,.slice a2 L2.length c2]) zb from ⟨n2,a2,c2,L2,rfl,i2⟩);have s2:w.heap.size+1+1 < w4.heap.size:=(by have:=hb2.size;omega);have BB2:=hide ((uH BB1).trans (hb2.mono (by omega)));clear hb2 i2) | (go_at_call 74;refine (uH CAD _ _ _ (uH IA2) (uH IB)).mono ?_;rintro e w5 ⟨v,rfl,⟨n3,a3,c3,L3,rfl,i3⟩,hb3⟩;have hB3:Below (w.heap.size+1+1) W0 w5:=hB2.trans (hb3.mono (by omega));have X5:=hide ((uH X4).below hb3 (by omega));have IZ:=hide (show IsNumM 513 w4.heap.size w5 (.agg #[.bool n3,.slice a3 L3.length c3]) z from ⟨n3,a3,c3,L3,rfl,i3⟩);have s3:w.heap.size+1+1 < w5.heap.size:=(by have:=hb3.size;omega);have BB3:=hide ((uH BB2).trans (hb3.mono (by omega)));clear hb3 i3) | (go_at_call 45;refine (uH CO _ _ _ (uH IZ)).mono ?_;rintro e w6 ⟨u,rfl,iu,hb4⟩;obtain ⟨n5,a5,c5,L5,rfl,i5⟩:=iu.num;have hB4:Below (w.heap.size+1+1) W0 w6:=hB3.trans (hb4.mono (by omega));have X6:=(uH X5).below hb4 (by omega);have y0:=X6.c0;have y1:=X6.c1;have y2:=X6.c2;have f0:=X6.free 0;have f1:=X6.free 1;have f2:=X6.free 2;have IU:=hide iu;have X7:=hide X6;have BB4:=hide ((uH BB3).trans (hb4.mono (by omega)));clear hb4 iu i5 X6))
 go_wp2
 refine bodyPost_ret (v:=.agg #[.bool n5,.slice a5 L5.length c5,.int .i64 ox]) (by simp [results,Tryz.results26,go_sem,y0,y1,y2]) rfl ⟨_,rfl,(uH IU).put3 (uH X7) _ _ _,below_put3 (uH BB4) (by omega) _ _ _⟩
theorem rsub_any (na nb:Bool) (ao bo:Option Addr) (ca cb:Nat) (A B:List Nat) (x y:Int) (w:World) (hA:LimbsAt w ao ca A) (hB:LimbsAt w bo cb B) (ra:rightB na A = true) (rb:rightB nb B = true) (hx:-16384≤x∧x≤16384) (hy:-16384≤y∧y≤16384) (e1:upE (sval na A) x (lowE (sval na A) x (- sval nb B) y) = 0) (e2:upE (- sval nb B) y (lowE (sval na A) x (- sval nb B) y) = 0) :
  Calls Tryz.prog 64 #[.agg #[.bool na,.slice ao A.length ca,.int .i64 x],.agg #[.bool nb,.slice bo B.length cb,.int .i64 y]] w fun r w'=>∃ v,r = .returned v∧IsDy w' v (oM (sumZ (sval na A) x (- sval nb B) y)) (oE (sumZ (sval na A) x (- sval nb B) y) (lowE (sval na A) x (- sval nb B) y))∧Below w.heap.size w w':=by
 have lb:=(right_canon rb).1
 have tb:=sval_TOP hB rb
 have CN:=hide (fun w' h=>rneg_any nb bo cb B y w' h lb)
 have CAD:=hide (fun w' u (h:LimbsAt w' ao ca A) (iu:IsDy w' u (- sval nb B) y)=>show Calls Tryz.prog 26 #[.agg #[.bool na,.slice ao A.length ca,.int .i64 x],u] w' fun r w''=>∃ v,r = .returned v∧IsDy w'' v (oM (sumZ (sval na A) x (- sval nb B) y)) (oE (sumZ (sval na A) x (- sval nb B) y) (lowE (sval na A) x (- sval nb B) y))∧Below w'.heap.size w' w'' by
  obtain ⟨n1,a1,c1,L1,rfl,q1,q2,q3,q4,q5⟩:=iu.right (by rw [Int.natAbs_neg];exact tb)
  have:=radd_any na n1 ao a1 ca c1 A L1 x y w' h q1 ra q2 hx hy (by rw [q3];exact e1) (by rw [q3];exact e2)
  rwa [q3] at this)
 clear ra rb hx hy e1 e2 tb
 generalize oE (sumZ (sval na A) x (- sval nb B) y) (lowE (sval na A) x (- sval nb B) y) = ox at *
 generalize oM (sumZ (sval na A) x (- sval nb B) y) = om at *
 generalize - sval nb B = sb at *
 have hb0:Below w.heap.size w (((w.alloc (.cells #[.bool na,.slice ao A.length ca,.int .i64 x] 41)).alloc (.cells #[.bool nb,.slice bo B.length cb,.int .i64 y] 41)).alloc (.cells #[.bool false,.slice none 0 0,.int .i64 0] 41)) :=
  (((Below.refl _ _).alloc (Nat.le_refl _) _).alloc (by simp) _).alloc (by simp;omega) _
 have x0:Box3 (((w.alloc (.cells #[.bool na,.slice ao A.length ca,.int .i64 x] 41)).alloc (.cells #[.bool nb,.slice bo B.length cb,.int .i64 y] 41)).alloc (.cells #[.bool false,.slice none 0 0,.int .i64 0] 41)) w.heap.size (.bool na) (.slice ao A.length ca) (.int .i64 x):=((Box3.new _ _ _ _).old _).old _
 have x1:Box3 (((w.alloc (.cells #[.bool na,.slice ao A.length ca,.int .i64 x] 41)).alloc (.cells #[.bool nb,.slice bo B.length cb,.int .i64 y] 41)).alloc (.cells #[.bool false,.slice none 0 0,.int .i64 0] 41)) (w.heap.size+1) (.bool nb) (.slice bo B.length cb) (.int .i64 y):=by
  have:=(Box3.new (w.alloc (.cells #[.bool na,.slice ao A.length ca,.int .i64 x] 41)) (.bool nb) (.slice bo B.length cb) (.int .i64 y)).old (.cells #[.bool false,.slice none 0 0,.int .i64 0] 41)
  simpa using this
 have x2:Box3 (((w.alloc (.cells #[.bool na,.slice ao A.length ca,.int .i64 x] 41)).alloc (.cells #[.bool nb,.slice bo B.length cb,.int .i64 y] 41)).alloc (.cells #[.bool false,.slice none 0 0,.int .i64 0] 41)) (w.heap.size+1+1) (.bool false) (.slice none 0 0) (.int .i64 0):=by
  have:=Box3.new ((w.alloc (.cells #[.bool na,.slice ao A.length ca,.int .i64 x] 41)).alloc (.cells #[.bool nb,.slice bo B.length cb,.int .i64 y] 41)) (.bool false) (.slice none 0 0) (.int .i64 0)
  simpa using this
 have B0:=hide hb0;have X0:=hide x0;have X1:=hide x1;have X2:=hide x2
 clear hb0 x0 x1 x2
 go_enter Tryz.func64,Tryz.ntmps64
 go_wp2_with fail
 refine at_world (fun W=>Below w.heap.size w W∧Box3 W w.heap.size (.bool na) (.slice ao A.length ca) (.int .i64 x)∧Box3 W (w.heap.size+1) (.bool nb) (.slice bo B.length cb) (.int .i64 y)∧Box3 W (w.heap.size+1+1) (.bool false) (.slice none 0 0) (.int .i64 0)) ⟨uH B0,uH X0,uH X1,uH X2⟩ ?_
 clear B0 X0 X1 X2
 rintro W0 ⟨b0,x0,x1,x2⟩
 have s0:w.heap.size+1+1 < W0.heap.size:=x2.lt
 have hK:∀ w',Below (w.heap.size+1+1) W0 w'→Below (w.heap.size+1+1) W0 w'∧w'.cell? ⟨w.heap.size,0,none⟩ = some (.bool na)∧w'.cell? ⟨w.heap.size,1,none⟩ = some (.slice ao A.length ca)∧w'.cell? ⟨w.heap.size,2,none⟩ = some (.int .i64 x)∧w'.cell? ⟨w.heap.size+1,0,none⟩ = some (.bool nb)∧w'.cell? ⟨w.heap.size+1,1,none⟩ = some (.slice bo B.length cb)∧w'.cell? ⟨w.heap.size+1,2,none⟩ = some (.int .i64 y):=fun w' h =>
  ⟨h,(x0.below h (by omega)).c0,(x0.below h (by omega)).c1,(x0.below h (by omega)).c2,(x1.below h (by omega)).c0,(x1.below h (by omega)).c1,(x1.below h (by omega)).c2⟩
 have HK:=hide hK;have BB:=hide b0;have X2:=hide x2
 clear hK b0 x0 x1 x2
 go_region_held3 (fun w'=>Below (w.heap.size+1+1) W0 w'∧w'.cell? ⟨w.heap.size,0,none⟩ = some (.bool na)∧w'.cell? ⟨w.heap.size,1,none⟩ = some (.slice ao A.length ca)∧w'.cell? ⟨w.heap.size,2,none⟩ = some (.int .i64 x)∧w'.cell? ⟨w.heap.size+1,0,none⟩ = some (.bool nb)∧w'.cell? ⟨w.heap.size+1,1,none⟩ = some (.slice bo B.length cb)∧w'.cell? ⟨w.heap.size+1,2,none⟩ = some (.int .i64 y))
  (first | exact uH HK _ (Below.refl _ _).drew | exact uH HK _ (by assumption) | exact uH HK _ (below_put3 hB4 (by omega) _ _ _))
  (first | (go_at_call 115;refine (uH CN _ (hB.below ((uH BB).trans ((Below.refl _ _).drew)))).mono ?_;rintro e w3 ⟨v,rfl,iv,hb1⟩;obtain ⟨n1,a1,c1,L1,rfl,i1⟩:=iv.num;have hB1:Below (w.heap.size+1+1) W0 w3:=((Below.refl _ _).drew).trans (hb1.mono (by simp;omega));have X3:=hide ((uH X2).drew.below hb1 (by simp;omega));have IN:=hide iv;have s1:w.heap.size+1+1 < w3.heap.size:=(by have:=hb1.size;simp at this;omega);have BB1:=hide ((uH BB).trans (hB1.mono (by omega)));clear hb1 i1 iv) | (go_at_call 26;refine (uH CAD _ _ (hA.below (uH BB1)) (uH IN)).mono ?_;rintro e w6 ⟨u,rfl,iu,hb4⟩;obtain ⟨n5,a5,c5,L5,rfl,i5⟩:=iu.num;have hB4:Below (w.heap.size+1+1) W0 w6:=hB1.trans (hb4.mono (by omega));have X6:=(uH X3).below hb4 (by omega);have y0:=X6.c0;have y1:=X6.c1;have y2:=X6.c2;have f0:=X6.free 0;have f1:=X6.free 1;have f2:=X6.free 2;have IU:=hide iu;have X7:=hide X6;have BB4:=hide ((uH BB1).trans (hb4.mono (by omega)));clear hb4 iu i5 X6))
 go_wp2
 refine bodyPost_ret (v:=.agg #[.bool n5,.slice a5 L5.length c5,.int .i64 ox]) (by simp [results,Tryz.results64,go_sem,y0,y1,y2]) rfl ⟨_,rfl,(uH IU).put3 (uH X7) _ _ _,below_put3 (uH BB4) (by omega) _ _ _⟩
end Go.Proofs.YtdhmglmccafbnaaGreatDoor
namespace Go.Proofs.YtdhmglmccafbnaaGreatDoor
open Go.RowKit
theorem up_neg (s x l:Int):up (-s) x l = - up s x l:=by unfold up;rw [Int.neg_mul]
theorem upE_neg (s x l:Int):upE (-s) x l = upE s x l:=by unfold upE;rw [up_neg,Int.natAbs_neg]
theorem lowE_neg (sa x sb y:Int):lowE sa x (-sb) y = lowE sa x sb y:=by
 unfold lowE
 by_cases h:sb = 0
 ·subst h;rfl
 ·rw [if_neg h,if_neg (show ¬ -sb = 0 by omega)]
end Go.Proofs.YtdhmglmccafbnaaGreatDoor
namespace Go.Proofs.YtdhmglmccafbnaaGreatDoor
open Go.RowKit
attribute [local go_sem ↓] Go.wp_at_zero Go.wp_at_succ
theorem ad_fits {sa x sb y:Int} (e1:upE sa x (lowE sa x sb y) = 0) (e2:upE sb y (lowE sa x sb y) = 0) (hz:(sumZ sa x sb y).natAbs < TOP) :
  adE sa x sb y = dErr (sumZ sa x sb y) (lowE sa x sb y)∧adM sa x sb y = dM (sumZ sa x sb y) (lowE sa x sb y)∧adX sa x sb y = dX (sumZ sa x sb y) (lowE sa x sb y):=by
 have hf:fitsB sa x sb y = true:=decide_eq_true ⟨e1,e2,hz⟩
 unfold adE adM adX
 rw [hf]
 exact ⟨rfl,rfl,rfl⟩
end Go.Proofs.YtdhmglmccafbnaaGreatDoor
namespace Go.Proofs.YtdhmglmccafbnaaGreatDoor
open Go.RowKit
def sgnI (z:Int):Int:=if z < 0 then -1 else if z = 0 then 0 else 1
def cmpV (sa x sb y:Int):Int:=cmpI (up sa x (lowE sa x sb y)) (up sb y (lowE sa x sb y))
theorem sgnI_neg {u:Int} (h:u < 0):sgnI u = -1:=by unfold sgnI;rw [if_pos h]
theorem sgnI_zero:sgnI 0 = 0:=rfl
theorem sgnI_pos {u:Int} (h:0 < u):sgnI u = 1:=by unfold sgnI;rw [if_neg (by omega),if_neg (by omega)]
theorem sgnI_mul_pow (s:Int) (k:Nat):sgnI (s * 2 ^ k) = sgnI s:=by
 have hp:(0:Int) < 2 ^ k:=Int.pow_pos (by decide)
 rcases Int.lt_trichotomy s 0 with h | h | h
 ·rw [sgnI_neg h,sgnI_neg (Int.mul_neg_of_neg_of_pos h hp)]
 ·subst h;rw [Int.zero_mul]
 ·rw [sgnI_pos h,sgnI_pos (Int.mul_pos h hp)]
theorem sgnI_up (s x l:Int):sgnI (up s x l) = sgnI s:=sgnI_mul_pow s _
theorem sgnB_I {n:Bool} {L:List Nat} (h:rightB n L = true):sgnB n L.length = sgnI (sval n L):=by
 unfold sgnB
 have hz:=sval_zero_iff h
 by_cases h0:L.length = 0
 ·rw [if_pos h0,hz.2 h0];rfl
 ·have h1:sval n L ≠ 0:=fun e=>h0 (hz.1 e)
  rw [if_neg h0]
  unfold sval at h1 ⊢
  cases n
  ·simp only [Bool.false_eq_true,if_false] at h1 ⊢
   rw [sgnI_pos (by omega)]
  ·simp only [if_true] at h1 ⊢
   rw [sgnI_neg (by omega)]
theorem rsgn_I {n:Bool} {L:List Nat} (h:rightB n L = true):rsgn n L.length = sgnI (sval n L):=by
 rw [← sgnB_I h]
 unfold rsgn sgnB
 cases n
 ·rfl
 ·have:L.length ≠ 0:=fun e=>(right_canon h).2.2 rfl (List.length_eq_zero_iff.1 e)
  simp [this]
theorem cmp_signs (u v:Int) (h:sgnI u ≠ sgnI v):cmpI (sgnI u) (sgnI v) = cmpI u v∧min 1 (max (-1) (sgnI u - sgnI v)) = cmpI u v:=by
 rcases Int.lt_trichotomy u 0 with h1 | h1 | h1 <;> rcases Int.lt_trichotomy v 0 with h2 | h2 | h2
 ·rw [sgnI_neg h1,sgnI_neg h2] at h;exact absurd rfl h
 ·subst h2;rw [sgnI_neg h1,sgnI_zero,cmpI_lt h1];decide
 ·rw [sgnI_neg h1,sgnI_pos h2,cmpI_lt (show u < v by omega)];decide
 ·subst h1;rw [sgnI_neg h2,sgnI_zero,cmpI_gt h2];decide
 ·subst h1;subst h2;exact absurd rfl h
 ·subst h1;rw [sgnI_pos h2,sgnI_zero,cmpI_lt h2];decide
 ·rw [sgnI_pos h1,sgnI_neg h2,cmpI_gt (show v < u by omega)];decide
 ·subst h2;rw [sgnI_pos h1,sgnI_zero,cmpI_gt h1];decide
 ·rw [sgnI_pos h1,sgnI_pos h2] at h;exact absurd rfl h
theorem cmp_tops (va vb na nb da db:Nat) (h2:va < 2 ^ na) (h3:2 ^ (nb - 1)≤vb) (hb:1≤nb) (h:na+da < nb+db):va * 2 ^ da < vb * 2 ^ db:=by
 have e1:va * 2 ^ da < 2 ^ (na+da):=by rw [Nat.pow_add];exact Nat.mul_lt_mul_of_pos_right h2 (Nat.pow_pos (by decide))
 have e2:2 ^ (nb - 1+db)≤vb * 2 ^ db:=by rw [Nat.pow_add];exact Nat.mul_le_mul_right _ h3
 have e3:2 ^ (na+da)≤2 ^ (nb - 1+db):=Nat.pow_le_pow_right (by decide) (by omega)
 omega
theorem up_sval (n:Bool) (L:List Nat) (x l:Int):up (sval n L) x l = sg n (val L * 2 ^ (x - l).toNat):=by
 unfold up
 rw [sval_sg]
 unfold sg
 cases n
 ·simp
 ·simp [Int.neg_mul]
theorem cmpI_swap (u v:Int):cmpI v u = - cmpI u v:=by
 unfold cmpI
 rcases Int.lt_trichotomy u v with h | h | h
 ·rw [if_neg (by omega),if_pos h,if_pos h];rfl
 ·subst h;simp
 ·rw [if_pos h,if_neg (by omega),if_pos h]
theorem cmpI_sgn (u v:Int):cmpI u v = sgnI (u - v):=by
 rcases Int.lt_trichotomy u v with h | h | h
 ·rw [cmpI_lt h,sgnI_neg (by omega)]
 ·subst h;rw [cmpI_eq rfl,Int.sub_self];rfl
 ·rw [cmpI_gt h,sgnI_pos (by omega)]
theorem cmpV_tops {na nb:Bool} {A B:List Nat} {x y:Int} (fA:Fits A) (fB:Fits B) (ra:rightB na A = true) (rb:rightB nb B = true) (hA:A.length ≠ 0) (hB:B.length ≠ 0) (hs:na = nb) (h:lenL A+x < lenL B+y) :
  cmpV (sval na A) x (sval nb B) y = (if na then 1 else -1)∧cmpV (sval nb B) y (sval na A) x = (if na then -1 else 1):=by
 have a0:sval na A ≠ 0:=fun e=>hA ((sval_zero_iff ra).1 e)
 have b0:sval nb B ≠ 0:=fun e=>hB ((sval_zero_iff rb).1 e)
 have sA:=bits_spec A fA (right_canon ra).2.1 (fun e=>hA (by rw [e];rfl))
 have sB:=bits_spec B fB (right_canon rb).2.1 (fun e=>hB (by rw [e];rfl))
 rw [lenL_bits,lenL_bits] at h
 have key:∀ l,l≤x→l≤y→cmpI (up (sval na A) x l) (up (sval nb B) y l) = (if na then 1 else -1):=by
  intro l h1 h2
  have hlt:=cmp_tops (val A) (val B) (bits1 A) (bits1 B) (x - l).toNat (y - l).toNat sA.2.2 sB.2.1 sB.1 (by omega)
  rw [up_sval,up_sval,← hs]
  unfold sg
  cases na
  ·simp only [Bool.false_eq_true,if_false]
   exact cmpI_lt (by omega)
  ·simp only [if_true]
   exact cmpI_gt (by omega)
 constructor
 ·unfold cmpV
  rw [lowE_ne _ _ _ _ a0 b0]
  exact key _ (by omega) (by omega)
 ·unfold cmpV
  rw [lowE_ne _ _ _ _ b0 a0,cmpI_swap,key _ (by omega) (by omega)]
  cases na <;> rfl
theorem tops_fit {na nb:Bool} {A B:List Nat} {x y:Int} (fA:Fits A) (fB:Fits B) (ra:rightB na A = true) (rb:rightB nb B = true) (hA:A.length ≠ 0) (hB:B.length ≠ 0) (h:lenL A+x = lenL B+y) :
  upE (sval na A) x (min x y) = 0∧upE (sval nb B) y (min x y) = 0:=by
 have bl:∀ (n:Bool) (L:List Nat),Fits L→rightB n L = true→L.length ≠ 0→1≤lenL L∧lenL L≤16384:=fun n L f r h0=>by
  have s:=bits_spec L f (right_canon r).2.1 (fun e=>h0 (by rw [e];rfl))
  have hT:=(val_lt_TOP L f (right_canon r).2.1).2 (right_canon r).1
  have e2:32 * TOPN = 16384:=rfl
  rw [TOP_eq] at hT
  have hb:=bits_up (val L) (bits1 L) 0 (32 * TOPN) s.1 s.2.1 s.2.2
  rw [Nat.pow_zero,Nat.mul_one] at hb
  have:=hb.1 hT
  rw [lenL_bits]
  omega
 have b1:=bl na A fA ra hA
 have b2:=bl nb B fB rb hB
 rw [up_bits na A x _ fA ra (fun e=>hA (by rw [e];rfl)) (by omega),up_bits nb B y _ fB rb (fun e=>hB (by rw [e];rfl)) (by omega)]
 omega
end Go.Proofs.YtdhmglmccafbnaaGreatDoor
namespace Go.Proofs.YtdhmglmccafbnaaGreatDoor
open Go.RowKit
attribute [local go_sem ↓] Go.wp_at_zero Go.wp_at_succ
theorem cmp_ways {na nb:Bool} {A B:List Nat} {x y:Int} (fA:Fits A) (fB:Fits B) (hra:drB na A x = true) (hrb:drB nb B y = true) :
  (sgnB na A.length ≠ sgnB nb B.length∧cmpI (sgnB na A.length) (sgnB nb B.length) = cmpV (sval na A) x (sval nb B) y∧min 1 (max (-1) (sgnB na A.length - sgnB nb B.length)) = cmpV (sval na A) x (sval nb B) y) ∨
  (sgnB na A.length = sgnB nb B.length∧∃ s c:Int,(s = 1 ∨ s = -1)∧((c = 1∧topR B y < topR A x) ∨ (c = -1∧topR A x < topR B y))∧sgnB na A.length = s∧cmpI (topR A x) (topR B y) = c∧cmpV (sval na A) x (sval nb B) y = s * c) ∨
  (sgnB na A.length = sgnB nb B.length∧topR A x = topR B y∧upE (sval na A) x (min x y) = 0∧upE (sval nb B) y (min x y) = 0∧cmpI (up (sval na A) x (min x y)) (up (sval nb B) y (min x y)) = cmpV (sval na A) x (sval nb B) y∧lowE (sval na A) x (sval nb B) y = min x y):=by
 obtain ⟨ra,_,a1,a2,zx⟩:=drB_bounds hra
 obtain ⟨rb,_,b1,b2,zy⟩:=drB_bounds hrb
 rw [sgnB_I ra,sgnB_I rb]
 by_cases hs:sgnI (sval na A) = sgnI (sval nb B)
 case neg =>
  left
  have h:=cmp_signs (up (sval na A) x (lowE (sval na A) x (sval nb B) y)) (up (sval nb B) y (lowE (sval na A) x (sval nb B) y)) (by rw [sgnI_up,sgnI_up];exact hs)
  rw [sgnI_up,sgnI_up] at h
  exact ⟨hs,h.1,h.2⟩
 right
 by_cases hA:A.length = 0
 ·have sa:=(sval_zero_iff ra).2 hA
  have sb:sval nb B = 0:=by
   rw [sa,sgnI_zero] at hs
   rcases Int.lt_trichotomy (sval nb B) 0 with h | h | h
   ·rw [sgnI_neg h] at hs;exact absurd hs (by decide)
   ·exact h
   ·rw [sgnI_pos h] at hs;exact absurd hs (by decide)
  have hB:=(sval_zero_iff rb).1 sb
  right
  refine ⟨hs,by unfold topR;rw [if_pos hA,if_pos hB],?_⟩
  rw [sa,sb,zx hA,zy hB]
  refine ⟨upE_ok _ _ _ (by rw [up_zero];exact TOP_pos) (by decide),upE_ok _ _ _ (by rw [up_zero];exact TOP_pos) (by decide),?_,by simp [lowE]⟩
  unfold cmpV
  simp [up_zero]
 have a0:sval na A ≠ 0:=fun e=>hA ((sval_zero_iff ra).1 e)
 have b0:sval nb B ≠ 0:=fun e=>by
  rw [e,sgnI_zero] at hs
  rcases Int.lt_trichotomy (sval na A) 0 with h | h | h
  ·rw [sgnI_neg h] at hs;exact absurd hs (by decide)
  ·exact a0 h
  ·rw [sgnI_pos h] at hs;exact absurd hs (by decide)
 have hB:B.length ≠ 0:=fun e=>b0 ((sval_zero_iff rb).2 e)
 have hn:na = nb∧sgnI (sval na A) = if na then -1 else 1:=by
  have e1:=sgnB_I ra
  have e2:=sgnB_I rb
  unfold sgnB at e1 e2
  rw [if_neg hA] at e1
  rw [if_neg hB] at e2
  refine ⟨?_,e1.symm⟩
  rw [← e1,← e2] at hs
  cases na <;> cases nb <;> first | rfl | exact absurd hs (by decide)
 have tA:topR A x = lenL A+x:=by unfold topR;rw [if_neg hA]
 have tB:topR B y = lenL B+y:=by unfold topR;rw [if_neg hB]
 rw [tA,tB]
 rcases Int.lt_trichotomy (lenL A+x) (lenL B+y) with h | h | h
 ·left
  have hv:=(cmpV_tops fA fB ra rb hA hB hn.1 h).1
  refine ⟨hs,if na then -1 else 1,-1,?_,.inr ⟨rfl,h⟩,hn.2,cmpI_lt h,?_⟩
  ·cases na <;> simp
  ·rw [hv];cases na <;> rfl
 ·right
  have hf:=tops_fit fA fB ra rb hA hB h
  refine ⟨hs,h,hf.1,hf.2,?_,lowE_ne _ _ _ _ a0 b0⟩
  unfold cmpV
  rw [lowE_ne _ _ _ _ a0 b0]
 ·left
  have hv:=(cmpV_tops fB fA rb ra hB hA hn.1.symm h).2
  rw [← hn.1] at hv
  refine ⟨hs,if na then -1 else 1,1,?_,.inl ⟨rfl,h⟩,hn.2,cmpI_gt h,?_⟩
  ·cases na <;> simp
  ·rw [hn.1,← hn.1,hv];cases na <;> rfl
end Go.Proofs.YtdhmglmccafbnaaGreatDoor
namespace Go.Proofs.YtdhmglmccafbnaaGreatDoor
open Go.RowKit
attribute [local go_sem ↓] Go.wp_at_zero Go.wp_at_succ
theorem rsgn_dy {neg:Bool} {L:List Nat} {m:Int} (hc:Canon L) (hn:neg = decide (m < 0)) (hv:val L = m.natAbs):rsgn neg L.length = sgnI m:=by
 unfold rsgn
 rcases Int.lt_trichotomy m 0 with h | h | h
 ·rw [hn,decide_eq_true h,if_pos rfl,sgnI_neg h]
 ·subst h
  have:L = []:=(val_zero_of_canon L hc).1 (by rw [hv];rfl)
  rw [hn,this]
  rfl
 ·have h0:L.length ≠ 0:=fun e=>by
   have:L = []:=List.length_eq_zero_iff.1 e
   rw [this] at hv;simp [val] at hv;omega
  rw [hn,decide_eq_false (by omega),if_neg (by decide),if_neg h0,sgnI_pos h]
theorem sgnI_oM (z:Int):sgnI (oM z) = sgnI z:=by
 by_cases h:z = 0
 ·subst h;rw [oM_zero]
 ·have:=(oddOf z h).1
  conv=>rhs;rw [this]
  rw [sgnI_mul_pow]
theorem sgnB_three (n:Bool) (k:Nat):sgnB n k = -1 ∨ sgnB n k = 0 ∨ sgnB n k = 1:=by
 unfold sgnB
 split
 ·exact .inr (.inl rfl)
 ·cases n
  ·exact .inr (.inr rfl)
  ·exact .inl rfl
theorem rcompare_any (na nb:Bool) (ao bo:Option Addr) (ca cb:Nat) (A B:List Nat) (x y:Int) (w:World) (hA:LimbsAt w ao ca A) (hB:LimbsAt w bo cb B) (hra:drB na A x = true) (hrb:drB nb B y = true) :
  Calls Tryz.prog 51 #[.agg #[.bool na,.slice ao A.length ca,.int .i64 x],.agg #[.bool nb,.slice bo B.length cb,.int .i64 y]] w fun r w'=>r = .returned (.int .i64 (cmpV (sval na A) x (sval nb B) y))∧Below w.heap.size w w':=by
 have WAYS:=hide (cmp_ways hA.2.1 hB.2.1 hra hrb)
 obtain ⟨ra,la,bx1,bx2,zx⟩:=drB_bounds hra
 obtain ⟨rb,lb,by1,by2,zy⟩:=drB_bounds hrb
 have CSA:=hide (fun w'=>rsign_any na ao ca A.length x w')
 have CSB:=hide (fun w'=>rsign_any nb bo cb B.length y w')
 rw [rsgn_I ra,← sgnB_I ra] at CSA
 rw [rsgn_I rb,← sgnB_I rb] at CSB
 have CTA:=hide (fun w' h=>rtop_any na ao ca A x w' h (by omega) (by omega))
 have CTB:=hide (fun w' h=>rtop_any nb bo cb B y w' h (by omega) (by omega))
 have CSUB:=hide (fun (hlow:lowE (sval na A) x (sval nb B) y = min x y) (h1:upE (sval na A) x (min x y) = 0) (h2:upE (sval nb B) y (min x y) = 0) w' h h'=>rsub_any na nb ao bo ca cb A B x y w' h h' ra rb ⟨bx1,bx2⟩ ⟨by1,by2⟩ (by rw [lowE_neg,hlow];exact h1) (by rw [lowE_neg,upE_neg,hlow];exact h2))
 have HZ:=hide (fun (hlow:lowE (sval na A) x (sval nb B) y = min x y)=>show sgnI (oM (sumZ (sval na A) x (- sval nb B) y)) = cmpI (up (sval na A) x (min x y)) (up (sval nb B) y (min x y)) by
  rw [sgnI_oM,cmpI_sgn]
  unfold sumZ
  rw [lowE_neg,hlow,up_neg,Int.sub_eq_add_neg])
 have H3A:=hide (sgnB_three na A.length);have H3B:=hide (sgnB_three nb B.length)
 clear hra hrb zx zy ra rb
 generalize oE (sumZ (sval na A) x (- sval nb B) y) (lowE (sval na A) x (- sval nb B) y) = oe at *
 generalize oM (sumZ (sval na A) x (- sval nb B) y) = om at *
 generalize cmpV (sval na A) x (sval nb B) y = cv at *
 generalize upE (sval na A) x (min x y) = ea at *
 generalize upE (sval nb B) y (min x y) = eb at *
 generalize up (sval na A) x (min x y) = za at *
 generalize up (sval nb B) y (min x y) = zb at *
 generalize topR A x = ta at *
 generalize topR B y = tb at *
 generalize sgnB na A.length = sga at *
 generalize sgnB nb B.length = sgb at *
 generalize lowE (sval na A) x (sval nb B) y = l at *
 have hb0:Below w.heap.size w ((w.alloc (.cells #[.bool na,.slice ao A.length ca,.int .i64 x] 41)).alloc (.cells #[.bool nb,.slice bo B.length cb,.int .i64 y] 41)):=((Below.refl _ _).alloc (Nat.le_refl _) _).alloc (by simp) _
 have x0:Box3 ((w.alloc (.cells #[.bool na,.slice ao A.length ca,.int .i64 x] 41)).alloc (.cells #[.bool nb,.slice bo B.length cb,.int .i64 y] 41)) w.heap.size (.bool na) (.slice ao A.length ca) (.int .i64 x):=(Box3.new _ _ _ _).old _
 have x1:Box3 ((w.alloc (.cells #[.bool na,.slice ao A.length ca,.int .i64 x] 41)).alloc (.cells #[.bool nb,.slice bo B.length cb,.int .i64 y] 41)) (w.heap.size+1) (.bool nb) (.slice bo B.length cb) (.int .i64 y):=by
  have:=Box3.new (w.alloc (.cells #[.bool na,.slice ao A.length ca,.int .i64 x] 41)) (.bool nb) (.slice bo B.length cb) (.int .i64 y)
  simpa using this
 have B0:=hide hb0;have X0:=hide x0;have X1:=hide x1
 clear hb0 x0 x1
 rcases uH WAYS with ⟨hne,_,hc⟩ | ⟨hsame,s,c,hs,hc,rfl,hcc,hcv⟩ | ⟨hsame,htt,h1,h2,hcv,hlow⟩
 ·clear WAYS CTA CTB CSUB HZ
  rcases uH H3A with rfl | rfl | rfl <;> rcases uH H3B with rfl | rfl | rfl
  all_goals first | exact absurd rfl hne | skip
  all_goals
   have hcv:cv = _:=hc.symm
   clear hne hc H3A H3B
   simp only [show min (1:Int) (max (-1) (-1 - 0)) = -1 by decide,show min (1:Int) (max (-1) (-1 - 1)) = -1 by decide,show min (1:Int) (max (-1) (0 - -1)) = 1 by decide,show min (1:Int) (max (-1) (0 - 1)) = -1 by decide,show min (1:Int) (max (-1) (1 - -1)) = 1 by decide,show min (1:Int) (max (-1) (1 - 0)) = 1 by decide] at hcv
   subst hcv
   go_enter Tryz.func51,Tryz.ntmps51
   go_wp2_with fail
   refine at_world (fun W=>Below w.heap.size w W∧Box3 W w.heap.size (.bool na) (.slice ao A.length ca) (.int .i64 x)∧Box3 W (w.heap.size+1) (.bool nb) (.slice bo B.length cb) (.int .i64 y)) ⟨uH B0,uH X0,uH X1⟩ ?_
   clear B0 X0 X1
   rintro W0 ⟨b0,x0,x1⟩
   have hK:∀ w',Below W0.heap.size W0 w'→Below W0.heap.size W0 w'∧w'.cell? ⟨w.heap.size,0,none⟩ = some (.bool na)∧w'.cell? ⟨w.heap.size,1,none⟩ = some (.slice ao A.length ca)∧w'.cell? ⟨w.heap.size,2,none⟩ = some (.int .i64 x)∧w'.cell? ⟨w.heap.size+1,0,none⟩ = some (.bool nb)∧w'.cell? ⟨w.heap.size+1,1,none⟩ = some (.slice bo B.length cb)∧w'.cell? ⟨w.heap.size+1,2,none⟩ = some (.int .i64 y):=fun w' h =>
    ⟨h,(x0.all h).c0,(x0.all h).c1,(x0.all h).c2,(x1.all h).c0,(x1.all h).c1,(x1.all h).c2⟩
   have HK:=hide hK
   have HA:=hide (hA.below b0);have HB:=hide (hB.below b0);have BB:=hide b0;have X0:=hide x0;have X1:=hide x1
   clear hK b0 x0 x1
   go_region_held3 (fun w'=>Below W0.heap.size W0 w'∧w'.cell? ⟨w.heap.size,0,none⟩ = some (.bool na)∧w'.cell? ⟨w.heap.size,1,none⟩ = some (.slice ao A.length ca)∧w'.cell? ⟨w.heap.size,2,none⟩ = some (.int .i64 x)∧w'.cell? ⟨w.heap.size+1,0,none⟩ = some (.bool nb)∧w'.cell? ⟨w.heap.size+1,1,none⟩ = some (.slice bo B.length cb)∧w'.cell? ⟨w.heap.size+1,2,none⟩ = some (.int .i64 y))
    (first | exact uH HK _ (Below.refl _ _).drew | exact uH HK _ (by assumption))
    (first | (go_at_call_of 104 (Value.agg #[.bool na,.slice ao A.length ca,.int .i64 x]);refine (uH CSA _).mono ?_;rintro e wn ⟨rfl,hb1⟩;have hBn:Below W0.heap.size W0 wn:=Below.trans (And.left (by assumption)) (hb1.mono (Below.size (And.left (by assumption))));clear hb1) | (go_at_call_of 104 (Value.agg #[.bool nb,.slice bo B.length cb,.int .i64 y]);refine (uH CSB _).mono ?_;rintro e wn ⟨rfl,hb1⟩;have hBn:Below W0.heap.size W0 wn:=Below.trans (And.left (by assumption)) (hb1.mono (Below.size (And.left (by assumption))));clear hb1))
   go_wp2_with fail
   have hn:Below W0.heap.size W0 wn:=And.left (by assumption)
   have b9:=(uH BB).trans (hn.mono (uH BB).size);have x9:=(uH X0).all hn;have y9:=(uH X1).all hn
   clear HK HA HB BB X0 X1 hn
   have B0:=hide b9;have X0:=hide x9;have X1:=hide y9
   clear b9 x9 y9
   refine at_world (fun W=>Below w.heap.size w W∧Box3 W w.heap.size (.bool na) (.slice ao A.length ca) (.int .i64 x)∧Box3 W (w.heap.size+1) (.bool nb) (.slice bo B.length cb) (.int .i64 y)) ⟨uH B0,uH X0,uH X1⟩ ?_
   clear B0 X0 X1
   rintro W0 ⟨b0,x0,x1⟩
   have hK:∀ w',Below W0.heap.size W0 w'→Below W0.heap.size W0 w'∧w'.cell? ⟨w.heap.size,0,none⟩ = some (.bool na)∧w'.cell? ⟨w.heap.size,1,none⟩ = some (.slice ao A.length ca)∧w'.cell? ⟨w.heap.size,2,none⟩ = some (.int .i64 x)∧w'.cell? ⟨w.heap.size+1,0,none⟩ = some (.bool nb)∧w'.cell? ⟨w.heap.size+1,1,none⟩ = some (.slice bo B.length cb)∧w'.cell? ⟨w.heap.size+1,2,none⟩ = some (.int .i64 y):=fun w' h =>
    ⟨h,(x0.all h).c0,(x0.all h).c1,(x0.all h).c2,(x1.all h).c0,(x1.all h).c1,(x1.all h).c2⟩
   have HK:=hide hK
   have HA:=hide (hA.below b0);have HB:=hide (hB.below b0);have BB:=hide b0;have X0:=hide x0;have X1:=hide x1
   clear hK b0 x0 x1
   go_region_held3 (fun w'=>Below W0.heap.size W0 w'∧w'.cell? ⟨w.heap.size,0,none⟩ = some (.bool na)∧w'.cell? ⟨w.heap.size,1,none⟩ = some (.slice ao A.length ca)∧w'.cell? ⟨w.heap.size,2,none⟩ = some (.int .i64 x)∧w'.cell? ⟨w.heap.size+1,0,none⟩ = some (.bool nb)∧w'.cell? ⟨w.heap.size+1,1,none⟩ = some (.slice bo B.length cb)∧w'.cell? ⟨w.heap.size+1,2,none⟩ = some (.int .i64 y))
    (first | exact uH HK _ (Below.refl _ _).drew | exact uH HK _ (by assumption))
    (first | (go_at_call_of 104 (Value.agg #[.bool na,.slice ao A.length ca,.int .i64 x]);refine (uH CSA _).mono ?_;rintro e wn ⟨rfl,hb1⟩;have hBn:Below W0.heap.size W0 wn:=Below.trans (And.left (by assumption)) (hb1.mono (Below.size (And.left (by assumption))));clear hb1) | (go_at_call_of 104 (Value.agg #[.bool nb,.slice bo B.length cb,.int .i64 y]);refine (uH CSB _).mono ?_;rintro e wn ⟨rfl,hb1⟩;have hBn:Below W0.heap.size W0 wn:=Below.trans (And.left (by assumption)) (hb1.mono (Below.size (And.left (by assumption))));clear hb1))
   go_wp2
   go_ret
   exact ⟨rfl,(uH BB).trans (Below.mono (And.left (by assumption)) (uH BB).size)⟩
 ·subst hsame
  have HCV:=hide hcv
  clear WAYS CSUB HZ H3A H3B hcc hcv
  rcases hs with rfl | rfl
  all_goals
   rcases hc with ⟨rfl,ht⟩ | ⟨rfl,ht⟩
  all_goals
   have hcv:=uH HCV
   simp only [show (1:Int) * 1 = 1 by decide,show (1:Int) * -1 = -1 by decide,show (-1:Int) * 1 = -1 by decide,show (-1:Int) * -1 = 1 by decide] at hcv
   subst hcv
   have hne:(ta != tb) = true:=by rw [bne_iff_ne];omega
   first | (have g:decide (tb < ta) = true:=decide_eq_true (by omega)) | (have g:decide (tb < ta) = false:=decide_eq_false (by omega))
   clear HCV
   go_enter Tryz.func51,Tryz.ntmps51
   go_wp2_with fail
   refine at_world (fun W=>Below w.heap.size w W∧Box3 W w.heap.size (.bool na) (.slice ao A.length ca) (.int .i64 x)∧Box3 W (w.heap.size+1) (.bool nb) (.slice bo B.length cb) (.int .i64 y)) ⟨uH B0,uH X0,uH X1⟩ ?_
   clear B0 X0 X1
   rintro W0 ⟨b0,x0,x1⟩
   have hK:∀ w',Below W0.heap.size W0 w'→Below W0.heap.size W0 w'∧w'.cell? ⟨w.heap.size,0,none⟩ = some (.bool na)∧w'.cell? ⟨w.heap.size,1,none⟩ = some (.slice ao A.length ca)∧w'.cell? ⟨w.heap.size,2,none⟩ = some (.int .i64 x)∧w'.cell? ⟨w.heap.size+1,0,none⟩ = some (.bool nb)∧w'.cell? ⟨w.heap.size+1,1,none⟩ = some (.slice bo B.length cb)∧w'.cell? ⟨w.heap.size+1,2,none⟩ = some (.int .i64 y):=fun w' h =>
    ⟨h,(x0.all h).c0,(x0.all h).c1,(x0.all h).c2,(x1.all h).c0,(x1.all h).c1,(x1.all h).c2⟩
   have HK:=hide hK
   have HA:=hide (hA.below b0);have HB:=hide (hB.below b0);have BB:=hide b0;have X0:=hide x0;have X1:=hide x1
   clear hK b0 x0 x1
   go_region_held3 (fun w'=>Below W0.heap.size W0 w'∧w'.cell? ⟨w.heap.size,0,none⟩ = some (.bool na)∧w'.cell? ⟨w.heap.size,1,none⟩ = some (.slice ao A.length ca)∧w'.cell? ⟨w.heap.size,2,none⟩ = some (.int .i64 x)∧w'.cell? ⟨w.heap.size+1,0,none⟩ = some (.bool nb)∧w'.cell? ⟨w.heap.size+1,1,none⟩ = some (.slice bo B.length cb)∧w'.cell? ⟨w.heap.size+1,2,none⟩ = some (.int .i64 y))
    (first | exact uH HK _ (Below.refl _ _).drew | exact uH HK _ (by assumption))
    (first | (go_at_call_of 104 (Value.agg #[.bool na,.slice ao A.length ca,.int .i64 x]);refine (uH CSA _).mono ?_;rintro e wn ⟨rfl,hb1⟩;have hBn:Below W0.heap.size W0 wn:=Below.trans (And.left (by assumption)) (hb1.mono (Below.size (And.left (by assumption))));clear hb1) | (go_at_call_of 104 (Value.agg #[.bool nb,.slice bo B.length cb,.int .i64 y]);refine (uH CSB _).mono ?_;rintro e wn ⟨rfl,hb1⟩;have hBn:Below W0.heap.size W0 wn:=Below.trans (And.left (by assumption)) (hb1.mono (Below.size (And.left (by assumption))));clear hb1))
   go_wp2_with fail
   have hn:Below W0.heap.size W0 wn:=And.left (by assumption)
   have b9:=(uH BB).trans (hn.mono (uH BB).size);have x9:=(uH X0).all hn;have y9:=(uH X1).all hn
   clear HK HA HB BB X0 X1 hn
   have B0:=hide b9;have X0:=hide x9;have X1:=hide y9
   clear b9 x9 y9
   refine at_world (fun W=>Below w.heap.size w W∧Box3 W w.heap.size (.bool na) (.slice ao A.length ca) (.int .i64 x)∧Box3 W (w.heap.size+1) (.bool nb) (.slice bo B.length cb) (.int .i64 y)) ⟨uH B0,uH X0,uH X1⟩ ?_
   clear B0 X0 X1
   rintro W0 ⟨b0,x0,x1⟩
   have hK:∀ w',Below W0.heap.size W0 w'→Below W0.heap.size W0 w'∧w'.cell? ⟨w.heap.size,0,none⟩ = some (.bool na)∧w'.cell? ⟨w.heap.size,1,none⟩ = some (.slice ao A.length ca)∧w'.cell? ⟨w.heap.size,2,none⟩ = some (.int .i64 x)∧w'.cell? ⟨w.heap.size+1,0,none⟩ = some (.bool nb)∧w'.cell? ⟨w.heap.size+1,1,none⟩ = some (.slice bo B.length cb)∧w'.cell? ⟨w.heap.size+1,2,none⟩ = some (.int .i64 y):=fun w' h =>
    ⟨h,(x0.all h).c0,(x0.all h).c1,(x0.all h).c2,(x1.all h).c0,(x1.all h).c1,(x1.all h).c2⟩
   have HK:=hide hK
   have HA:=hide (hA.below b0);have HB:=hide (hB.below b0);have BB:=hide b0;have X0:=hide x0;have X1:=hide x1
   clear hK b0 x0 x1
   go_region_held3 (fun w'=>Below W0.heap.size W0 w'∧w'.cell? ⟨w.heap.size,0,none⟩ = some (.bool na)∧w'.cell? ⟨w.heap.size,1,none⟩ = some (.slice ao A.length ca)∧w'.cell? ⟨w.heap.size,2,none⟩ = some (.int .i64 x)∧w'.cell? ⟨w.heap.size+1,0,none⟩ = some (.bool nb)∧w'.cell? ⟨w.heap.size+1,1,none⟩ = some (.slice bo B.length cb)∧w'.cell? ⟨w.heap.size+1,2,none⟩ = some (.int .i64 y))
    (first | exact uH HK _ (Below.refl _ _).drew | exact uH HK _ (by assumption))
    (first | (go_at_call_of 105 (Value.agg #[.bool na,.slice ao A.length ca,.int .i64 x]);refine (uH CTA _ ((uH HA).below (And.left (by assumption)))).mono ?_;rintro e wn ⟨rfl,hb1⟩;have hBn:Below W0.heap.size W0 wn:=Below.trans (And.left (by assumption)) (hb1.mono (Below.size (And.left (by assumption))));clear hb1) | (go_at_call_of 105 (Value.agg #[.bool nb,.slice bo B.length cb,.int .i64 y]);refine (uH CTB _ ((uH HB).below (And.left (by assumption)))).mono ?_;rintro e wn ⟨rfl,hb1⟩;have hBn:Below W0.heap.size W0 wn:=Below.trans (And.left (by assumption)) (hb1.mono (Below.size (And.left (by assumption))));clear hb1))
   go_wp2_with fail
   have hn:Below W0.heap.size W0 wn:=And.left (by assumption)
   have b9:=(uH BB).trans (hn.mono (uH BB).size);have x9:=(uH X0).all hn;have y9:=(uH X1).all hn
   clear HK HA HB BB X0 X1 hn
   have B0:=hide b9;have X0:=hide x9;have X1:=hide y9
   clear b9 x9 y9
   refine at_world (fun W=>Below w.heap.size w W∧Box3 W w.heap.size (.bool na) (.slice ao A.length ca) (.int .i64 x)∧Box3 W (w.heap.size+1) (.bool nb) (.slice bo B.length cb) (.int .i64 y)) ⟨uH B0,uH X0,uH X1⟩ ?_
   clear B0 X0 X1
   rintro W0 ⟨b0,x0,x1⟩
   have hK:∀ w',Below W0.heap.size W0 w'→Below W0.heap.size W0 w'∧w'.cell? ⟨w.heap.size,0,none⟩ = some (.bool na)∧w'.cell? ⟨w.heap.size,1,none⟩ = some (.slice ao A.length ca)∧w'.cell? ⟨w.heap.size,2,none⟩ = some (.int .i64 x)∧w'.cell? ⟨w.heap.size+1,0,none⟩ = some (.bool nb)∧w'.cell? ⟨w.heap.size+1,1,none⟩ = some (.slice bo B.length cb)∧w'.cell? ⟨w.heap.size+1,2,none⟩ = some (.int .i64 y):=fun w' h =>
    ⟨h,(x0.all h).c0,(x0.all h).c1,(x0.all h).c2,(x1.all h).c0,(x1.all h).c1,(x1.all h).c2⟩
   have HK:=hide hK
   have HA:=hide (hA.below b0);have HB:=hide (hB.below b0);have BB:=hide b0;have X0:=hide x0;have X1:=hide x1
   clear hK b0 x0 x1
   go_region_held3 (fun w'=>Below W0.heap.size W0 w'∧w'.cell? ⟨w.heap.size,0,none⟩ = some (.bool na)∧w'.cell? ⟨w.heap.size,1,none⟩ = some (.slice ao A.length ca)∧w'.cell? ⟨w.heap.size,2,none⟩ = some (.int .i64 x)∧w'.cell? ⟨w.heap.size+1,0,none⟩ = some (.bool nb)∧w'.cell? ⟨w.heap.size+1,1,none⟩ = some (.slice bo B.length cb)∧w'.cell? ⟨w.heap.size+1,2,none⟩ = some (.int .i64 y))
    (first | exact uH HK _ (Below.refl _ _).drew | exact uH HK _ (by assumption))
    (first | (go_at_call_of 105 (Value.agg #[.bool na,.slice ao A.length ca,.int .i64 x]);refine (uH CTA _ ((uH HA).below (And.left (by assumption)))).mono ?_;rintro e wn ⟨rfl,hb1⟩;have hBn:Below W0.heap.size W0 wn:=Below.trans (And.left (by assumption)) (hb1.mono (Below.size (And.left (by assumption))));clear hb1) | (go_at_call_of 105 (Value.agg #[.bool nb,.slice bo B.length cb,.int .i64 y]);refine (uH CTB _ ((uH HB).below (And.left (by assumption)))).mono ?_;rintro e wn ⟨rfl,hb1⟩;have hBn:Below W0.heap.size W0 wn:=Below.trans (And.left (by assumption)) (hb1.mono (Below.size (And.left (by assumption))));clear hb1) | (go_at_call_of 104 (Value.agg #[.bool na,.slice ao A.length ca,.int .i64 x]);refine (uH CSA _).mono ?_;rintro e wn ⟨rfl,hb1⟩;have hBn:Below W0.heap.size W0 wn:=Below.trans (And.left (by assumption)) (hb1.mono (Below.size (And.left (by assumption))));clear hb1) | (go_at_call_of 104 (Value.agg #[.bool nb,.slice bo B.length cb,.int .i64 y]);refine (uH CSB _).mono ?_;rintro e wn ⟨rfl,hb1⟩;have hBn:Below W0.heap.size W0 wn:=Below.trans (And.left (by assumption)) (hb1.mono (Below.size (And.left (by assumption))));clear hb1))
   go_wp2
   go_ret
   exact ⟨rfl,(uH BB).trans (Below.mono (And.left (by assumption)) (uH BB).size)⟩
 ·subst hsame
  subst htt
  have hz:=uH HZ hlow
  rw [hcv] at hz
  have HZZ:=hide hz
  have CSUB':=hide (uH CSUB hlow h1 h2)
  have CSUB:=CSUB'
  clear WAYS H3A H3B HZ hlow h1 h2 hcv hz CSUB'
  go_enter Tryz.func51,Tryz.ntmps51
  go_wp2_with fail
  refine at_world (fun W=>Below w.heap.size w W∧Box3 W w.heap.size (.bool na) (.slice ao A.length ca) (.int .i64 x)∧Box3 W (w.heap.size+1) (.bool nb) (.slice bo B.length cb) (.int .i64 y)) ⟨uH B0,uH X0,uH X1⟩ ?_
  clear B0 X0 X1
  rintro W0 ⟨b0,x0,x1⟩
  have hK:∀ w',Below W0.heap.size W0 w'→Below W0.heap.size W0 w'∧w'.cell? ⟨w.heap.size,0,none⟩ = some (.bool na)∧w'.cell? ⟨w.heap.size,1,none⟩ = some (.slice ao A.length ca)∧w'.cell? ⟨w.heap.size,2,none⟩ = some (.int .i64 x)∧w'.cell? ⟨w.heap.size+1,0,none⟩ = some (.bool nb)∧w'.cell? ⟨w.heap.size+1,1,none⟩ = some (.slice bo B.length cb)∧w'.cell? ⟨w.heap.size+1,2,none⟩ = some (.int .i64 y):=fun w' h =>
   ⟨h,(x0.all h).c0,(x0.all h).c1,(x0.all h).c2,(x1.all h).c0,(x1.all h).c1,(x1.all h).c2⟩
  have HK:=hide hK
  have HA:=hide (hA.below b0);have HB:=hide (hB.below b0);have BB:=hide b0;have X0:=hide x0;have X1:=hide x1
  clear hK b0 x0 x1
  go_region_held3 (fun w'=>Below W0.heap.size W0 w'∧w'.cell? ⟨w.heap.size,0,none⟩ = some (.bool na)∧w'.cell? ⟨w.heap.size,1,none⟩ = some (.slice ao A.length ca)∧w'.cell? ⟨w.heap.size,2,none⟩ = some (.int .i64 x)∧w'.cell? ⟨w.heap.size+1,0,none⟩ = some (.bool nb)∧w'.cell? ⟨w.heap.size+1,1,none⟩ = some (.slice bo B.length cb)∧w'.cell? ⟨w.heap.size+1,2,none⟩ = some (.int .i64 y))
   (first | exact uH HK _ (Below.refl _ _).drew | exact uH HK _ (by assumption))
   (first | (go_at_call_of 104 (Value.agg #[.bool na,.slice ao A.length ca,.int .i64 x]);refine (uH CSA _).mono ?_;rintro e wn ⟨rfl,hb1⟩;have hBn:Below W0.heap.size W0 wn:=Below.trans (And.left (by assumption)) (hb1.mono (Below.size (And.left (by assumption))));clear hb1) | (go_at_call_of 104 (Value.agg #[.bool nb,.slice bo B.length cb,.int .i64 y]);refine (uH CSB _).mono ?_;rintro e wn ⟨rfl,hb1⟩;have hBn:Below W0.heap.size W0 wn:=Below.trans (And.left (by assumption)) (hb1.mono (Below.size (And.left (by assumption))));clear hb1))
  go_wp2_with fail
  have hn:Below W0.heap.size W0 wn:=And.left (by assumption)
  have b9:=(uH BB).trans (hn.mono (uH BB).size);have x9:=(uH X0).all hn;have y9:=(uH X1).all hn
  clear HK HA HB BB X0 X1 hn
  have B0:=hide b9;have X0:=hide x9;have X1:=hide y9
  clear b9 x9 y9
  refine at_world (fun W=>Below w.heap.size w W∧Box3 W w.heap.size (.bool na) (.slice ao A.length ca) (.int .i64 x)∧Box3 W (w.heap.size+1) (.bool nb) (.slice bo B.length cb) (.int .i64 y)) ⟨uH B0,uH X0,uH X1⟩ ?_
  clear B0 X0 X1
  rintro W0 ⟨b0,x0,x1⟩
  have hK:∀ w',Below W0.heap.size W0 w'→Below W0.heap.size W0 w'∧w'.cell? ⟨w.heap.size,0,none⟩ = some (.bool na)∧w'.cell? ⟨w.heap.size,1,none⟩ = some (.slice ao A.length ca)∧w'.cell? ⟨w.heap.size,2,none⟩ = some (.int .i64 x)∧w'.cell? ⟨w.heap.size+1,0,none⟩ = some (.bool nb)∧w'.cell? ⟨w.heap.size+1,1,none⟩ = some (.slice bo B.length cb)∧w'.cell? ⟨w.heap.size+1,2,none⟩ = some (.int .i64 y):=fun w' h =>
   ⟨h,(x0.all h).c0,(x0.all h).c1,(x0.all h).c2,(x1.all h).c0,(x1.all h).c1,(x1.all h).c2⟩
  have HK:=hide hK
  have HA:=hide (hA.below b0);have HB:=hide (hB.below b0);have BB:=hide b0;have X0:=hide x0;have X1:=hide x1
  clear hK b0 x0 x1
  go_region_held3 (fun w'=>Below W0.heap.size W0 w'∧w'.cell? ⟨w.heap.size,0,none⟩ = some (.bool na)∧w'.cell? ⟨w.heap.size,1,none⟩ = some (.slice ao A.length ca)∧w'.cell? ⟨w.heap.size,2,none⟩ = some (.int .i64 x)∧w'.cell? ⟨w.heap.size+1,0,none⟩ = some (.bool nb)∧w'.cell? ⟨w.heap.size+1,1,none⟩ = some (.slice bo B.length cb)∧w'.cell? ⟨w.heap.size+1,2,none⟩ = some (.int .i64 y))
   (first | exact uH HK _ (Below.refl _ _).drew | exact uH HK _ (by assumption))
   (first | (go_at_call_of 105 (Value.agg #[.bool na,.slice ao A.length ca,.int .i64 x]);refine (uH CTA _ ((uH HA).below (And.left (by assumption)))).mono ?_;rintro e wn ⟨rfl,hb1⟩;have hBn:Below W0.heap.size W0 wn:=Below.trans (And.left (by assumption)) (hb1.mono (Below.size (And.left (by assumption))));clear hb1) | (go_at_call_of 105 (Value.agg #[.bool nb,.slice bo B.length cb,.int .i64 y]);refine (uH CTB _ ((uH HB).below (And.left (by assumption)))).mono ?_;rintro e wn ⟨rfl,hb1⟩;have hBn:Below W0.heap.size W0 wn:=Below.trans (And.left (by assumption)) (hb1.mono (Below.size (And.left (by assumption))));clear hb1))
  go_wp2_with fail
  have hn:Below W0.heap.size W0 wn:=And.left (by assumption)
  have b9:=(uH BB).trans (hn.mono (uH BB).size);have x9:=(uH X0).all hn;have y9:=(uH X1).all hn
  clear HK HA HB BB X0 X1 hn
  have B0:=hide b9;have X0:=hide x9;have X1:=hide y9
  clear b9 x9 y9
  refine (uH CSUB _ (hA.below (uH B0)) (hB.below (uH B0))).mono ?_
  rintro r w5 ⟨u,rfl,iu,hb1⟩
  obtain ⟨n5,a5,c5,L5,rfl,q1,q2,q3,q4,q5⟩:=iu.parts
  have hs5:=rsgn_dy q2 q3 q4
  rw [uH HZZ] at hs5
  have CS5:=hide (fun w'=>rsign_any n5 a5 c5 L5.length oe w')
  rw [hs5] at CS5
  have B1:=hide ((uH B0).trans (hb1.mono (uH B0).size))
  clear q1 q2 q3 q4 q5 iu hb1 hs5
  go_wp2_with (go_at_call 104;refine (uH CS5 _).mono ?_;rintro r w6 ⟨rfl,hb1⟩)
  go_ret
  exact ⟨rfl,(uH B1).trans (hb1.mono (uH B1).size)⟩
end Go.Proofs.YtdhmglmccafbnaaGreatDoor
