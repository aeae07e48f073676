/- Part 10 of the texts. -/
import Derived.Test.YtcbcmlaogehimaaGreatDoorPartp09
set_option maxHeartbeats 2000000
namespace Go.Proofs.YtcbcmlaogehimaaGreatDoor
open Go.RowKit
attribute [local go_sem ↓] Go.wp_at_zero Go.wp_at_succ
theorem wD(u z:Bool)(F G:Option Addr)(H I:Nat)(A B:List Nat)(x y:Int)(w:World)(hA:ag w F H A)(hB:ag w G I B)(L:kQ u A x=true)(O:kQ z B y=true)(hT:cr w):
  Calls Tryz.prog 275 #[.agg #[.bool u,.slice F A.length H,.int .i64 x],.agg #[.bool z,.slice G B.length I,.int .i64 y]] w fun r Q=>nF Q r (tY (af u A) x (af z B) y) (tZ (af u A) x (af z B) y) (t7 (af u A) x (af z B) y)∧Below w.heap.size w Q:=by
 obtain⟨ra,la,ae,ah,zx⟩:=cd L
 obtain⟨rb,lb,an,ar,zy⟩:=cd O
 have CC:=ac (fun Q h Z t=>js u z F G H I A B x y Q h Z (by omega) (by omega) t)
 have he:qg u A x z B y=0:=by unfold qg;rw[L,O];rfl
 rw[he]at CC
 have CA:=ac (fun Q h Z t=>rF u z F G H I A B x y Q h Z ra rb ⟨ae,ah⟩ ⟨an,ar⟩ zx zy t)
 generalize tY (af u A) x (af z B) y=er at*
 generalize tZ (af u A) x (af z B) y=am at*
 generalize t7 (af u A) x (af z B) y=ax at*
 clear he L O zx zy ra rb
 have X:Below w.heap.size w (((w.alloc (.cells #[.bool u,.slice F A.length H,.int .i64 x] 35)).alloc (.cells #[.bool z,.slice G B.length I,.int .i64 y] 35)).alloc (.cells #[.bool false,.slice none 0 0,.int .i64 0] 35)):=
  (((Below.refl _ _).alloc (Nat.le_refl _) _).alloc (by simp) _).alloc (by simp;omega) _
 have J:al (((w.alloc (.cells #[.bool u,.slice F A.length H,.int .i64 x] 35)).alloc (.cells #[.bool z,.slice G B.length I,.int .i64 y] 35)).alloc (.cells #[.bool false,.slice none 0 0,.int .i64 0] 35)) w.heap.size (.bool u) (.slice F A.length H) (.int .i64 x):=((al.new _ _ _ _).old _).old _
 have K:al (((w.alloc (.cells #[.bool u,.slice F A.length H,.int .i64 x] 35)).alloc (.cells #[.bool z,.slice G B.length I,.int .i64 y] 35)).alloc (.cells #[.bool false,.slice none 0 0,.int .i64 0] 35)) (w.heap.size+1) (.bool z) (.slice G B.length I) (.int .i64 y):=by
  have:=(al.new (w.alloc (.cells #[.bool u,.slice F A.length H,.int .i64 x] 35)) (.bool z) (.slice G B.length I) (.int .i64 y)).old (.cells #[.bool false,.slice none 0 0,.int .i64 0] 35)
  simpa using this
 have D:al (((w.alloc (.cells #[.bool u,.slice F A.length H,.int .i64 x] 35)).alloc (.cells #[.bool z,.slice G B.length I,.int .i64 y] 35)).alloc (.cells #[.bool false,.slice none 0 0,.int .i64 0] 35)) (w.heap.size+1+1) (.bool false) (.slice none 0 0) (.int .i64 0):=by
  have:=al.new ((w.alloc (.cells #[.bool u,.slice F A.length H,.int .i64 x] 35)).alloc (.cells #[.bool z,.slice G B.length I,.int .i64 y] 35)) (.bool false) (.slice none 0 0) (.int .i64 0)
  simpa using this
 have U:=ac X;have X0:=ac J;have X1:=ac K;have X2:=ac D
 clear X J K D
 go_enter Tryz.func275,Tryz.ntmps275
 go_wp2_with fail
 refine(uH CC _ (hA.below (uH U)) (hB.below (uH U)) (hT.all (uH U))).mono ?_
 rintro r w1 ⟨rfl,d⟩
 have J:=(uH X0).all d;have K:=(uH X1).all d;have D:=(uH X2).all d
 have b1:=(uH U).trans (d.mono (uH U).size)
 have p0:=J.c0;have p1:=J.c1;have p2:=J.c2
 have q0:=K.c0;have q1:=K.c1;have q2:=K.c2
 have az:=ac J;have aI:=ac K;have aa:=ac D;have Y:=ac b1
 clear d J K D b1 X0 X1 X2 U CC
 go_wp2_with fail
 refine(uH CA _ (hA.below (uH Y)) (hB.below (uH Y)) (hT.all (uH Y))).mono ?_
 rintro r w4 ⟨⟨v,rfl,iv⟩,d⟩
 obtain⟨n3,a3,c3,L3,rfl,i3⟩:=iv.num
 have D:=(uH aa).all d
 have b2:=(uH Y).trans (d.mono (uH Y).size)
 have y0:=D.c0;have y1:=D.c1;have y2:=D.c2;have f0:=D.free 0;have f1:=D.free 1;have f2:=D.free 2
 have X3:=ac D;have B2:=ac b2;have IV:=ac iv
 clear D b2 d iv i3
 go_wp2
 refine bodyPost_ret (v:=.tuple #[.agg #[.bool n3,.slice a3 L3.length c3,.int .i64 (ax)],.int .i64 (er)]) (by simp[results,Tryz.results275,go_sem,y0,y1,y2]) rfl ⟨⟨_,rfl,(uH IV).put3 (uH X3) _ _ _⟩,aD (uH B2) (by omega) _ _ _⟩
theorem wE(D F:Bool)(H I:Option Addr)(J K:Nat)(A B:List Nat)(x y:Int)(w:World)(hA:ag w H J A)(hB:ag w I K B)(Y:kQ D A x=true)(Z:kQ F B y=true)(hz:(af D A*af F B).natAbs<du)(hT:cr w):
  Calls Tryz.prog 282 #[.agg #[.bool D,.slice H A.length J,.int .i64 x],.agg #[.bool F,.slice I B.length K,.int .i64 y]] w fun r X=>nF X r (cU (af D A*af F B) (x+y)) (dM (af D A*af F B) (x+y)) (dX (af D A*af F B) (x+y))∧Below w.heap.size w X:=by
 obtain⟨ra,la,an,ar,zx⟩:=cd Y
 obtain⟨rb,lb,az,aI,zy⟩:=cd Z
 have CC:=ac (fun X h h' t=>js D F H I J K A B x y X h h' (by omega) (by omega) t)
 have he:qg D A x F B y=0:=by unfold qg;rw[Y,Z];rfl
 rw[he]at CC
 have CM:=ac (fun X h h'=>F5 D F H I J K A B X h h' (by omega) (by omega))
 rw[ra,rb,Bool.and_self,gP,gQ,gq _ hz,gr _ hz]at CM
 have CK:=ac (fun X u B' (iu:au B' X u (af D A*af F B)) t=>jt (x+y) iu hz (by omega) t)
 generalize cU (af D A*af F B) (x+y)=er at*
 generalize dM (af D A*af F B) (x+y)=am at*
 generalize dX (af D A*af F B) (x+y)=ax at*
 clear he Y Z zx zy ra rb hz
 generalize af D A*af F B=z at*
 have aa:Below w.heap.size w (((w.alloc (.cells #[.bool D,.slice H A.length J,.int .i64 x] 35)).alloc (.cells #[.bool F,.slice I B.length K,.int .i64 y] 35)).alloc (.cells #[.bool false,.slice none 0 0,.int .i64 0] 35)):=
  (((Below.refl _ _).alloc (Nat.le_refl _) _).alloc (by simp) _).alloc (by simp;omega) _
 have L:al (((w.alloc (.cells #[.bool D,.slice H A.length J,.int .i64 x] 35)).alloc (.cells #[.bool F,.slice I B.length K,.int .i64 y] 35)).alloc (.cells #[.bool false,.slice none 0 0,.int .i64 0] 35)) w.heap.size (.bool D) (.slice H A.length J) (.int .i64 x):=((al.new _ _ _ _).old _).old _
 have O:al (((w.alloc (.cells #[.bool D,.slice H A.length J,.int .i64 x] 35)).alloc (.cells #[.bool F,.slice I B.length K,.int .i64 y] 35)).alloc (.cells #[.bool false,.slice none 0 0,.int .i64 0] 35)) (w.heap.size+1) (.bool F) (.slice I B.length K) (.int .i64 y):=by
  have:=(al.new (w.alloc (.cells #[.bool D,.slice H A.length J,.int .i64 x] 35)) (.bool F) (.slice I B.length K) (.int .i64 y)).old (.cells #[.bool false,.slice none 0 0,.int .i64 0] 35)
  simpa using this
 have G:al (((w.alloc (.cells #[.bool D,.slice H A.length J,.int .i64 x] 35)).alloc (.cells #[.bool F,.slice I B.length K,.int .i64 y] 35)).alloc (.cells #[.bool false,.slice none 0 0,.int .i64 0] 35)) (w.heap.size+1+1) (.bool false) (.slice none 0 0) (.int .i64 0):=by
  have:=al.new ((w.alloc (.cells #[.bool D,.slice H A.length J,.int .i64 x] 35)).alloc (.cells #[.bool F,.slice I B.length K,.int .i64 y] 35)) (.bool false) (.slice none 0 0) (.int .i64 0)
  simpa using this
 have B0:=ac aa;have X0:=ac L;have X1:=ac O;have X2:=ac G
 clear aa L O G
 go_enter Tryz.func282,Tryz.ntmps282
 go_wp2_with fail
 refine(uH CC _ (hA.below (uH B0)) (hB.below (uH B0)) (hT.all (uH B0))).mono ?_
 rintro r w1 ⟨rfl,d⟩
 have L:=(uH X0).all d;have O:=(uH X1).all d;have G:=(uH X2).all d
 have b1:=(uH B0).trans (d.mono (uH B0).size)
 have p0:=L.c0;have p1:=L.c1;have p2:=L.c2
 have q0:=O.c0;have q1:=O.c1;have q2:=O.c2
 have ae:=ac L;have ah:=ac O;have U:=ac G;have Q:=ac b1
 clear d L O G b1 X0 X1 X2 B0 CC
 go_wp2_with fail
 refine(uH CM _ (hA.below (uH Q)) (hB.below (uH Q))).mono ?_
 rintro r w5 ⟨u,rfl,⟨n4,a4,c4,L4,rfl,i4⟩,d⟩
 have L:=((uH ae).all d).old (.cells #[.bool n4,.slice a4 L4.length c4] 33)
 have O:=((uH ah).all d).old (.cells #[.bool n4,.slice a4 L4.length c4] 33)
 have G:=((uH U).all d).old (.cells #[.bool n4,.slice a4 L4.length c4] 33)
 have b1:=((uH Q).trans (d.mono (uH Q).size)).alloc ((uH Q).trans (d.mono (uH Q).size)).size (.cells #[.bool n4,.slice a4 L4.length c4] 33)
 have iz:au 0 (w5.alloc (.cells #[.bool n4,.slice a4 L4.length c4] 33)) (.agg #[.bool n4,.slice a4 L4.length c4]) z:=au.mono (au.below ⟨n4,a4,c4,L4,rfl,i4⟩ ((Below.refl _ _).alloc (Nat.le_refl _) _)) (Nat.zero_le _)
 clear ae ah U Q d i4 CM p0 p1 p2 q0 q1 q2
 have p2:=L.c2;have q2:=O.c2
 have U:=ac G;have Q:=ac b1;have IZ:=ac iz
 clear L O G b1 iz
 go_wp2_with fail
 refine(uH CK _ _ _ (uH IZ) (hT.all (uH Q))).mono ?_
 rintro r w4 ⟨v,rfl,iv,d⟩
 obtain⟨n3,a3,c3,L3,rfl,i3⟩:=iv.num
 have G:=(uH U).all d
 have b2:=(uH Q).trans (d.mono (uH Q).size)
 have y0:=G.c0;have y1:=G.c1;have y2:=G.c2;have f0:=G.free 0;have f1:=G.free 1;have f2:=G.free 2
 have X3:=ac G;have B2:=ac b2;have IV:=ac iv
 clear G b2 d iv i3
 go_wp2
 refine bodyPost_ret (v:=.tuple #[.agg #[.bool n3,.slice a3 L3.length c3,.int .i64 (ax)],.int .i64 (er)]) (by simp[results,Tryz.results282,go_sem,y0,y1,y2]) rfl ⟨⟨_,rfl,(uH IV).put3 (uH X3) _ _ _⟩,aD (uH B2) (by omega) _ _ _⟩
theorem rG(u:Bool)(D:Option Addr)(F:Nat)(A:List Nat)(x n:Int)(w:World)(X:ag w D F A)(L:kQ u A x=true)(Y:-32768≤n∧n≤32768)(Z:cr w):
  Calls Tryz.prog 228 #[.agg #[.bool u,.slice D A.length F,.int .i64 x],.int .i64 n] w fun r G=>nF G r (cU (af u A) (x+n)) (dM (af u A) (x+n)) (dX (af u A) (x+n))∧Below w.heap.size w G:=by
 obtain⟨ra,la,aa,ae,zx⟩:=cd L
 have O:=ac (fun G h t=>iU u D F A x G h (by omega) t)
 have he:oS u A x=0:=by unfold oS;rw[L];rfl
 rw[he]at O
 have CW:=ac (fun G=>dD n 32768 G (by decide) (by decide))
 rw[decide_eq_true Y]at CW
 have CK:=ac (fun G h t=>iW u D F A (x+n) G h ra (by omega) t)
 generalize cU (af u A) (x+n)=er at*
 generalize dM (af u A) (x+n)=am at*
 generalize dX (af u A) (x+n)=ax at*
 obtain⟨ah,an⟩:=Y
 clear he L zx ra
 have I:Below w.heap.size w ((w.alloc (.cells #[.bool u,.slice D A.length F,.int .i64 x] 35)).alloc (.cells #[.bool false,.slice none 0 0,.int .i64 0] 35)):=((Below.refl _ _).alloc (Nat.le_refl _) _).alloc (by simp) _
 have H:al ((w.alloc (.cells #[.bool u,.slice D A.length F,.int .i64 x] 35)).alloc (.cells #[.bool false,.slice none 0 0,.int .i64 0] 35)) w.heap.size (.bool u) (.slice D A.length F) (.int .i64 x):=(al.new _ _ _ _).old _
 have z:al ((w.alloc (.cells #[.bool u,.slice D A.length F,.int .i64 x] 35)).alloc (.cells #[.bool false,.slice none 0 0,.int .i64 0] 35)) (w.heap.size+1) (.bool false) (.slice none 0 0) (.int .i64 0):=by
  have:=al.new (w.alloc (.cells #[.bool u,.slice D A.length F,.int .i64 x] 35)) (.bool false) (.slice none 0 0) (.int .i64 0)
  simpa using this
 have J:=ac I;have X0:=ac H;have X2:=ac z
 clear I H z
 go_enter Tryz.func228,Tryz.ntmps228
 go_wp2_with fail
 refine(uH O _ (X.below (uH J)) (Z.all (uH J))).mono ?_
 rintro r w1 ⟨rfl,d⟩
 have H:=(uH X0).all d;have z:=(uH X2).all d
 have b1:=(uH J).trans (d.mono (uH J).size)
 have p0:=H.c0;have p1:=H.c1;have p2:=H.c2
 have Q:=ac z;have K:=ac b1
 clear d H z b1 X0 X2 J O
 go_wp2_with fail
 refine(uH CW _).mono ?_
 rintro r w2 ⟨rfl,rfl⟩
 go_wp2_with fail
 refine(uH CK _ (X.below (uH K)) (Z.all (uH K))).mono ?_
 rintro r w4 ⟨v,rfl,U,d⟩
 obtain⟨n3,a3,c3,L3,rfl,i3⟩:=U.num
 have z:=(uH Q).all d
 have b2:=(uH K).trans (d.mono (uH K).size)
 have y0:=z.c0;have y1:=z.c1;have y2:=z.c2;have f0:=z.free 0;have f1:=z.free 1;have f2:=z.free 2
 have X3:=ac z;have B2:=ac b2;have IV:=ac U
 clear z b2 d U i3
 go_wp2
 refine bodyPost_ret (v:=.tuple #[.agg #[.bool n3,.slice a3 L3.length c3,.int .i64 (ax)],.int .i64 (er)]) (by simp[results,Tryz.results228,go_sem,y0,y1,y2]) rfl ⟨⟨_,rfl,(uH IV).put3 (uH X3) _ _ _⟩,aD (uH B2) (by omega) _ _ _⟩
theorem au.toM{B:Nat}{w:World}{v:Value}{z:Int}(h:au B w v z)(G:z.natAbs<du):aJ 512 B w v z:=by
 obtain⟨n,a,c,L,rfl,d,A,u,D,F,H⟩:=h
 exact⟨n,a,c,L,rfl,d,A,u,D,F,(dC L d.2.1 u).1 (by omega)⟩
theorem oW(x:Int):-9223372036854775808≤IntKind.i64.wrap x∧IntKind.i64.wrap x≤9223372036854775807:=by
 simp only[IntKind.wrap,IntKind.signed,IntKind.bits]
 simp
 split<;>omega
theorem ky(L:List Nat)(u:bm L)(k:Nat)(h:L.length≤k):aj L<2^(32*k):=by
 have d:=eO L u
 rw[show(4294967296:Nat)=2^32 by decide,←Nat.pow_mul]at d
 exact Nat.lt_of_lt_of_le d (Nat.pow_le_pow_right (by decide) (by omega))
theorem wF:du=2^(32*mu):=by
 unfold du
 rw[show(4294967296:Nat)=2^32 by decide,←Nat.pow_mul]
theorem kz{v k:Nat}(h:v<2^k)(d:k≤16384):v<du:=by
 rw[wF]
 exact Nat.lt_of_lt_of_le h (Nat.pow_le_pow_right (by decide) d)
theorem kA{a b j k:Nat}(d:a<2^j)(h:b<2^k):a*b<2^(j+k):=by
 rw[Nat.pow_add]
 exact Nat.mul_lt_mul_of_lt_of_le d (Nat.le_of_lt h) (Nat.pow_pos (by decide))
theorem Gg(d h:Bool)(A B:List Nat)(fA:bm A)(u:bm B)(z:A.length≤30)(D:B.length≤30):(af d A*af h B).natAbs<du:=by
 rw[Int.natAbs_mul,aQ,aQ]
 exact kz (kA (ky A fA 30 z) (ky B u 30 D)) (by decide)
theorem Ci(D F:Bool)(G H:Option Addr)(I J:Nat)(A B:List Nat)(x y:Int)(w:World)(hA:ag w G I A)(hB:ag w H J B)(la:A.length≤30)(lb:B.length≤30):
  Calls Tryz.prog 18 #[.agg #[.bool D,.slice G A.length I,.int .i64 x],.agg #[.bool F,.slice H B.length J,.int .i64 y]] w fun r d=>∃v,r=.returned v∧aC d v (oM (af D A*af F B)) (if af D A*af F B=0 then 0 else IntKind.i64.wrap (IntKind.i64.wrap (x+y)+tz (af D A*af F B).natAbs))∧Below w.heap.size w d:=by
 have hz:=Gg D F A B hA.2.1 hB.2.1 la lb
 have CM:=ac (fun d h h'=>oQ D F G H I J A B d h h' (by omega) (by omega))
 have CO:=ac (fun e' d u B' (Z:au B' d u (af D A*af F B)) (he:e'=IntKind.i64.wrap (x+y))=>show Calls Tryz.prog 27 #[u,.int .i64 e'] d fun r aa=>∃u,r=.returned u∧aC aa u (oM (af D A*af F B)) (if af D A*af F B=0 then 0 else IntKind.i64.wrap (IntKind.i64.wrap (x+y)+tz (af D A*af F B).natAbs))∧Below d.heap.size d aa by
  subst he
  exact rE _ (Z.toM hz) (by decide) (oW _))
 clear hz
 generalize af D A*af F B=z at*
 generalize (if z=0 then 0 else IntKind.i64.wrap (IntKind.i64.wrap (x+y)+tz z.natAbs))=ox at*
 generalize oM z=om at*
 have ae:Below w.heap.size w (((w.alloc (.cells #[.bool D,.slice G A.length I,.int .i64 x] 35)).alloc (.cells #[.bool F,.slice H B.length J,.int .i64 y] 35)).alloc (.cells #[.bool false,.slice none 0 0,.int .i64 0] 35)):=
  (((Below.refl _ _).alloc (Nat.le_refl _) _).alloc (by simp) _).alloc (by simp;omega) _
 have Q:al (((w.alloc (.cells #[.bool D,.slice G A.length I,.int .i64 x] 35)).alloc (.cells #[.bool F,.slice H B.length J,.int .i64 y] 35)).alloc (.cells #[.bool false,.slice none 0 0,.int .i64 0] 35)) w.heap.size (.bool D) (.slice G A.length I) (.int .i64 x):=((al.new _ _ _ _).old _).old _
 have U:al (((w.alloc (.cells #[.bool D,.slice G A.length I,.int .i64 x] 35)).alloc (.cells #[.bool F,.slice H B.length J,.int .i64 y] 35)).alloc (.cells #[.bool false,.slice none 0 0,.int .i64 0] 35)) (w.heap.size+1) (.bool F) (.slice H B.length J) (.int .i64 y):=by
  have:=(al.new (w.alloc (.cells #[.bool D,.slice G A.length I,.int .i64 x] 35)) (.bool F) (.slice H B.length J) (.int .i64 y)).old (.cells #[.bool false,.slice none 0 0,.int .i64 0] 35)
  simpa using this
 have X:al (((w.alloc (.cells #[.bool D,.slice G A.length I,.int .i64 x] 35)).alloc (.cells #[.bool F,.slice H B.length J,.int .i64 y] 35)).alloc (.cells #[.bool false,.slice none 0 0,.int .i64 0] 35)) (w.heap.size+1+1) (.bool false) (.slice none 0 0) (.int .i64 0):=by
  have:=al.new ((w.alloc (.cells #[.bool D,.slice G A.length I,.int .i64 x] 35)).alloc (.cells #[.bool F,.slice H B.length J,.int .i64 y] 35)) (.bool false) (.slice none 0 0) (.int .i64 0)
  simpa using this
 have B0:=ac ae;have X0:=ac Q;have X1:=ac U;have X2:=ac X
 clear ae Q U X
 go_enter Tryz.func18,Tryz.ntmps18
 go_wp2_with fail
 refine ap (fun W=>Below w.heap.size w W∧al W w.heap.size (.bool D) (.slice G A.length I) (.int .i64 x)∧al W (w.heap.size+1) (.bool F) (.slice H B.length J) (.int .i64 y)∧al W (w.heap.size+1+1) (.bool false) (.slice none 0 0) (.int .i64 0)) ⟨uH B0,uH X0,uH X1,uH X2⟩ ?_
 clear B0 X0 X1 X2
 rintro Y ⟨b0,Q,U,X⟩
 have s0:w.heap.size+1+1<Y.heap.size:=X.lt
 have hK:∀d,Below (w.heap.size+1+1) Y d→Below (w.heap.size+1+1) Y d∧d.cell? ⟨w.heap.size,0,none⟩=some (.bool D)∧d.cell? ⟨w.heap.size,1,none⟩=some (.slice G A.length I)∧d.cell? ⟨w.heap.size,2,none⟩=some (.int .i64 x)∧d.cell? ⟨w.heap.size+1,0,none⟩=some (.bool F)∧d.cell? ⟨w.heap.size+1,1,none⟩=some (.slice H B.length J)∧d.cell? ⟨w.heap.size+1,2,none⟩=some (.int .i64 y):=fun d h=>
  ⟨h,(Q.below h (by omega)).c0,(Q.below h (by omega)).c1,(Q.below h (by omega)).c2,(U.below h (by omega)).c0,(U.below h (by omega)).c1,(U.below h (by omega)).c2⟩
 have HK:=ac hK;have BB:=ac b0;have X2:=ac X
 clear hK b0 Q U X
 go_region_held3(fun d=>Below (w.heap.size+1+1) Y d∧d.cell? ⟨w.heap.size,0,none⟩=some (.bool D)∧d.cell? ⟨w.heap.size,1,none⟩=some (.slice G A.length I)∧d.cell? ⟨w.heap.size,2,none⟩=some (.int .i64 x)∧d.cell? ⟨w.heap.size+1,0,none⟩=some (.bool F)∧d.cell? ⟨w.heap.size+1,1,none⟩=some (.slice H B.length J)∧d.cell? ⟨w.heap.size+1,2,none⟩=some (.int .i64 y))
  (first|exact uH HK _ (Below.refl _ _).drew|exact uH HK _ (by assumption)|exact uH HK _ (aD an (by omega) _ _ _))
  (first|(go_at_call 54;refine(uH CM _ (hA.below ((uH BB).trans ((Below.refl _ _).drew))) (hB.below ((uH BB).trans ((Below.refl _ _).drew)))).mono ?_;rintro e w3 ⟨v,rfl,⟨n4,a4,c4,L4,rfl,i4⟩,K⟩;have ah:Below (w.heap.size+1+1) Y w3:=((Below.refl _ _).drew).trans (K.mono (by simp;omega));have X3:=ac ((uH X2).drew.below K (by simp;omega));have IZ:=ac (show au 0 w3 (.agg #[.bool n4,.slice a4 L4.length c4]) z from⟨n4,a4,c4,L4,rfl,i4⟩);have s1:=K.size;have am:=ac ((uH BB).trans (ah.mono (by omega)));clear K i4)|(go_at_call 27;refine(uH CO _ _ _ _ (uH IZ) (by first|rfl|exact(eG _))).mono ?_;rintro e w4 ⟨u,rfl,Z,L⟩;obtain⟨n5,a5,c5,L5,rfl,i5⟩:=Z.num;have an:Below (w.heap.size+1+1) Y w4:=ah.trans (L.mono (by simp at s1;omega));have O:=(uH X3).below L (by simp at s1;omega);have y0:=O.c0;have y1:=O.c1;have y2:=O.c2;have f0:=O.free 0;have f1:=O.free 1;have f2:=O.free 2;have IU:=ac Z;have X5:=ac O;have ar:=ac ((uH am).trans (L.mono (by simp at s1;omega)));clear L Z i5 O))
 go_wp2
 refine bodyPost_ret (v:=.agg #[.bool n5,.slice a5 L5.length c5,.int .i64 ox]) (by simp[results,Tryz.results18,go_sem,y0,y1,y2]) rfl ⟨_,rfl,(uH IU).put3 (uH X5) _ _ _,aD (uH ar) (by omega) _ _ _⟩
theorem wG(d:Bool)(z:Option Addr)(D:Nat)(A:List Nat)(x n:Int)(w:World)(L:ag w z D A)(I:aw d A=true)(X:-16384≤x∧x≤16384)(Y:-32768≤n∧n≤32768):
  Calls Tryz.prog 29 #[.agg #[.bool d,.slice z A.length D,.int .i64 x],.int .i64 n] w fun r H=>∃v,r=.returned v∧aC H v (oM (af d A)) (oE (af d A) (x+n))∧Below w.heap.size w H:=by
 have O:=lj L I
 have Z:=ac (fun H (h:ag H z D A)=>f8 (x+n) ((zN h I (bI.zero h)).toM O) (by decide) (by omega))
 clear O I
 generalize oE (af d A) (x+n)=ox at*
 generalize oM (af d A)=om at*
 obtain⟨aa,ae⟩:=X
 obtain⟨ah,am⟩:=Y
 have G:Below w.heap.size w ((w.alloc (.cells #[.bool d,.slice z A.length D,.int .i64 x] 35)).alloc (.cells #[.bool false,.slice none 0 0,.int .i64 0] 35)):=((Below.refl _ _).alloc (Nat.le_refl _) _).alloc (by simp) _
 have Q:al ((w.alloc (.cells #[.bool d,.slice z A.length D,.int .i64 x] 35)).alloc (.cells #[.bool false,.slice none 0 0,.int .i64 0] 35)) w.heap.size (.bool d) (.slice z A.length D) (.int .i64 x):=(al.new _ _ _ _).old _
 have u:al ((w.alloc (.cells #[.bool d,.slice z A.length D,.int .i64 x] 35)).alloc (.cells #[.bool false,.slice none 0 0,.int .i64 0] 35)) (w.heap.size+1) (.bool false) (.slice none 0 0) (.int .i64 0):=by
  have:=al.new (w.alloc (.cells #[.bool d,.slice z A.length D,.int .i64 x] 35)) (.bool false) (.slice none 0 0) (.int .i64 0)
  simpa using this
 have J:=ac G;have X0:=ac Q;have X2:=ac u
 clear G Q u
 go_enter Tryz.func29,Tryz.ntmps29
 go_wp2_with fail
 refine(uH Z _ (L.below (uH J))).mono ?_
 rintro r w4 ⟨v,rfl,K,F⟩
 obtain⟨n3,a3,c3,L3,rfl,i3⟩:=K.num
 have u:=(uH X2).all F
 have U:=(uH J).trans (F.mono (uH J).size)
 have y0:=u.c0;have y1:=u.c1;have y2:=u.c2;have f0:=u.free 0;have f1:=u.free 1;have f2:=u.free 2
 have X3:=ac u;have B2:=ac U;have IV:=ac K
 clear u U F K i3
 go_wp2
 refine bodyPost_ret (v:=.agg #[.bool n3,.slice a3 L3.length c3,.int .i64 ox]) (by simp[results,Tryz.results29,go_sem,y0,y1,y2]) rfl ⟨_,rfl,(uH IV).put3 (uH X3) _ _ _,aD (uH B2) (by omega) _ _ _⟩
end Go.Proofs.YtcbcmlaogehimaaGreatDoor
namespace Go.Proofs.YtcbcmlaogehimaaGreatDoor
open Go.RowKit
theorem t8:∀(t:Nat),0<t→t<4294967296→1≤Lib.bitLen t∧2^(Lib.bitLen t-1)≤t∧t<2^Lib.bitLen t:=by
 intro t
 induction t using Nat.strongRecOn with
 |ind t ih=>
  intro u z
  have d:=np t u z
  by_cases h:t=1
  ·subst h;decide
  ·obtain⟨A,D,F⟩:=ih (t/2) (by omega) (by omega) (by omega)
   rw[d]
   refine⟨by omega,?_,?_⟩
   ·rw[show 1+Lib.bitLen (t/2)-1=(Lib.bitLen (t/2)-1)+1 by omega,Nat.pow_succ]
    omega
   ·rw[show 1+Lib.bitLen (t/2)=Lib.bitLen (t/2)+1 by omega,Nat.pow_succ]
    omega
def ki(L:List Nat):Nat:=if L.length=0 then 0 else 32*(L.length-1)+Lib.bitLen (L[L.length-1]?.getD 0)
theorem iC(L:List Nat):dU L=(ki L:Int):=by
 unfold dU ki
 by_cases h:L.length=0
 ·rw[if_pos h,if_pos h];rfl
 ·rw[if_neg h,if_neg h];omega
theorem iD(L:List Nat)(z:bm L)(D:bT L)(A:L≠ []):1≤ki L∧2^(ki L-1)≤aj L∧aj L<2^ki L:=by
 have I:0<L.length:=List.length_pos_iff.2 A
 have J:L[L.length-1]?.getD 0≠0:=by
  rcases D with h|h
  ·exact absurd h A
  ·exact h
 have u:L[L.length-1]?.getD 0<4294967296:=by
  rw[List.getElem?_eq_getElem (by omega)]
  exact z _ (List.getElem_mem _)
 obtain⟨K,G,H⟩:=t8 (L[L.length-1]?.getD 0) (by omega) u
 have d:=aN L (L.length-1)
 rw[show L.length-1+1=L.length by omega,List.take_length]at d
 have F:=gZ L z (L.length-1)
 rw[show(4294967296:Nat)=2^32 by decide,←Nat.pow_mul]at F d
 unfold ki
 rw[if_neg (by omega)]
 generalize L[L.length-1]?.getD 0=t at*
 generalize Lib.bitLen t=b at*
 generalize aj (L.take (L.length-1))=r at*
 generalize O:32*(L.length-1)=k at*
 refine⟨by omega,?_,?_⟩
 ·rw[show k+b-1=k+(b-1) by omega,Nat.pow_add,d]
  have:2^k*2^(b-1)≤2^k*t:=Nat.mul_le_mul_left _ G
  omega
 ·rw[Nat.pow_add,d]
  have:2^k*(t+1)≤2^k*2^b:=Nat.mul_le_mul_left _ H
  rw[Nat.mul_add]at this
  omega
theorem yl(v n d k:Nat)(F:1≤n)(z:2^(n-1)≤v)(A:v<2^n):v*2^d<2^k↔n+d≤k:=by
 constructor
 ·intro h
  apply Nat.le_of_not_lt
  intro D
  have u:2^(n-1)*2^d≤v*2^d:=Nat.mul_le_mul_right _ z
  rw[←Nat.pow_add]at u
  have G:2^k≤2^(n-1+d):=Nat.pow_le_pow_right (by decide) (by omega)
  omega
 ·intro h
  have u:v*2^d<2^n*2^d:=Nat.mul_lt_mul_of_pos_right A (Nat.pow_pos (by decide))
  rw[←Nat.pow_add]at u
  exact Nat.lt_of_lt_of_le u (Nat.pow_le_pow_right (by decide) h)
theorem zU(n:Bool)(L:List Nat)(x l:Int):(up (af n L) x l).natAbs=aj L*2^(x-l).toNat:=by
 unfold up
 rw[Int.natAbs_mul,aQ,Int.natAbs_pow]
 rfl
theorem ym(n:Bool)(L:List Nat)(x l:Int)(u:bm L)(z:aw n L=true)(A:L≠ [])(H:l≤x):eh (af n L) x l=0↔(x-l≤16384∧dU L+x-l≤16384):=by
 obtain⟨D,F,G⟩:=iD L u (ay z).2.1 A
 have d:=yl (aj L) (ki L) (x-l).toNat (32*mu) D F G
 rw[←wF,←zU n L x l]at d
 have I:32*mu=16384:=rfl
 rw[iC]
 constructor
 ·intro h
  have:=d.1 (lk h)
  omega
 ·intro h
  exact dW _ _ _ (d.2 (by omega)) h.1
def fA(b:Nat):Nat:=if fP b=0 then fF b else fF b+4503599627370496
def fM(b:Nat):Int:=sg (fS b) (fA b)
def fE(b:Nat):Int:=if fP b=0 then-1074 else(fP b:Int)-1075
theorem IQ(b:Nat):fA b<9007199254740992:=by unfold fA;have:=tI b;split<;>omega
theorem t9(b:Nat):(fM b).natAbs<9007199254740992:=by
 have:=IQ b
 unfold fM sg
 split<;>omega
theorem Cj(b:Nat):-1074≤fE b∧fE b≤972:=by
 have:=qE b
 unfold fE
 split<;>omega
theorem zV(b:Nat)(w:World):
  Calls Tryz.prog 205 #[fV b] w fun e D=>e=.returned (.tuple #[.int .i64 (fM b),.int .i64 (fE b)])∧Below w.heap.size w D:=by
 unfold fV fM fE fA
 have F:=qE b
 have G:=tI b
 generalize fF b=f at*
 generalize fP b=p at*
 generalize fS b=s at*
 have h:(0:Int)≤f:=by omega
 have u:(f:Int)<4503599627370496:=by omega
 have z:(p:Int)<2048:=by omega
 by_cases d:p=0
 ·subst d
  rw[if_pos rfl,if_pos rfl]
  cases s
  ·go_enter Tryz.func205,Tryz.ntmps205
   go_wp2
   exact bodyPost_ret (v:=.tuple #[.int .i64 f,.int .i64 (-1074)]) (by simp[results,Tryz.results205,go_sem]) rfl ⟨rfl,(Below.refl _ _).alloc (Nat.le_refl _) _⟩
  ·go_enter Tryz.func205,Tryz.ntmps205
   go_wp2
   exact bodyPost_ret (v:=.tuple #[.int .i64 (-f),.int .i64 (-1074)]) (by simp[results,Tryz.results205,go_sem]) rfl ⟨rfl,(Below.refl _ _).alloc (Nat.le_refl _) _⟩
 ·rw[if_neg d,if_neg d]
  have H:0<p:=by omega
  have I:decide (0<p)=true:=decide_eq_true H
  have J:IntKind.i64.wrap (f:Int)=(f:Int):=by simp only[IntKind.wrap_i64];omega
  have K:IntKind.i64.wrap (p:Int)=(p:Int):=by simp only[IntKind.wrap_i64];omega
  obtain⟨a,A⟩:∃a:Nat,a=f+4503599627370496:=⟨_,rfl⟩
  have L:IntKind.i64.wrap ((f:Int)+4503599627370496)=(a:Int):=by simp only[IntKind.wrap_i64];omega
  have O:IntKind.i64.wrap (-(a:Int))= -(a:Int):=by simp only[IntKind.wrap_i64];omega
  have Q:IntKind.i64.wrap ((p:Int)-1)=(p:Int)-1:=by simp only[IntKind.wrap_i64];omega
  have U:IntKind.i64.wrap (-1074+((p:Int)-1))=(p:Int)-1075:=by simp only[IntKind.wrap_i64];omega
  rw[←A]
  clear d G F u z h A
  cases s
  ·go_enter Tryz.func205,Tryz.ntmps205
   go_wp2
   exact bodyPost_ret (v:=.tuple #[.int .i64 a,.int .i64 (p-1075)]) (by simp[results,Tryz.results205,go_sem]) rfl ⟨rfl,(Below.refl _ _).alloc (Nat.le_refl _) _⟩
  ·go_enter Tryz.func205,Tryz.ntmps205
   go_wp2
   exact bodyPost_ret (v:=.tuple #[.int .i64 (-a),.int .i64 (p-1075)]) (by simp[results,Tryz.results205,go_sem]) rfl ⟨rfl,(Below.refl _ _).alloc (Nat.le_refl _) _⟩
attribute [local go_sem ↓] Go.wp_at_zero Go.wp_at_succ
def mH(n m:Nat)(x y:Int):Int:=if n=0 then y else if m=0 then x else min x y
theorem JC{u z:Bool}{A B:List Nat}{x y:Int}(D:aw u A=true)(F:aw z B=true):mH A.length B.length x y=bP (af u A) x (af z B) y:=by
 unfold mH bP
 by_cases d:A.length=0
 ·rw[if_pos d,if_pos ((aS D).2 d)]
 ·rw[if_neg d,if_neg (fun e=>d ((aS D).1 e))]
  by_cases h:B.length=0
  ·rw[if_pos h,if_pos ((aS F).2 h)]
  ·rw[if_neg h,if_neg (fun e=>h ((aS F).1 e))]
theorem Gh(G H:Bool)(I J:Option Addr)(K L n m:Nat)(x y:Int)(w:World):
  Calls Tryz.prog 55 #[.agg #[.bool G,.slice I n K,.int .i64 x],.agg #[.bool H,.slice J m L,.int .i64 y]] w fun r O=>r=.returned (.int .i64 (mH n m x y))∧Below w.heap.size w O:=by
 have A:Below w.heap.size w ((w.alloc (.cells #[.bool G,.slice I n K,.int .i64 x] 35)).alloc (.cells #[.bool H,.slice J m L,.int .i64 y] 35)):=((Below.refl _ _).alloc (Nat.le_refl _) _).alloc (by simp) _
 have D:=ac A
 clear A
 by_cases u:n=0
 ·have d:mH n m x y=y:=by unfold mH;rw[if_pos u]
  rw[d]
  subst u
  clear d
  go_enter Tryz.func55,Tryz.ntmps55
  go_wp2
  go_ret
  exact⟨rfl,uH D⟩
 have Q:((n:Int)==0)=false:=by rw[beq_eq_false_iff_ne];omega
 by_cases F:m=0
 ·have d:mH n m x y=x:=by unfold mH;rw[if_neg u,if_pos F]
  rw[d]
  subst F
  clear d u
  go_enter Tryz.func55,Tryz.ntmps55
  go_wp2
  go_ret
  exact⟨rfl,uH D⟩
 have U:((m:Int)==0)=false:=by rw[beq_eq_false_iff_ne];omega
 have z:=ac (show mH n m x y=min x y by unfold mH;rw[if_neg u,if_neg F])
 generalize mH n m x y=l at*
 clear u F
 rcases(show x<y∨x=y∨y<x by omega)with h|h|h
 ·have d:l=x:=by rw[uH z];omega
  subst d
  clear z
  go_enter Tryz.func55,Tryz.ntmps55
  go_wp2
  go_ret
  exact⟨rfl,uH D⟩
 ·have d:l=x:=by rw[uH z];omega
  subst h
  subst d
  clear z
  go_enter Tryz.func55,Tryz.ntmps55
  go_wp2
  go_ret
  exact⟨rfl,uH D⟩
 ·have d:l=y:=by rw[uH z];omega
  subst d
  clear z
  go_enter Tryz.func55,Tryz.ntmps55
  go_wp2
  go_ret
  exact⟨rfl,uH D⟩
end Go.Proofs.YtcbcmlaogehimaaGreatDoor
