/- Part 16 of the texts. -/
import Derived.Test.YtmpkkhackbpflaaGreatDoorPartg15
set_option maxHeartbeats 2000000
namespace Go.Proofs.YtmpkkhackbpflaaGreatDoor
open Go.RowKit
attribute [local go_sem ↓] Go.wp_at_zero Go.wp_at_succ
theorem ee{neg:Bool}{L:List Nat}{e:Int}(h:oh neg L e=true):aE neg L=true∧L.length≤512∧-16384≤e∧e≤16384∧(L.length=0→e=0):=by
 unfold oh at h
 rw[Bool.and_eq_true]at h
 obtain⟨t,d⟩:=h
 refine⟨t,(aN t).1,?_⟩
 by_cases l:L.length=0
 ·rw[if_pos l]at d
  have:=of_decide_eq_true d
  omega
 ·rw[if_neg l,Bool.and_eq_true]at d
  have:=of_decide_eq_true d.2
  omega
theorem xj(l z:Bool)(F G:Option Addr)(H I:Nat)(A B:List Nat)(x y:Int)(w:World)(hA:af w F H A)(hB:af w G I B)(M:oh l A x=true)(N:oh z B y=true)(hT:c8 w):
  Calls Tryz.prog 252 #[.agg #[.bool l,.slice F A.length H,.int .i64 x],.agg #[.bool z,.slice G B.length I,.int .i64 y]] w fun r O=>ow O r (uF (aj l A) x (aj z B) y) (uG (aj l A) x (aj z B) y) (uI (aj l A) x (aj z B) y)∧Below w.heap.size w O:=by
 obtain⟨ra,la,Z,aa,zx⟩:=ee M
 obtain⟨rb,lb,ad,ae,zy⟩:=ee N
 have X:=ac (fun O h V t=>jN l z F G H I A B x y O h V (by omega) (by omega) t)
 have he:qP l A x z B y=0:=by unfold qP;rw[M,N];rfl
 rw[he]at X
 have CA:=ac (fun O h V t=>sN l z F G H I A B x y O h V ra rb ⟨Z,aa⟩ ⟨ad,ae⟩ zx zy t)
 generalize uF (aj l A) x (aj z B) y=er at*
 generalize uG (aj l A) x (aj z B) y=am at*
 generalize uI (aj l A) x (aj z B) y=ax at*
 clear he M N zx zy ra rb
 have T:Below w.heap.size w (((w.alloc (.cells #[.bool l,.slice F A.length H,.int .i64 x] 57)).alloc (.cells #[.bool z,.slice G B.length I,.int .i64 y] 57)).alloc (.cells #[.bool false,.slice none 0 0,.int .i64 0] 57)):=
  (((Below.refl _ _).alloc (Nat.le_refl _) _).alloc (by simp) _).alloc (by simp;omega) _
 have J:a8 (((w.alloc (.cells #[.bool l,.slice F A.length H,.int .i64 x] 57)).alloc (.cells #[.bool z,.slice G B.length I,.int .i64 y] 57)).alloc (.cells #[.bool false,.slice none 0 0,.int .i64 0] 57)) w.heap.size (.bool l) (.slice F A.length H) (.int .i64 x):=((a8.new _ _ _ _).old _).old _
 have L:a8 (((w.alloc (.cells #[.bool l,.slice F A.length H,.int .i64 x] 57)).alloc (.cells #[.bool z,.slice G B.length I,.int .i64 y] 57)).alloc (.cells #[.bool false,.slice none 0 0,.int .i64 0] 57)) (w.heap.size+1) (.bool z) (.slice G B.length I) (.int .i64 y):=by
  have:=(a8.new (w.alloc (.cells #[.bool l,.slice F A.length H,.int .i64 x] 57)) (.bool z) (.slice G B.length I) (.int .i64 y)).old (.cells #[.bool false,.slice none 0 0,.int .i64 0] 57)
  simpa using this
 have D:a8 (((w.alloc (.cells #[.bool l,.slice F A.length H,.int .i64 x] 57)).alloc (.cells #[.bool z,.slice G B.length I,.int .i64 y] 57)).alloc (.cells #[.bool false,.slice none 0 0,.int .i64 0] 57)) (w.heap.size+1+1) (.bool false) (.slice none 0 0) (.int .i64 0):=by
  have:=a8.new ((w.alloc (.cells #[.bool l,.slice F A.length H,.int .i64 x] 57)).alloc (.cells #[.bool z,.slice G B.length I,.int .i64 y] 57)) (.bool false) (.slice none 0 0) (.int .i64 0)
  simpa using this
 have Q:=ac T;have X0:=ac J;have X1:=ac L;have X2:=ac D
 clear T J L D
 go_enter Tryz.func252,Tryz.ntmps252
 go_wp2_with fail
 refine(uH X _ (hA.below (uH Q)) (hB.below (uH Q)) (hT.all (uH Q))).mono ?_
 rintro r w1 ⟨rfl,d⟩
 have J:=(uH X0).all d;have L:=(uH X1).all d;have D:=(uH X2).all d
 have b1:=(uH Q).trans (d.mono (uH Q).size)
 have p0:=J.c0;have p1:=J.c1;have p2:=J.c2
 have q0:=L.c0;have q1:=L.c1;have q2:=L.c2
 have ai:=ac J;have ap:=ac L;have Y:=ac D;have U:=ac b1
 clear d J L D b1 X0 X1 X2 Q X
 go_wp2_with fail
 refine(uH CA _ (hA.below (uH U)) (hB.below (uH U)) (hT.all (uH U))).mono ?_
 rintro r w4 ⟨⟨v,rfl,iv⟩,d⟩
 obtain⟨n3,a3,c3,L3,rfl,i3⟩:=iv.num
 have D:=(uH Y).all d
 have b2:=(uH U).trans (d.mono (uH U).size)
 have y0:=D.c0;have y1:=D.c1;have y2:=D.c2;have f0:=D.free 0;have f1:=D.free 1;have f2:=D.free 2
 have X3:=ac D;have B2:=ac b2;have IV:=ac iv
 clear D b2 d iv i3
 go_wp2
 refine bodyPost_ret (v:=.tuple #[.agg #[.bool n3,.slice a3 L3.length c3,.int .i64 (ax)],.int .i64 (er)]) (by simp[results,Tryz.results252,go_sem,y0,y1,y2]) rfl ⟨⟨_,rfl,(uH IV).put3 (uH X3) _ _ _⟩,bC (uH B2) (by omega) _ _ _⟩
theorem xk(l D:Bool)(G H:Option Addr)(I J:Nat)(A B:List Nat)(x y:Int)(w:World)(hA:af w G I A)(hB:af w H J B)(T:oh l A x=true)(U:oh D B y=true)(hz:(aj l A*aj D B).natAbs<eN)(hT:c8 w):
  Calls Tryz.prog 241 #[.agg #[.bool l,.slice G A.length I,.int .i64 x],.agg #[.bool D,.slice H B.length J,.int .i64 y]] w fun r Q=>ow Q r (dz (aj l A*aj D B) (x+y)) (dM (aj l A*aj D B) (x+y)) (dX (aj l A*aj D B) (x+y))∧Below w.heap.size w Q:=by
 obtain⟨ra,la,ai,ap,zx⟩:=ee T
 obtain⟨rb,lb,aq,ay,zy⟩:=ee U
 have CC:=ac (fun Q h h' t=>jN l D G H I J A B x y Q h h' (by omega) (by omega) t)
 have he:qP l A x D B y=0:=by unfold qP;rw[T,U];rfl
 rw[he]at CC
 have CM:=ac (fun Q h h'=>FX l D G H I J A B Q h h' (by omega) (by omega))
 rw[ra,rb,Bool.and_self,ia,ib,gE _ hz,gF _ hz]at CM
 have CK:=ac (fun Q u B' (iu:ar B' Q u (aj l A*aj D B)) t=>jO (x+y) iu hz (by omega) t)
 generalize dz (aj l A*aj D B) (x+y)=er at*
 generalize dM (aj l A*aj D B) (x+y)=am at*
 generalize dX (aj l A*aj D B) (x+y)=ax at*
 clear he T U zx zy ra rb hz
 generalize aj l A*aj D B=z at*
 have aa:Below w.heap.size w (((w.alloc (.cells #[.bool l,.slice G A.length I,.int .i64 x] 57)).alloc (.cells #[.bool D,.slice H B.length J,.int .i64 y] 57)).alloc (.cells #[.bool false,.slice none 0 0,.int .i64 0] 57)):=
  (((Below.refl _ _).alloc (Nat.le_refl _) _).alloc (by simp) _).alloc (by simp;omega) _
 have L:a8 (((w.alloc (.cells #[.bool l,.slice G A.length I,.int .i64 x] 57)).alloc (.cells #[.bool D,.slice H B.length J,.int .i64 y] 57)).alloc (.cells #[.bool false,.slice none 0 0,.int .i64 0] 57)) w.heap.size (.bool l) (.slice G A.length I) (.int .i64 x):=((a8.new _ _ _ _).old _).old _
 have M:a8 (((w.alloc (.cells #[.bool l,.slice G A.length I,.int .i64 x] 57)).alloc (.cells #[.bool D,.slice H B.length J,.int .i64 y] 57)).alloc (.cells #[.bool false,.slice none 0 0,.int .i64 0] 57)) (w.heap.size+1) (.bool D) (.slice H B.length J) (.int .i64 y):=by
  have:=(a8.new (w.alloc (.cells #[.bool l,.slice G A.length I,.int .i64 x] 57)) (.bool D) (.slice H B.length J) (.int .i64 y)).old (.cells #[.bool false,.slice none 0 0,.int .i64 0] 57)
  simpa using this
 have F:a8 (((w.alloc (.cells #[.bool l,.slice G A.length I,.int .i64 x] 57)).alloc (.cells #[.bool D,.slice H B.length J,.int .i64 y] 57)).alloc (.cells #[.bool false,.slice none 0 0,.int .i64 0] 57)) (w.heap.size+1+1) (.bool false) (.slice none 0 0) (.int .i64 0):=by
  have:=a8.new ((w.alloc (.cells #[.bool l,.slice G A.length I,.int .i64 x] 57)).alloc (.cells #[.bool D,.slice H B.length J,.int .i64 y] 57)) (.bool false) (.slice none 0 0) (.int .i64 0)
  simpa using this
 have B0:=ac aa;have X0:=ac L;have X1:=ac M;have X2:=ac F
 clear aa L M F
 go_enter Tryz.func241,Tryz.ntmps241
 go_wp2_with fail
 refine(uH CC _ (hA.below (uH B0)) (hB.below (uH B0)) (hT.all (uH B0))).mono ?_
 rintro r w1 ⟨rfl,d⟩
 have L:=(uH X0).all d;have M:=(uH X1).all d;have F:=(uH X2).all d
 have b1:=(uH B0).trans (d.mono (uH B0).size)
 have p0:=L.c0;have p1:=L.c1;have p2:=L.c2
 have q0:=M.c0;have q1:=M.c1;have q2:=M.c2
 have ad:=ac L;have ae:=ac M;have O:=ac F;have N:=ac b1
 clear d L M F b1 X0 X1 X2 B0 CC
 go_wp2_with fail
 refine(uH CM _ (hA.below (uH N)) (hB.below (uH N))).mono ?_
 rintro r w5 ⟨u,rfl,⟨V,X,Y,Z,rfl,i4⟩,d⟩
 have L:=((uH ad).all d).old (.cells #[.bool V,.slice X Z.length Y] 55)
 have M:=((uH ae).all d).old (.cells #[.bool V,.slice X Z.length Y] 55)
 have F:=((uH O).all d).old (.cells #[.bool V,.slice X Z.length Y] 55)
 have b1:=((uH N).trans (d.mono (uH N).size)).alloc ((uH N).trans (d.mono (uH N).size)).size (.cells #[.bool V,.slice X Z.length Y] 55)
 have iz:ar 0 (w5.alloc (.cells #[.bool V,.slice X Z.length Y] 55)) (.agg #[.bool V,.slice X Z.length Y]) z:=ar.mono (ar.below ⟨V,X,Y,Z,rfl,i4⟩ ((Below.refl _ _).alloc (Nat.le_refl _) _)) (Nat.zero_le _)
 clear ad ae O N d i4 CM p0 p1 p2 q0 q1 q2
 have p2:=L.c2;have q2:=M.c2
 have O:=ac F;have N:=ac b1;have IZ:=ac iz
 clear L M F b1 iz
 go_wp2_with fail
 refine(uH CK _ _ _ (uH IZ) (hT.all (uH N))).mono ?_
 rintro r w4 ⟨v,rfl,iv,d⟩
 obtain⟨n3,a3,c3,L3,rfl,i3⟩:=iv.num
 have F:=(uH O).all d
 have b2:=(uH N).trans (d.mono (uH N).size)
 have y0:=F.c0;have y1:=F.c1;have y2:=F.c2;have f0:=F.free 0;have f1:=F.free 1;have f2:=F.free 2
 have X3:=ac F;have B2:=ac b2;have IV:=ac iv
 clear F b2 d iv i3
 go_wp2
 refine bodyPost_ret (v:=.tuple #[.agg #[.bool n3,.slice a3 L3.length c3,.int .i64 (ax)],.int .i64 (er)]) (by simp[results,Tryz.results241,go_sem,y0,y1,y2]) rfl ⟨⟨_,rfl,(uH IV).put3 (uH X3) _ _ _⟩,bC (uH B2) (by omega) _ _ _⟩
theorem sO(l:Bool)(D:Option Addr)(F:Nat)(A:List Nat)(x n:Int)(w:World)(T:af w D F A)(M:oh l A x=true)(U:-32768≤n∧n≤32768)(V:c8 w):
  Calls Tryz.prog 194 #[.agg #[.bool l,.slice D A.length F,.int .i64 x],.int .i64 n] w fun r G=>ow G r (dz (aj l A) (x+n)) (dM (aj l A) (x+n)) (dX (aj l A) (x+n))∧Below w.heap.size w G:=by
 obtain⟨ra,la,aa,ad,zx⟩:=ee M
 have N:=ac (fun G h t=>jn l D F A x G h (by omega) t)
 have X:pi l A x=0:=by unfold pi;rw[M];rfl
 rw[X]at N
 have Y:=ac (fun G=>d7 n 32768 G (by decide) (by decide))
 rw[decide_eq_true U]at Y
 have CK:=ac (fun G h t=>jo l D F A (x+n) G h ra (by omega) t)
 generalize dz (aj l A) (x+n)=er at*
 generalize dM (aj l A) (x+n)=am at*
 generalize dX (aj l A) (x+n)=ax at*
 obtain⟨ae,ai⟩:=U
 clear X M zx ra
 have I:Below w.heap.size w ((w.alloc (.cells #[.bool l,.slice D A.length F,.int .i64 x] 57)).alloc (.cells #[.bool false,.slice none 0 0,.int .i64 0] 57)):=((Below.refl _ _).alloc (Nat.le_refl _) _).alloc (by simp) _
 have H:a8 ((w.alloc (.cells #[.bool l,.slice D A.length F,.int .i64 x] 57)).alloc (.cells #[.bool false,.slice none 0 0,.int .i64 0] 57)) w.heap.size (.bool l) (.slice D A.length F) (.int .i64 x):=(a8.new _ _ _ _).old _
 have z:a8 ((w.alloc (.cells #[.bool l,.slice D A.length F,.int .i64 x] 57)).alloc (.cells #[.bool false,.slice none 0 0,.int .i64 0] 57)) (w.heap.size+1) (.bool false) (.slice none 0 0) (.int .i64 0):=by
  have:=a8.new (w.alloc (.cells #[.bool l,.slice D A.length F,.int .i64 x] 57)) (.bool false) (.slice none 0 0) (.int .i64 0)
  simpa using this
 have J:=ac I;have Z:=ac H;have X2:=ac z
 clear I H z
 go_enter Tryz.func194,Tryz.ntmps194
 go_wp2_with fail
 refine(uH N _ (T.below (uH J)) (V.all (uH J))).mono ?_
 rintro r w1 ⟨rfl,d⟩
 have H:=(uH Z).all d;have z:=(uH X2).all d
 have b1:=(uH J).trans (d.mono (uH J).size)
 have p0:=H.c0;have p1:=H.c1;have p2:=H.c2
 have O:=ac z;have L:=ac b1
 clear d H z b1 Z X2 J N
 go_wp2_with fail
 refine(uH Y _).mono ?_
 rintro r w2 ⟨rfl,rfl⟩
 go_wp2_with fail
 refine(uH CK _ (T.below (uH L)) (V.all (uH L))).mono ?_
 rintro r w4 ⟨v,rfl,Q,d⟩
 obtain⟨n3,a3,c3,L3,rfl,i3⟩:=Q.num
 have z:=(uH O).all d
 have b2:=(uH L).trans (d.mono (uH L).size)
 have y0:=z.c0;have y1:=z.c1;have y2:=z.c2;have f0:=z.free 0;have f1:=z.free 1;have f2:=z.free 2
 have X3:=ac z;have B2:=ac b2;have IV:=ac Q
 clear z b2 d Q i3
 go_wp2
 refine bodyPost_ret (v:=.tuple #[.agg #[.bool n3,.slice a3 L3.length c3,.int .i64 (ax)],.int .i64 (er)]) (by simp[results,Tryz.results194,go_sem,y0,y1,y2]) rfl ⟨⟨_,rfl,(uH IV).put3 (uH X3) _ _ _⟩,bC (uH B2) (by omega) _ _ _⟩
theorem xl(L:List Nat)(l:bM L)(k:Nat)(h:L.length≤k):val L<2^(32*k):=by
 have d:=eW L l
 rw[show(4294967296:Nat)=2^32 by decide,←Nat.pow_mul]at d
 exact Nat.lt_of_lt_of_le d (Nat.pow_le_pow_right (by decide) (by omega))
theorem JP:eN=2^(32*sA):=by
 unfold eN
 rw[show(4294967296:Nat)=2^32 by decide,←Nat.pow_mul]
theorem pq{v k:Nat}(h:v<2^k)(d:k≤16384):v<eN:=by
 rw[JP]
 exact Nat.lt_of_lt_of_le h (Nat.pow_le_pow_right (by decide) d)
end Go.Proofs.YtmpkkhackbpflaaGreatDoor
namespace Go.Proofs.YtmpkkhackbpflaaGreatDoor
open Go.RowKit
theorem uK:∀(t:Nat),0<t→t<4294967296→1≤Lib.bitLen t∧2^(Lib.bitLen t-1)≤t∧t<2^Lib.bitLen t:=by
 intro t
 induction t using Nat.strongRecOn with
 |ind t ih=>
  intro l z
  have d:=og t l z
  by_cases h:t=1
  ·subst h;decide
  ·obtain⟨D,F,G⟩:=ih (t/2) (by omega) (by omega) (by omega)
   rw[d]
   refine⟨by omega,?_,?_⟩
   ·rw[show 1+Lib.bitLen (t/2)-1=(Lib.bitLen (t/2)-1)+1 by omega,Nat.pow_succ]
    omega
   ·rw[show 1+Lib.bitLen (t/2)=Lib.bitLen (t/2)+1 by omega,Nat.pow_succ]
    omega
def rJ(L:List Nat):Nat:=if L.length=0 then 0 else 32*(L.length-1)+Lib.bitLen (L[L.length-1]?.getD 0)
theorem AJ(L:List Nat):iq L=(rJ L:Int):=by
 unfold iq rJ
 by_cases h:L.length=0
 ·rw[if_pos h,if_pos h];rfl
 ·rw[if_neg h,if_neg h];omega
theorem AK(L:List Nat)(z:bM L)(F:bZ L)(D:L≠ []):1≤rJ L∧2^(rJ L-1)≤val L∧val L<2^rJ L:=by
 have J:0<L.length:=List.length_pos_iff.2 D
 have M:L[L.length-1]?.getD 0≠0:=by
  rcases F with h|h
  ·exact absurd h D
  ·exact h
 have l:L[L.length-1]?.getD 0<4294967296:=by
  rw[List.getElem?_eq_getElem (by omega)]
  exact z _ (List.getElem_mem _)
 obtain⟨N,H,I⟩:=uK (L[L.length-1]?.getD 0) (by omega) l
 have d:=aR L (L.length-1)
 rw[show L.length-1+1=L.length by omega,List.take_length]at d
 have G:=iy L z (L.length-1)
 rw[show(4294967296:Nat)=2^32 by decide,←Nat.pow_mul]at G d
 unfold rJ
 rw[if_neg (by omega)]
 generalize L[L.length-1]?.getD 0=t at*
 generalize Lib.bitLen t=b at*
 generalize val (L.take (L.length-1))=r at*
 generalize O:32*(L.length-1)=k at*
 refine⟨by omega,?_,?_⟩
 ·rw[show k+b-1=k+(b-1) by omega,Nat.pow_add,d]
  have:2^k*2^(b-1)≤2^k*t:=Nat.mul_le_mul_left _ H
  omega
 ·rw[Nat.pow_add,d]
  have:2^k*(t+1)≤2^k*2^b:=Nat.mul_le_mul_left _ I
  rw[Nat.mul_add]at this
  omega
end Go.Proofs.YtmpkkhackbpflaaGreatDoor
