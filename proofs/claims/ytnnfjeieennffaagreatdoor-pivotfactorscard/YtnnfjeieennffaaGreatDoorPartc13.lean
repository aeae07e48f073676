/- Part 13 of the texts. -/
import Derived.Test.YtnnfjeieennffaaGreatDoorPartc12
set_option maxHeartbeats 2000000
namespace Go.Proofs.YtnnfjeieennffaaGreatDoor
open Go.RowKit
attribute [local go_sem ↓] Go.wp_at_zero Go.wp_at_succ
theorem uG(f l:Bool)(z D:Option Addr)(F G:Nat)(A B:List Nat)(x y:Int)(w:World)(hA:ag w z F A)(hB:ag w D G B)(L:j6 f A x=true)(M:j6 l B y=true)(hT:cC w):
  Calls Tryz.prog 214 #[.agg #[.bool f,.slice z A.length F,.int .i64 x],.agg #[.bool l,.slice D B.length G,.int .i64 y]] w fun r w'=>mu w' r (se (af f A) x (af l B) y) (sf (af f A) x (af l B) y) (si (af f A) x (af l B) y)∧Below w.heap.size w w':=by
 obtain⟨ra,la,Y,Z,zx⟩:=bR L
 obtain⟨rb,lb,ae,aj,zy⟩:=bR M
 have V:=aa (fun w' h U t=>iT f l z D F G A B x y w' h U (by omega) (by omega) t)
 have he:o4 f A x l B y=0:=by unfold o4;rw[L,M];rfl
 rw[he]at V
 have CA:=aa (fun w' h U t=>qB f l z D F G A B x y w' h U ra rb ⟨Y,Z⟩ ⟨ae,aj⟩ zx zy t)
 generalize se (af f A) x (af l B) y=er at*
 generalize sf (af f A) x (af l B) y=am at*
 generalize si (af f A) x (af l B) y=ax at*
 clear he L M zx zy ra rb
 have O:Below w.heap.size w (((w.alloc (.cells #[.bool f,.slice z A.length F,.int .i64 x] 52)).alloc (.cells #[.bool l,.slice D B.length G,.int .i64 y] 52)).alloc (.cells #[.bool false,.slice none 0 0,.int .i64 0] 52)):=
  (((Below.refl _ _).alloc (Nat.le_refl _) _).alloc (by simp) _).alloc (by simp;omega) _
 have H:aB (((w.alloc (.cells #[.bool f,.slice z A.length F,.int .i64 x] 52)).alloc (.cells #[.bool l,.slice D B.length G,.int .i64 y] 52)).alloc (.cells #[.bool false,.slice none 0 0,.int .i64 0] 52)) w.heap.size (.bool f) (.slice z A.length F) (.int .i64 x):=((aB.new _ _ _ _).old _).old _
 have K:aB (((w.alloc (.cells #[.bool f,.slice z A.length F,.int .i64 x] 52)).alloc (.cells #[.bool l,.slice D B.length G,.int .i64 y] 52)).alloc (.cells #[.bool false,.slice none 0 0,.int .i64 0] 52)) (w.heap.size+1) (.bool l) (.slice D B.length G) (.int .i64 y):=by
  have:=(aB.new (w.alloc (.cells #[.bool f,.slice z A.length F,.int .i64 x] 52)) (.bool l) (.slice D B.length G) (.int .i64 y)).old (.cells #[.bool false,.slice none 0 0,.int .i64 0] 52)
  simpa using this
 have m:aB (((w.alloc (.cells #[.bool f,.slice z A.length F,.int .i64 x] 52)).alloc (.cells #[.bool l,.slice D B.length G,.int .i64 y] 52)).alloc (.cells #[.bool false,.slice none 0 0,.int .i64 0] 52)) (w.heap.size+1+1) (.bool false) (.slice none 0 0) (.int .i64 0):=by
  have:=aB.new ((w.alloc (.cells #[.bool f,.slice z A.length F,.int .i64 x] 52)).alloc (.cells #[.bool l,.slice D B.length G,.int .i64 y] 52)) (.bool false) (.slice none 0 0) (.int .i64 0)
  simpa using this
 have N:=aa O;have X0:=aa H;have X1:=aa K;have X2:=aa m
 clear O H K m
 go_enter Tryz.func214,Tryz.ntmps214
 go_wp2_with fail
 refine(uH V _ (hA.below (uH N)) (hB.below (uH N)) (hT.all (uH N))).mono ?_
 rintro r w1 ⟨rfl,d⟩
 have H:=(uH X0).all d;have K:=(uH X1).all d;have m:=(uH X2).all d
 have b1:=(uH N).trans (d.mono (uH N).size)
 have p0:=H.c0;have p1:=H.c1;have p2:=H.c2
 have q0:=K.c0;have q1:=K.c1;have q2:=K.c2
 have aI:=aa H;have a0:=aa K;have X:=aa m;have Q:=aa b1
 clear d H K m b1 X0 X1 X2 N V
 go_wp2_with fail
 refine(uH CA _ (hA.below (uH Q)) (hB.below (uH Q)) (hT.all (uH Q))).mono ?_
 rintro r w4 ⟨⟨v,rfl,iv⟩,d⟩
 obtain⟨n3,a3,c3,L3,rfl,i3⟩:=iv.num
 have m:=(uH X).all d
 have b2:=(uH Q).trans (d.mono (uH Q).size)
 have y0:=m.c0;have y1:=m.c1;have y2:=m.c2;have f0:=m.free 0;have f1:=m.free 1;have f2:=m.free 2
 have X3:=aa m;have B2:=aa b2;have IV:=aa iv
 clear m b2 d iv i3
 go_wp2
 refine bodyPost_ret (v:=.tuple #[.agg #[.bool n3,.slice a3 L3.length c3,.int .i64 (ax)],.int .i64 (er)]) (by simp[results,Tryz.results214,go_sem,y0,y1,y2]) rfl ⟨⟨_,rfl,(uH IV).put3 (uH X3) _ _ _⟩,aD (uH B2) (by omega) _ _ _⟩
theorem uI(f l:Bool)(D F:Option Addr)(G H:Nat)(A B:List Nat)(x y:Int)(w:World)(hA:ag w D G A)(hB:ag w F H B)(O:j6 f A x=true)(Q:j6 l B y=true)(hz:(af f A*af l B).natAbs<dE)(hT:cC w):
  Calls Tryz.prog 216 #[.agg #[.bool f,.slice D A.length G,.int .i64 x],.agg #[.bool l,.slice F B.length H,.int .i64 y]] w fun r w'=>mu w' r (cR (af f A*af l B) (x+y)) (dM (af f A*af l B) (x+y)) (dX (af f A*af l B) (x+y))∧Below w.heap.size w w':=by
 obtain⟨ra,la,a0,a1,zx⟩:=bR O
 obtain⟨rb,lb,a2,a5,zy⟩:=bR Q
 have CC:=aa (fun w' h h' t=>iT f l D F G H A B x y w' h h' (by omega) (by omega) t)
 have he:o4 f A x l B y=0:=by unfold o4;rw[O,Q];rfl
 rw[he]at CC
 have CM:=aa (fun w' h h'=>DY f l D F G H A B w' h h' (by omega) (by omega))
 rw[ra,rb,Bool.and_self,gj,gn,fh _ hz,fi _ hz]at CM
 have CK:=aa (fun w' u B' (iu:au B' w' u (af f A*af l B)) t=>iU (x+y) iu hz (by omega) t)
 generalize cR (af f A*af l B) (x+y)=er at*
 generalize dM (af f A*af l B) (x+y)=am at*
 generalize dX (af f A*af l B) (x+y)=ax at*
 clear he O Q zx zy ra rb hz
 generalize af f A*af l B=z at*
 have ae:Below w.heap.size w (((w.alloc (.cells #[.bool f,.slice D A.length G,.int .i64 x] 52)).alloc (.cells #[.bool l,.slice F B.length H,.int .i64 y] 52)).alloc (.cells #[.bool false,.slice none 0 0,.int .i64 0] 52)):=
  (((Below.refl _ _).alloc (Nat.le_refl _) _).alloc (by simp) _).alloc (by simp;omega) _
 have K:aB (((w.alloc (.cells #[.bool f,.slice D A.length G,.int .i64 x] 52)).alloc (.cells #[.bool l,.slice F B.length H,.int .i64 y] 52)).alloc (.cells #[.bool false,.slice none 0 0,.int .i64 0] 52)) w.heap.size (.bool f) (.slice D A.length G) (.int .i64 x):=((aB.new _ _ _ _).old _).old _
 have L:aB (((w.alloc (.cells #[.bool f,.slice D A.length G,.int .i64 x] 52)).alloc (.cells #[.bool l,.slice F B.length H,.int .i64 y] 52)).alloc (.cells #[.bool false,.slice none 0 0,.int .i64 0] 52)) (w.heap.size+1) (.bool l) (.slice F B.length H) (.int .i64 y):=by
  have:=(aB.new (w.alloc (.cells #[.bool f,.slice D A.length G,.int .i64 x] 52)) (.bool l) (.slice F B.length H) (.int .i64 y)).old (.cells #[.bool false,.slice none 0 0,.int .i64 0] 52)
  simpa using this
 have m:aB (((w.alloc (.cells #[.bool f,.slice D A.length G,.int .i64 x] 52)).alloc (.cells #[.bool l,.slice F B.length H,.int .i64 y] 52)).alloc (.cells #[.bool false,.slice none 0 0,.int .i64 0] 52)) (w.heap.size+1+1) (.bool false) (.slice none 0 0) (.int .i64 0):=by
  have:=aB.new ((w.alloc (.cells #[.bool f,.slice D A.length G,.int .i64 x] 52)).alloc (.cells #[.bool l,.slice F B.length H,.int .i64 y] 52)) (.bool false) (.slice none 0 0) (.int .i64 0)
  simpa using this
 have Z:=aa ae;have X0:=aa K;have X1:=aa L;have X2:=aa m
 clear ae K L m
 go_enter Tryz.func216,Tryz.ntmps216
 go_wp2_with fail
 refine(uH CC _ (hA.below (uH Z)) (hB.below (uH Z)) (hT.all (uH Z))).mono ?_
 rintro r w1 ⟨rfl,d⟩
 have K:=(uH X0).all d;have L:=(uH X1).all d;have m:=(uH X2).all d
 have b1:=(uH Z).trans (d.mono (uH Z).size)
 have p0:=K.c0;have p1:=K.c1;have p2:=K.c2
 have q0:=L.c0;have q1:=L.c1;have q2:=L.c2
 have aj:=aa K;have aI:=aa L;have N:=aa m;have M:=aa b1
 clear d K L m b1 X0 X1 X2 Z CC
 go_wp2_with fail
 refine(uH CM _ (hA.below (uH M)) (hB.below (uH M))).mono ?_
 rintro r w5 ⟨u,rfl,⟨U,V,X,Y,rfl,i4⟩,d⟩
 have K:=((uH aj).all d).old (.cells #[.bool U,.slice V Y.length X] 50)
 have L:=((uH aI).all d).old (.cells #[.bool U,.slice V Y.length X] 50)
 have m:=((uH N).all d).old (.cells #[.bool U,.slice V Y.length X] 50)
 have b1:=((uH M).trans (d.mono (uH M).size)).alloc ((uH M).trans (d.mono (uH M).size)).size (.cells #[.bool U,.slice V Y.length X] 50)
 have iz:au 0 (w5.alloc (.cells #[.bool U,.slice V Y.length X] 50)) (.agg #[.bool U,.slice V Y.length X]) z:=au.mono (au.below ⟨U,V,X,Y,rfl,i4⟩ ((Below.refl _ _).alloc (Nat.le_refl _) _)) (Nat.zero_le _)
 clear aj aI N M d i4 CM p0 p1 p2 q0 q1 q2
 have p2:=K.c2;have q2:=L.c2
 have N:=aa m;have M:=aa b1;have IZ:=aa iz
 clear K L m b1 iz
 go_wp2_with fail
 refine(uH CK _ _ _ (uH IZ) (hT.all (uH M))).mono ?_
 rintro r w4 ⟨v,rfl,iv,d⟩
 obtain⟨n3,a3,c3,L3,rfl,i3⟩:=iv.num
 have m:=(uH N).all d
 have b2:=(uH M).trans (d.mono (uH M).size)
 have y0:=m.c0;have y1:=m.c1;have y2:=m.c2;have f0:=m.free 0;have f1:=m.free 1;have f2:=m.free 2
 have X3:=aa m;have B2:=aa b2;have IV:=aa iv
 clear m b2 d iv i3
 go_wp2
 refine bodyPost_ret (v:=.tuple #[.agg #[.bool n3,.slice a3 L3.length c3,.int .i64 (ax)],.int .i64 (er)]) (by simp[results,Tryz.results216,go_sem,y0,y1,y2]) rfl ⟨⟨_,rfl,(uH IV).put3 (uH X3) _ _ _⟩,aD (uH B2) (by omega) _ _ _⟩
theorem qC(f:Bool)(m:Option Addr)(z:Nat)(A:List Nat)(x n:Int)(w:World)(O:ag w m z A)(K:j6 f A x=true)(Q:-32768≤n∧n≤32768)(U:cC w):
  Calls Tryz.prog 157 #[.agg #[.bool f,.slice m A.length z,.int .i64 x],.int .i64 n] w fun r w'=>mu w' r (cR (af f A) (x+n)) (dM (af f A) (x+n)) (dX (af f A) (x+n))∧Below w.heap.size w w':=by
 obtain⟨ra,la,ae,aj,zx⟩:=bR K
 have L:=aa (fun w' h t=>ip f m z A x w' h (by omega) t)
 have V:nv f A x=0:=by unfold nv;rw[K];rfl
 rw[V]at L
 have X:=aa (fun w'=>dj n 32768 w' (by decide) (by decide))
 rw[decide_eq_true Q]at X
 have CK:=aa (fun w' h t=>iq f m z A (x+n) w' h ra (by omega) t)
 generalize cR (af f A) (x+n)=er at*
 generalize dM (af f A) (x+n)=am at*
 generalize dX (af f A) (x+n)=ax at*
 obtain⟨aI,a0⟩:=Q
 clear V K zx ra
 have F:Below w.heap.size w ((w.alloc (.cells #[.bool f,.slice m A.length z,.int .i64 x] 52)).alloc (.cells #[.bool false,.slice none 0 0,.int .i64 0] 52)):=((Below.refl _ _).alloc (Nat.le_refl _) _).alloc (by simp) _
 have D:aB ((w.alloc (.cells #[.bool f,.slice m A.length z,.int .i64 x] 52)).alloc (.cells #[.bool false,.slice none 0 0,.int .i64 0] 52)) w.heap.size (.bool f) (.slice m A.length z) (.int .i64 x):=(aB.new _ _ _ _).old _
 have l:aB ((w.alloc (.cells #[.bool f,.slice m A.length z,.int .i64 x] 52)).alloc (.cells #[.bool false,.slice none 0 0,.int .i64 0] 52)) (w.heap.size+1) (.bool false) (.slice none 0 0) (.int .i64 0):=by
  have:=aB.new (w.alloc (.cells #[.bool f,.slice m A.length z,.int .i64 x] 52)) (.bool false) (.slice none 0 0) (.int .i64 0)
  simpa using this
 have G:=aa F;have Y:=aa D;have Z:=aa l
 clear F D l
 go_enter Tryz.func157,Tryz.ntmps157
 go_wp2_with fail
 refine(uH L _ (O.below (uH G)) (U.all (uH G))).mono ?_
 rintro r w1 ⟨rfl,d⟩
 have D:=(uH Y).all d;have l:=(uH Z).all d
 have b1:=(uH G).trans (d.mono (uH G).size)
 have p0:=D.c0;have p1:=D.c1;have p2:=D.c2
 have M:=aa l;have H:=aa b1
 clear d D l b1 Y Z G L
 go_wp2_with fail
 refine(uH X _).mono ?_
 rintro r w2 ⟨rfl,rfl⟩
 go_wp2_with fail
 refine(uH CK _ (O.below (uH H)) (U.all (uH H))).mono ?_
 rintro r w4 ⟨v,rfl,N,d⟩
 obtain⟨n3,a3,c3,L3,rfl,i3⟩:=N.num
 have l:=(uH M).all d
 have b2:=(uH H).trans (d.mono (uH H).size)
 have y0:=l.c0;have y1:=l.c1;have y2:=l.c2;have f0:=l.free 0;have f1:=l.free 1;have f2:=l.free 2
 have X3:=aa l;have B2:=aa b2;have IV:=aa N
 clear l b2 d N i3
 go_wp2
 refine bodyPost_ret (v:=.tuple #[.agg #[.bool n3,.slice a3 L3.length c3,.int .i64 (ax)],.int .i64 (er)]) (by simp[results,Tryz.results157,go_sem,y0,y1,y2]) rfl ⟨⟨_,rfl,(uH IV).put3 (uH X3) _ _ _⟩,aD (uH B2) (by omega) _ _ _⟩
theorem uJ(L:List Nat)(f:bd L)(k:Nat)(h:L.length≤k):ak L<2^(32*k):=by
 have d:=eh L f
 rw[show(4294967296:Nat)=2^32 by decide,←Nat.pow_mul]at d
 exact Nat.lt_of_lt_of_le d (Nat.pow_le_pow_right (by decide) (by omega))
theorem uK:dE=2^(32*kX):=by
 unfold dE
 rw[show(4294967296:Nat)=2^32 by decide,←Nat.pow_mul]
theorem qD{v k:Nat}(h:v<2^k)(d:k≤16384):v<dE:=by
 rw[uK]
 exact Nat.lt_of_lt_of_le h (Nat.pow_le_pow_right (by decide) d)
end Go.Proofs.YtnnfjeieennffaaGreatDoor
namespace Go.Proofs.YtnnfjeieennffaaGreatDoor
open Go.RowKit
theorem sl:∀(t:Nat),0<t→t<4294967296→1≤Lib.bitLen t∧2^(Lib.bitLen t-1)≤t∧t<2^Lib.bitLen t:=by
 intro t
 induction t using Nat.strongRecOn with
 |ind t ih=>
  intro h l
  have d:=l9 t h l
  by_cases f:t=1
  ·subst f;decide
  ·obtain⟨m,z,A⟩:=ih (t/2) (by omega) (by omega) (by omega)
   rw[d]
   refine⟨by omega,?_,?_⟩
   ·rw[show 1+Lib.bitLen (t/2)-1=(Lib.bitLen (t/2)-1)+1 by omega,Nat.pow_succ]
    omega
   ·rw[show 1+Lib.bitLen (t/2)=Lib.bitLen (t/2)+1 by omega,Nat.pow_succ]
    omega
def jE(L:List Nat):Nat:=if L.length=0 then 0 else 32*(L.length-1)+Lib.bitLen (L[L.length-1]?.getD 0)
theorem gZ(L:List Nat):dH L=(jE L:Int):=by
 unfold dH jE
 by_cases h:L.length=0
 ·rw[if_pos h,if_pos h];rfl
 ·rw[if_neg h,if_neg h];omega
theorem g6(L:List Nat)(l:bd L)(z:bN L)(m:L≠ []):1≤jE L∧2^(jE L-1)≤ak L∧ak L<2^jE L:=by
 have G:0<L.length:=List.length_pos_iff.2 m
 have H:L[L.length-1]?.getD 0≠0:=by
  rcases z with h|h
  ·exact absurd h m
  ·exact h
 have f:L[L.length-1]?.getD 0<4294967296:=by
  rw[List.getElem?_eq_getElem (by omega)]
  exact l _ (List.getElem_mem _)
 obtain⟨K,D,F⟩:=sl (L[L.length-1]?.getD 0) (by omega) f
 have d:=aH L (L.length-1)
 rw[show L.length-1+1=L.length by omega,List.take_length]at d
 have A:=gH L l (L.length-1)
 rw[show(4294967296:Nat)=2^32 by decide,←Nat.pow_mul]at A d
 unfold jE
 rw[if_neg (by omega)]
 generalize L[L.length-1]?.getD 0=t at*
 generalize Lib.bitLen t=b at*
 generalize ak (L.take (L.length-1))=r at*
 generalize M:32*(L.length-1)=k at*
 refine⟨by omega,?_,?_⟩
 ·rw[show k+b-1=k+(b-1) by omega,Nat.pow_add,d]
  have:2^k*2^(b-1)≤2^k*t:=Nat.mul_le_mul_left _ D
  omega
 ·rw[Nat.pow_add,d]
  have:2^k*(t+1)≤2^k*2^b:=Nat.mul_le_mul_left _ F
  rw[Nat.mul_add]at this
  omega
theorem wy(v n d k:Nat)(z:1≤n)(l:2^(n-1)≤v)(m:v<2^n):v*2^d<2^k↔n+d≤k:=by
 constructor
 ·intro h
  apply Nat.le_of_not_lt
  intro t
  have f:2^(n-1)*2^d≤v*2^d:=Nat.mul_le_mul_right _ l
  rw[←Nat.pow_add]at f
  have A:2^k≤2^(n-1+d):=Nat.pow_le_pow_right (by decide) (by omega)
  omega
 ·intro h
  have f:v*2^d<2^n*2^d:=Nat.mul_lt_mul_of_pos_right m (Nat.pow_pos (by decide))
  rw[←Nat.pow_add]at f
  exact Nat.lt_of_lt_of_le f (Nat.pow_le_pow_right (by decide) h)
theorem xJ(n:Bool)(L:List Nat)(x l:Int):(up (af n L) x l).natAbs=ak L*2^(x-l).toNat:=by
 unfold up
 rw[Int.natAbs_mul,aP,Int.natAbs_pow]
 rfl
theorem wz(n:Bool)(L:List Nat)(x l:Int)(f:bd L)(m:ar n L=true)(t:L≠ [])(F:l≤x):eM (af n L) x l=0↔(x-l≤16384∧dH L+x-l≤16384):=by
 obtain⟨z,A,D⟩:=g6 L f (ay m).2.1 t
 have d:=wy (ak L) (jE L) (x-l).toNat (32*kX) z A D
 rw[←uK,←xJ n L x l]at d
 have G:32*kX=16384:=rfl
 rw[gZ]
 constructor
 ·intro h
  have:=d.1 (kr h)
  omega
 ·intro h
  exact ir _ _ _ (d.2 (by omega)) h.1
def fA(b:Nat):Nat:=if fP b=0 then fF b else fF b+4503599627370496
def fM(b:Nat):Int:=sg (fS b) (fA b)
def fE(b:Nat):Int:=if fP b=0 then-1074 else(fP b:Int)-1075
theorem F8(b:Nat):fA b<9007199254740992:=by unfold fA;have:=rO b;split<;>omega
theorem sn(b:Nat):(fM b).natAbs<9007199254740992:=by
 have:=F8 b
 unfold fM sg
 split<;>omega
theorem Ac(b:Nat):-1074≤fE b∧fE b≤972:=by
 have:=mY b
 unfold fE
 split<;>omega
theorem xK(b:Nat)(w:World):
  Calls Tryz.prog 179 #[fV b] w fun e w'=>e=.returned (.tuple #[.int .i64 (fM b),.int .i64 (fE b)])∧Below w.heap.size w w':=by
 unfold fV fM fE fA
 have z:=mY b
 have A:=rO b
 generalize fF b=f at*
 generalize fP b=p at*
 generalize fS b=s at*
 have h:(0:Int)≤f:=by omega
 have l:(f:Int)<4503599627370496:=by omega
 have m:(p:Int)<2048:=by omega
 by_cases d:p=0
 ·subst d
  rw[if_pos rfl,if_pos rfl]
  cases s
  ·go_enter Tryz.func179,Tryz.ntmps179
   go_wp2
   exact bodyPost_ret (v:=.tuple #[.int .i64 f,.int .i64 (-1074)]) (by simp[results,Tryz.results179,go_sem]) rfl ⟨rfl,(Below.refl _ _).alloc (Nat.le_refl _) _⟩
  ·go_enter Tryz.func179,Tryz.ntmps179
   go_wp2
   exact bodyPost_ret (v:=.tuple #[.int .i64 (-f),.int .i64 (-1074)]) (by simp[results,Tryz.results179,go_sem]) rfl ⟨rfl,(Below.refl _ _).alloc (Nat.le_refl _) _⟩
 ·rw[if_neg d,if_neg d]
  have D:0<p:=by omega
  have F:decide (0<p)=true:=decide_eq_true D
  have G:IntKind.i64.wrap (f:Int)=(f:Int):=by simp only[IntKind.wrap_i64];omega
  have H:IntKind.i64.wrap (p:Int)=(p:Int):=by simp only[IntKind.wrap_i64];omega
  obtain⟨a,t⟩:∃a:Nat,a=f+4503599627370496:=⟨_,rfl⟩
  have K:IntKind.i64.wrap ((f:Int)+4503599627370496)=(a:Int):=by simp only[IntKind.wrap_i64];omega
  have L:IntKind.i64.wrap (-(a:Int))= -(a:Int):=by simp only[IntKind.wrap_i64];omega
  have M:IntKind.i64.wrap ((p:Int)-1)=(p:Int)-1:=by simp only[IntKind.wrap_i64];omega
  have N:IntKind.i64.wrap (-1074+((p:Int)-1))=(p:Int)-1075:=by simp only[IntKind.wrap_i64];omega
  rw[←t]
  clear d A z l m h t
  cases s
  ·go_enter Tryz.func179,Tryz.ntmps179
   go_wp2
   exact bodyPost_ret (v:=.tuple #[.int .i64 a,.int .i64 (p-1075)]) (by simp[results,Tryz.results179,go_sem]) rfl ⟨rfl,(Below.refl _ _).alloc (Nat.le_refl _) _⟩
  ·go_enter Tryz.func179,Tryz.ntmps179
   go_wp2
   exact bodyPost_ret (v:=.tuple #[.int .i64 (-a),.int .i64 (p-1075)]) (by simp[results,Tryz.results179,go_sem]) rfl ⟨rfl,(Below.refl _ _).alloc (Nat.le_refl _) _⟩
end Go.Proofs.YtnnfjeieennffaaGreatDoor
