/- Part 13 of the texts. -/
import Derived.Test.YtenpggicmfhhdaaGreatDoorParte12
set_option maxHeartbeats 2000000
namespace Go.Proofs.YtenpggicmfhhdaaGreatDoor
open Go.RowKit
attribute [local go_sem ↓] Go.wp_at_zero Go.wp_at_succ
theorem sI(f l:Bool)(z D:Option Addr)(F G:Nat)(A B:List Nat)(x y:Int)(w:World)(hA:af w z F A)(hB:af w D G B)(K:jF f A x=true)(L:jF l B y=true)(hT:cd w):
  Calls Tryz.prog 160 #[.agg #[.bool f,.slice z A.length F,.int .i64 x],.agg #[.bool l,.slice D B.length G,.int .i64 y]] w fun r M=>k9 M r (qG (ad f A) x (ad l B) y) (qH (ad f A) x (ad l B) y) (qI (ad f A) x (ad l B) y)∧Below w.heap.size w M:=by
 obtain⟨ra,la,X,Y,zx⟩:=bQ K
 obtain⟨rb,lb,Z,ae,zy⟩:=bQ L
 have U:=aa (fun M h T t=>ir f l z D F G A B x y M h T (by omega) (by omega) t)
 have he:nN f A x l B y=0:=by unfold nN;rw[K,L];rfl
 rw[he]at U
 have CA:=aa (fun M h T t=>pr f l z D F G A B x y M h T ra rb ⟨X,Y⟩ ⟨Z,ae⟩ zx zy t)
 generalize qG (ad f A) x (ad l B) y=er at*
 generalize qH (ad f A) x (ad l B) y=am at*
 generalize qI (ad f A) x (ad l B) y=ax at*
 clear he K L zx zy ra rb
 have O:Below w.heap.size w (((w.alloc (.cells #[.bool f,.slice z A.length F,.int .i64 x] 110)).alloc (.cells #[.bool l,.slice D B.length G,.int .i64 y] 110)).alloc (.cells #[.bool false,.slice none 0 0,.int .i64 0] 110)):=
  (((Below.refl _ _).alloc (Nat.le_refl _) _).alloc (by simp) _).alloc (by simp;omega) _
 have H:aB (((w.alloc (.cells #[.bool f,.slice z A.length F,.int .i64 x] 110)).alloc (.cells #[.bool l,.slice D B.length G,.int .i64 y] 110)).alloc (.cells #[.bool false,.slice none 0 0,.int .i64 0] 110)) w.heap.size (.bool f) (.slice z A.length F) (.int .i64 x):=((aB.new _ _ _ _).old _).old _
 have I:aB (((w.alloc (.cells #[.bool f,.slice z A.length F,.int .i64 x] 110)).alloc (.cells #[.bool l,.slice D B.length G,.int .i64 y] 110)).alloc (.cells #[.bool false,.slice none 0 0,.int .i64 0] 110)) (w.heap.size+1) (.bool l) (.slice D B.length G) (.int .i64 y):=by
  have:=(aB.new (w.alloc (.cells #[.bool f,.slice z A.length F,.int .i64 x] 110)) (.bool l) (.slice D B.length G) (.int .i64 y)).old (.cells #[.bool false,.slice none 0 0,.int .i64 0] 110)
  simpa using this
 have m:aB (((w.alloc (.cells #[.bool f,.slice z A.length F,.int .i64 x] 110)).alloc (.cells #[.bool l,.slice D B.length G,.int .i64 y] 110)).alloc (.cells #[.bool false,.slice none 0 0,.int .i64 0] 110)) (w.heap.size+1+1) (.bool false) (.slice none 0 0) (.int .i64 0):=by
  have:=aB.new ((w.alloc (.cells #[.bool f,.slice z A.length F,.int .i64 x] 110)).alloc (.cells #[.bool l,.slice D B.length G,.int .i64 y] 110)) (.bool false) (.slice none 0 0) (.int .i64 0)
  simpa using this
 have N:=aa O;have X0:=aa H;have X1:=aa I;have X2:=aa m
 clear O H I m
 go_enter Tryz.func160,Tryz.ntmps160
 go_wp2_with fail
 refine(uH U _ (hA.below (uH N)) (hB.below (uH N)) (hT.all (uH N))).mono ?_
 rintro r w1 ⟨rfl,d⟩
 have H:=(uH X0).all d;have I:=(uH X1).all d;have m:=(uH X2).all d
 have b1:=(uH N).trans (d.mono (uH N).size)
 have p0:=H.c0;have p1:=H.c1;have p2:=H.c2
 have q0:=I.c0;have q1:=I.c1;have q2:=I.c2
 have aj:=aa H;have av:=aa I;have V:=aa m;have Q:=aa b1
 clear d H I m b1 X0 X1 X2 N U
 go_wp2_with fail
 refine(uH CA _ (hA.below (uH Q)) (hB.below (uH Q)) (hT.all (uH Q))).mono ?_
 rintro r w4 ⟨⟨v,rfl,iv⟩,d⟩
 obtain⟨n3,a3,c3,L3,rfl,i3⟩:=iv.num
 have m:=(uH V).all d
 have b2:=(uH Q).trans (d.mono (uH Q).size)
 have y0:=m.c0;have y1:=m.c1;have y2:=m.c2;have f0:=m.free 0;have f1:=m.free 1;have f2:=m.free 2
 have X3:=aa m;have B2:=aa b2;have IV:=aa iv
 clear m b2 d iv i3
 go_wp2
 refine bodyPost_ret (v:=.tuple #[.agg #[.bool n3,.slice a3 L3.length c3,.int .i64 (ax)],.int .i64 (er)]) (by simp[results,Tryz.results160,go_sem,y0,y1,y2]) rfl ⟨⟨_,rfl,(uH IV).put3 (uH X3) _ _ _⟩,aE (uH B2) (by omega) _ _ _⟩
theorem sJ(f l:Bool)(D F:Option Addr)(G H:Nat)(A B:List Nat)(x y:Int)(w:World)(hA:af w D G A)(hB:af w F H B)(O:jF f A x=true)(Q:jF l B y=true)(hz:(ad f A*ad l B).natAbs<di)(hT:cd w):
  Calls Tryz.prog 186 #[.agg #[.bool f,.slice D A.length G,.int .i64 x],.agg #[.bool l,.slice F B.length H,.int .i64 y]] w fun r N=>k9 N r (cI (ad f A*ad l B) (x+y)) (dM (ad f A*ad l B) (x+y)) (dX (ad f A*ad l B) (x+y))∧Below w.heap.size w N:=by
 obtain⟨ra,la,av,aI,zx⟩:=bQ O
 obtain⟨rb,lb,a0,a1,zy⟩:=bQ Q
 have CC:=aa (fun N h h' t=>ir f l D F G H A B x y N h h' (by omega) (by omega) t)
 have he:nN f A x l B y=0:=by unfold nN;rw[O,Q];rfl
 rw[he]at CC
 have CM:=aa (fun N h h'=>Br f l D F G H A B N h h' (by omega) (by omega))
 rw[ra,rb,Bool.and_self,fJ,fL,eO _ hz,eP _ hz]at CM
 have CK:=aa (fun N u B' (iu:ay B' N u (ad f A*ad l B)) t=>iw (x+y) iu hz (by omega) t)
 generalize cI (ad f A*ad l B) (x+y)=er at*
 generalize dM (ad f A*ad l B) (x+y)=am at*
 generalize dX (ad f A*ad l B) (x+y)=ax at*
 clear he O Q zx zy ra rb hz
 generalize ad f A*ad l B=z at*
 have Z:Below w.heap.size w (((w.alloc (.cells #[.bool f,.slice D A.length G,.int .i64 x] 110)).alloc (.cells #[.bool l,.slice F B.length H,.int .i64 y] 110)).alloc (.cells #[.bool false,.slice none 0 0,.int .i64 0] 110)):=
  (((Below.refl _ _).alloc (Nat.le_refl _) _).alloc (by simp) _).alloc (by simp;omega) _
 have I:aB (((w.alloc (.cells #[.bool f,.slice D A.length G,.int .i64 x] 110)).alloc (.cells #[.bool l,.slice F B.length H,.int .i64 y] 110)).alloc (.cells #[.bool false,.slice none 0 0,.int .i64 0] 110)) w.heap.size (.bool f) (.slice D A.length G) (.int .i64 x):=((aB.new _ _ _ _).old _).old _
 have K:aB (((w.alloc (.cells #[.bool f,.slice D A.length G,.int .i64 x] 110)).alloc (.cells #[.bool l,.slice F B.length H,.int .i64 y] 110)).alloc (.cells #[.bool false,.slice none 0 0,.int .i64 0] 110)) (w.heap.size+1) (.bool l) (.slice F B.length H) (.int .i64 y):=by
  have:=(aB.new (w.alloc (.cells #[.bool f,.slice D A.length G,.int .i64 x] 110)) (.bool l) (.slice F B.length H) (.int .i64 y)).old (.cells #[.bool false,.slice none 0 0,.int .i64 0] 110)
  simpa using this
 have m:aB (((w.alloc (.cells #[.bool f,.slice D A.length G,.int .i64 x] 110)).alloc (.cells #[.bool l,.slice F B.length H,.int .i64 y] 110)).alloc (.cells #[.bool false,.slice none 0 0,.int .i64 0] 110)) (w.heap.size+1+1) (.bool false) (.slice none 0 0) (.int .i64 0):=by
  have:=aB.new ((w.alloc (.cells #[.bool f,.slice D A.length G,.int .i64 x] 110)).alloc (.cells #[.bool l,.slice F B.length H,.int .i64 y] 110)) (.bool false) (.slice none 0 0) (.int .i64 0)
  simpa using this
 have Y:=aa Z;have X0:=aa I;have X1:=aa K;have X2:=aa m
 clear Z I K m
 go_enter Tryz.func186,Tryz.ntmps186
 go_wp2_with fail
 refine(uH CC _ (hA.below (uH Y)) (hB.below (uH Y)) (hT.all (uH Y))).mono ?_
 rintro r w1 ⟨rfl,d⟩
 have I:=(uH X0).all d;have K:=(uH X1).all d;have m:=(uH X2).all d
 have b1:=(uH Y).trans (d.mono (uH Y).size)
 have p0:=I.c0;have p1:=I.c1;have p2:=I.c2
 have q0:=K.c0;have q1:=K.c1;have q2:=K.c2
 have ae:=aa I;have aj:=aa K;have M:=aa m;have L:=aa b1
 clear d I K m b1 X0 X1 X2 Y CC
 go_wp2_with fail
 refine(uH CM _ (hA.below (uH L)) (hB.below (uH L))).mono ?_
 rintro r w5 ⟨u,rfl,⟨T,U,V,X,rfl,i4⟩,d⟩
 have I:=((uH ae).all d).old (.cells #[.bool T,.slice U X.length V] 108)
 have K:=((uH aj).all d).old (.cells #[.bool T,.slice U X.length V] 108)
 have m:=((uH M).all d).old (.cells #[.bool T,.slice U X.length V] 108)
 have b1:=((uH L).trans (d.mono (uH L).size)).alloc ((uH L).trans (d.mono (uH L).size)).size (.cells #[.bool T,.slice U X.length V] 108)
 have iz:ay 0 (w5.alloc (.cells #[.bool T,.slice U X.length V] 108)) (.agg #[.bool T,.slice U X.length V]) z:=ay.mono (ay.below ⟨T,U,V,X,rfl,i4⟩ ((Below.refl _ _).alloc (Nat.le_refl _) _)) (Nat.zero_le _)
 clear ae aj M L d i4 CM p0 p1 p2 q0 q1 q2
 have p2:=I.c2;have q2:=K.c2
 have M:=aa m;have L:=aa b1;have IZ:=aa iz
 clear I K m b1 iz
 go_wp2_with fail
 refine(uH CK _ _ _ (uH IZ) (hT.all (uH L))).mono ?_
 rintro r w4 ⟨v,rfl,iv,d⟩
 obtain⟨n3,a3,c3,L3,rfl,i3⟩:=iv.num
 have m:=(uH M).all d
 have b2:=(uH L).trans (d.mono (uH L).size)
 have y0:=m.c0;have y1:=m.c1;have y2:=m.c2;have f0:=m.free 0;have f1:=m.free 1;have f2:=m.free 2
 have X3:=aa m;have B2:=aa b2;have IV:=aa iv
 clear m b2 d iv i3
 go_wp2
 refine bodyPost_ret (v:=.tuple #[.agg #[.bool n3,.slice a3 L3.length c3,.int .i64 (ax)],.int .i64 (er)]) (by simp[results,Tryz.results186,go_sem,y0,y1,y2]) rfl ⟨⟨_,rfl,(uH IV).put3 (uH X3) _ _ _⟩,aE (uH B2) (by omega) _ _ _⟩
theorem ps(f:Bool)(m:Option Addr)(y:Nat)(A:List Nat)(x n:Int)(w:World)(N:af w m y A)(I:jF f A x=true)(O:-32768≤n∧n≤32768)(Q:cd w):
  Calls Tryz.prog 189 #[.agg #[.bool f,.slice m A.length y,.int .i64 x],.int .i64 n] w fun r z=>k9 z r (cI (ad f A) (x+n)) (dM (ad f A) (x+n)) (dX (ad f A) (x+n))∧Below w.heap.size w z:=by
 obtain⟨ra,la,ae,aj,zx⟩:=bQ I
 have K:=aa (fun z h t=>gY f m y A x z h (by omega) t)
 have T:l8 f A x=0:=by unfold l8;rw[I];rfl
 rw[T]at K
 have U:=aa (fun z=>cT n 32768 z (by decide) (by decide))
 rw[decide_eq_true O]at U
 have CK:=aa (fun z h t=>gZ f m y A (x+n) z h ra (by omega) t)
 generalize cI (ad f A) (x+n)=er at*
 generalize dM (ad f A) (x+n)=am at*
 generalize dX (ad f A) (x+n)=ax at*
 obtain⟨av,aI⟩:=O
 clear T I zx ra
 have F:Below w.heap.size w ((w.alloc (.cells #[.bool f,.slice m A.length y,.int .i64 x] 110)).alloc (.cells #[.bool false,.slice none 0 0,.int .i64 0] 110)):=((Below.refl _ _).alloc (Nat.le_refl _) _).alloc (by simp) _
 have D:aB ((w.alloc (.cells #[.bool f,.slice m A.length y,.int .i64 x] 110)).alloc (.cells #[.bool false,.slice none 0 0,.int .i64 0] 110)) w.heap.size (.bool f) (.slice m A.length y) (.int .i64 x):=(aB.new _ _ _ _).old _
 have l:aB ((w.alloc (.cells #[.bool f,.slice m A.length y,.int .i64 x] 110)).alloc (.cells #[.bool false,.slice none 0 0,.int .i64 0] 110)) (w.heap.size+1) (.bool false) (.slice none 0 0) (.int .i64 0):=by
  have:=aB.new (w.alloc (.cells #[.bool f,.slice m A.length y,.int .i64 x] 110)) (.bool false) (.slice none 0 0) (.int .i64 0)
  simpa using this
 have G:=aa F;have V:=aa D;have X:=aa l
 clear F D l
 go_enter Tryz.func189,Tryz.ntmps189
 go_wp2_with fail
 refine(uH K _ (N.below (uH G)) (Q.all (uH G))).mono ?_
 rintro r w1 ⟨rfl,d⟩
 have D:=(uH V).all d;have l:=(uH X).all d
 have Y:=(uH G).trans (d.mono (uH G).size)
 have p0:=D.c0;have p1:=D.c1;have p2:=D.c2
 have L:=aa l;have H:=aa Y
 clear d D l Y V X G K
 go_wp2_with fail
 refine(uH U _).mono ?_
 rintro r w2 ⟨rfl,rfl⟩
 go_wp2_with fail
 refine(uH CK _ (N.below (uH H)) (Q.all (uH H))).mono ?_
 rintro r w4 ⟨v,rfl,M,d⟩
 obtain⟨n3,a3,c3,L3,rfl,i3⟩:=M.num
 have l:=(uH L).all d
 have Z:=(uH H).trans (d.mono (uH H).size)
 have y0:=l.c0;have y1:=l.c1;have y2:=l.c2;have f0:=l.free 0;have f1:=l.free 1;have f2:=l.free 2
 have X3:=aa l;have B2:=aa Z;have IV:=aa M
 clear l Z d M i3
 go_wp2
 refine bodyPost_ret (v:=.tuple #[.agg #[.bool n3,.slice a3 L3.length c3,.int .i64 (ax)],.int .i64 (er)]) (by simp[results,Tryz.results189,go_sem,y0,y1,y2]) rfl ⟨⟨_,rfl,(uH IV).put3 (uH X3) _ _ _⟩,aE (uH B2) (by omega) _ _ _⟩
theorem sK(L:List Nat)(f:bd L)(k:Nat)(h:L.length≤k):ah L<2^(32*k):=by
 have d:=dL L f
 rw[show(4294967296:Nat)=2^32 by decide,←Nat.pow_mul]at d
 exact Nat.lt_of_lt_of_le d (Nat.pow_le_pow_right (by decide) (by omega))
theorem sL:di=2^(32*ko):=by
 unfold di
 rw[show(4294967296:Nat)=2^32 by decide,←Nat.pow_mul]
theorem pt{v k:Nat}(h:v<2^k)(d:k≤16384):v<di:=by
 rw[sL]
 exact Nat.lt_of_lt_of_le h (Nat.pow_le_pow_right (by decide) d)
end Go.Proofs.YtenpggicmfhhdaaGreatDoor
namespace Go.Proofs.YtenpggicmfhhdaaGreatDoor
open Go.RowKit
theorem qJ:∀(t:Nat),0<t→t<4294967296→1≤Lib.bitLen t∧2^(Lib.bitLen t-1)≤t∧t<2^Lib.bitLen t:=by
 intro t
 induction t using Nat.strongRecOn with
 |ind t ih=>
  intro h l
  have d:=kS t h l
  by_cases f:t=1
  ·subst f;decide
  ·obtain⟨m,y,z⟩:=ih (t/2) (by omega) (by omega) (by omega)
   rw[d]
   refine⟨by omega,?_,?_⟩
   ·rw[show 1+Lib.bitLen (t/2)-1=(Lib.bitLen (t/2)-1)+1 by omega,Nat.pow_succ]
    omega
   ·rw[show 1+Lib.bitLen (t/2)=Lib.bitLen (t/2)+1 by omega,Nat.pow_succ]
    omega
def jk(L:List Nat):Nat:=if L.length=0 then 0 else 32*(L.length-1)+Lib.bitLen (L[L.length-1]?.getD 0)
theorem gH(L:List Nat):dn L=(jk L:Int):=by
 unfold dn jk
 by_cases h:L.length=0
 ·rw[if_pos h,if_pos h];rfl
 ·rw[if_neg h,if_neg h];omega
theorem gI(L:List Nat)(l:bd L)(y:bM L)(m:L≠ []):1≤jk L∧2^(jk L-1)≤ah L∧ah L<2^jk L:=by
 have F:0<L.length:=List.length_pos_iff.2 m
 have G:L[L.length-1]?.getD 0≠0:=by
  rcases y with h|h
  ·exact absurd h m
  ·exact h
 have f:L[L.length-1]?.getD 0<4294967296:=by
  rw[List.getElem?_eq_getElem (by omega)]
  exact l _ (List.getElem_mem _)
 obtain⟨H,A,D⟩:=qJ (L[L.length-1]?.getD 0) (by omega) f
 have d:=aJ L (L.length-1)
 rw[show L.length-1+1=L.length by omega,List.take_length]at d
 have z:=gc L l (L.length-1)
 rw[show(4294967296:Nat)=2^32 by decide,←Nat.pow_mul]at z d
 unfold jk
 rw[if_neg (by omega)]
 generalize L[L.length-1]?.getD 0=t at*
 generalize Lib.bitLen t=b at*
 generalize ah (L.take (L.length-1))=r at*
 generalize I:32*(L.length-1)=k at*
 refine⟨by omega,?_,?_⟩
 ·rw[show k+b-1=k+(b-1) by omega,Nat.pow_add,d]
  have:2^k*2^(b-1)≤2^k*t:=Nat.mul_le_mul_left _ A
  omega
 ·rw[Nat.pow_add,d]
  have:2^k*(t+1)≤2^k*2^b:=Nat.mul_le_mul_left _ D
  rw[Nat.mul_add]at this
  omega
theorem uz(v n d k:Nat)(y:1≤n)(l:2^(n-1)≤v)(m:v<2^n):v*2^d<2^k↔n+d≤k:=by
 constructor
 ·intro h
  apply Nat.le_of_not_lt
  intro t
  have f:2^(n-1)*2^d≤v*2^d:=Nat.mul_le_mul_right _ l
  rw[←Nat.pow_add]at f
  have z:2^k≤2^(n-1+d):=Nat.pow_le_pow_right (by decide) (by omega)
  omega
 ·intro h
  have f:v*2^d<2^n*2^d:=Nat.mul_lt_mul_of_pos_right m (Nat.pow_pos (by decide))
  rw[←Nat.pow_add]at f
  exact Nat.lt_of_lt_of_le f (Nat.pow_le_pow_right (by decide) h)
theorem vA(n:Bool)(L:List Nat)(x l:Int):(up (ad n L) x l).natAbs=ah L*2^(x-l).toNat:=by
 unfold up
 rw[Int.natAbs_mul,aS,Int.natAbs_pow]
 rfl
theorem uA(n:Bool)(L:List Nat)(x l:Int)(f:bd L)(m:aw n L=true)(t:L≠ [])(D:l≤x):d9 (ad n L) x l=0↔(x-l≤16384∧dn L+x-l≤16384):=by
 obtain⟨y,z,A⟩:=gI L f (aA m).2.1 t
 have d:=uz (ah L) (jk L) (x-l).toNat (32*ko) y z A
 rw[←sL,←vA n L x l]at d
 have F:32*ko=16384:=rfl
 rw[gH]
 constructor
 ·intro h
  have:=d.1 (jR h)
  omega
 ·intro h
  exact g6 _ _ _ (d.2 (by omega)) h.1
def fA(b:Nat):Nat:=if fP b=0 then fF b else fF b+4503599627370496
def fM(b:Nat):Int:=sg (fS b) (fA b)
def fE(b:Nat):Int:=if fP b=0 then-1074 else(fP b:Int)-1075
theorem DX(b:Nat):fA b<9007199254740992:=by unfold fA;have:=qn b;split<;>omega
theorem qK(b:Nat):(fM b).natAbs<9007199254740992:=by
 have:=DX b
 unfold fM sg
 split<;>omega
theorem yb(b:Nat):-1074≤fE b∧fE b≤972:=by
 have:=lK b
 unfold fE
 split<;>omega
theorem vB(b:Nat)(w:World):
  Calls Tryz.prog 158 #[fV b] w fun e y=>e=.returned (.tuple #[.int .i64 (fM b),.int .i64 (fE b)])∧Below w.heap.size w y:=by
 unfold fV fM fE fA
 have z:=lK b
 have A:=qn b
 generalize fF b=f at*
 generalize fP b=p at*
 generalize fS b=s at*
 have h:(0:Int)≤f:=by omega
 have l:(f:Int)<4503599627370496:=by omega
 have m:(p:Int)<2048:=by omega
 by_cases d:p=0
 ·subst d
  rw[if_pos rfl,if_pos rfl]
  cases s
  ·go_enter Tryz.func158,Tryz.ntmps158
   go_wp2
   exact bodyPost_ret (v:=.tuple #[.int .i64 f,.int .i64 (-1074)]) (by simp[results,Tryz.results158,go_sem]) rfl ⟨rfl,(Below.refl _ _).alloc (Nat.le_refl _) _⟩
  ·go_enter Tryz.func158,Tryz.ntmps158
   go_wp2
   exact bodyPost_ret (v:=.tuple #[.int .i64 (-f),.int .i64 (-1074)]) (by simp[results,Tryz.results158,go_sem]) rfl ⟨rfl,(Below.refl _ _).alloc (Nat.le_refl _) _⟩
 ·rw[if_neg d,if_neg d]
  have D:0<p:=by omega
  have F:decide (0<p)=true:=decide_eq_true D
  have G:IntKind.i64.wrap (f:Int)=(f:Int):=by simp only[IntKind.wrap_i64];omega
  have H:IntKind.i64.wrap (p:Int)=(p:Int):=by simp only[IntKind.wrap_i64];omega
  obtain⟨a,t⟩:∃a:Nat,a=f+4503599627370496:=⟨_,rfl⟩
  have I:IntKind.i64.wrap ((f:Int)+4503599627370496)=(a:Int):=by simp only[IntKind.wrap_i64];omega
  have K:IntKind.i64.wrap (-(a:Int))= -(a:Int):=by simp only[IntKind.wrap_i64];omega
  have L:IntKind.i64.wrap ((p:Int)-1)=(p:Int)-1:=by simp only[IntKind.wrap_i64];omega
  have M:IntKind.i64.wrap (-1074+((p:Int)-1))=(p:Int)-1075:=by simp only[IntKind.wrap_i64];omega
  rw[←t]
  clear d A z l m h t
  cases s
  ·go_enter Tryz.func158,Tryz.ntmps158
   go_wp2
   exact bodyPost_ret (v:=.tuple #[.int .i64 a,.int .i64 (p-1075)]) (by simp[results,Tryz.results158,go_sem]) rfl ⟨rfl,(Below.refl _ _).alloc (Nat.le_refl _) _⟩
  ·go_enter Tryz.func158,Tryz.ntmps158
   go_wp2
   exact bodyPost_ret (v:=.tuple #[.int .i64 (-a),.int .i64 (p-1075)]) (by simp[results,Tryz.results158,go_sem]) rfl ⟨rfl,(Below.refl _ _).alloc (Nat.le_refl _) _⟩
end Go.Proofs.YtenpggicmfhhdaaGreatDoor
