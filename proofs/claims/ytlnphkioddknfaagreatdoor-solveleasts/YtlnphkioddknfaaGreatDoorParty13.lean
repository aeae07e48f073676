/- Part 13 of the texts. -/
import Derived.Test.YtlnphkioddknfaaGreatDoorParty12
set_option maxHeartbeats 2000000
namespace Go.Proofs.YtlnphkioddknfaaGreatDoor
open Go.RowKit
attribute [local go_sem ↓] Go.wp_at_zero Go.wp_at_succ
theorem uL(f l:Bool)(ao z:Option Addr)(D F:Nat)(A B:List Nat)(x y:Int)(w:World)(hA:ag w ao D A)(hB:ag w z F B)(I:kn f A x=true)(K:kn l B y=true)(hT:b7 w):
  Calls Tryz.prog 262 #[.agg #[.bool f,.slice ao A.length D,.int .i64 x],.agg #[.bool l,.slice z B.length F,.int .i64 y]] w fun r L=>mn L r (r7 (af f A) x (af l B) y) (r8 (af f A) x (af l B) y) (r9 (af f A) x (af l B) y)∧Below w.heap.size w L:=by
 obtain⟨ra,la,X,Y,zx⟩:=bT I
 obtain⟨rb,lb,Z,ae,zy⟩:=bT K
 have U:=aa (fun L h Q t=>je f l ao z D F A B x y L h Q (by omega) (by omega) t)
 have he:oU f A x l B y=0:=by unfold oU;rw[I,K];rfl
 rw[he]at U
 have CA:=aa (fun L h Q t=>qA f l ao z D F A B x y L h Q ra rb ⟨X,Y⟩ ⟨Z,ae⟩ zx zy t)
 generalize r7 (af f A) x (af l B) y=er at*
 generalize r8 (af f A) x (af l B) y=am at*
 generalize r9 (af f A) x (af l B) y=ax at*
 clear he I K zx zy ra rb
 have N:Below w.heap.size w (((w.alloc (.cells #[.bool f,.slice ao A.length D,.int .i64 x] 47)).alloc (.cells #[.bool l,.slice z B.length F,.int .i64 y] 47)).alloc (.cells #[.bool false,.slice none 0 0,.int .i64 0] 47)):=
  (((Below.refl _ _).alloc (Nat.le_refl _) _).alloc (by simp) _).alloc (by simp;omega) _
 have G:az (((w.alloc (.cells #[.bool f,.slice ao A.length D,.int .i64 x] 47)).alloc (.cells #[.bool l,.slice z B.length F,.int .i64 y] 47)).alloc (.cells #[.bool false,.slice none 0 0,.int .i64 0] 47)) w.heap.size (.bool f) (.slice ao A.length D) (.int .i64 x):=((az.new _ _ _ _).old _).old _
 have H:az (((w.alloc (.cells #[.bool f,.slice ao A.length D,.int .i64 x] 47)).alloc (.cells #[.bool l,.slice z B.length F,.int .i64 y] 47)).alloc (.cells #[.bool false,.slice none 0 0,.int .i64 0] 47)) (w.heap.size+1) (.bool l) (.slice z B.length F) (.int .i64 y):=by
  have:=(az.new (w.alloc (.cells #[.bool f,.slice ao A.length D,.int .i64 x] 47)) (.bool l) (.slice z B.length F) (.int .i64 y)).old (.cells #[.bool false,.slice none 0 0,.int .i64 0] 47)
  simpa using this
 have m:az (((w.alloc (.cells #[.bool f,.slice ao A.length D,.int .i64 x] 47)).alloc (.cells #[.bool l,.slice z B.length F,.int .i64 y] 47)).alloc (.cells #[.bool false,.slice none 0 0,.int .i64 0] 47)) (w.heap.size+1+1) (.bool false) (.slice none 0 0) (.int .i64 0):=by
  have:=az.new ((w.alloc (.cells #[.bool f,.slice ao A.length D,.int .i64 x] 47)).alloc (.cells #[.bool l,.slice z B.length F,.int .i64 y] 47)) (.bool false) (.slice none 0 0) (.int .i64 0)
  simpa using this
 have M:=aa N;have X0:=aa G;have X1:=aa H;have X2:=aa m
 clear N G H m
 go_enter Tryz.func262,Tryz.ntmps262
 go_wp2_with fail
 refine(uH U _ (hA.below (uH M)) (hB.below (uH M)) (hT.all (uH M))).mono ?_
 rintro r w1 ⟨rfl,d⟩
 have G:=(uH X0).all d;have H:=(uH X1).all d;have m:=(uH X2).all d
 have b1:=(uH M).trans (d.mono (uH M).size)
 have p0:=G.c0;have p1:=G.c1;have p2:=G.c2
 have q0:=H.c0;have q1:=H.c1;have q2:=H.c2
 have aj:=aa G;have ak:=aa H;have V:=aa m;have O:=aa b1
 clear d G H m b1 X0 X1 X2 M U
 go_wp2_with fail
 refine(uH CA _ (hA.below (uH O)) (hB.below (uH O)) (hT.all (uH O))).mono ?_
 rintro r w4 ⟨⟨v,rfl,iv⟩,d⟩
 obtain⟨n3,a3,c3,L3,rfl,i3⟩:=iv.num
 have m:=(uH V).all d
 have b2:=(uH O).trans (d.mono (uH O).size)
 have y0:=m.c0;have y1:=m.c1;have y2:=m.c2;have f0:=m.free 0;have f1:=m.free 1;have f2:=m.free 2
 have X3:=aa m;have B2:=aa b2;have IV:=aa iv
 clear m b2 d iv i3
 go_wp2
 refine bodyPost_ret (v:=.tuple #[.agg #[.bool n3,.slice a3 L3.length c3,.int .i64 (ax)],.int .i64 (er)]) (by simp[results,Tryz.results262,go_sem,y0,y1,y2]) rfl ⟨⟨_,rfl,(uH IV).put3 (uH X3) _ _ _⟩,aD (uH B2) (by omega) _ _ _⟩
theorem uM(f l:Bool)(ao D:Option Addr)(F G:Nat)(A B:List Nat)(x y:Int)(w:World)(hA:ag w ao F A)(hB:ag w D G B)(N:kn f A x=true)(O:kn l B y=true)(hz:(af f A*af l B).natAbs<dy)(hT:b7 w):
  Calls Tryz.prog 246 #[.agg #[.bool f,.slice ao A.length F,.int .i64 x],.agg #[.bool l,.slice D B.length G,.int .i64 y]] w fun r M=>mn M r (cP (af f A*af l B) (x+y)) (dM (af f A*af l B) (x+y)) (dX (af f A*af l B) (x+y))∧Below w.heap.size w M:=by
 obtain⟨ra,la,ak,aI,zx⟩:=bT N
 obtain⟨rb,lb,a0,a1,zy⟩:=bT O
 have CC:=aa (fun M h h' t=>je f l ao D F G A B x y M h h' (by omega) (by omega) t)
 have he:oU f A x l B y=0:=by unfold oU;rw[N,O];rfl
 rw[he]at CC
 have CM:=aa (fun M h h'=>Ek f l ao D F G A B M h h' (by omega) (by omega))
 rw[ra,rb,Bool.and_self,gh,gi,fj _ hz,fk _ hz]at CM
 have CK:=aa (fun M u B' (iu:aw B' M u (af f A*af l B)) t=>jf (x+y) iu hz (by omega) t)
 generalize cP (af f A*af l B) (x+y)=er at*
 generalize dM (af f A*af l B) (x+y)=am at*
 generalize dX (af f A*af l B) (x+y)=ax at*
 clear he N O zx zy ra rb hz
 generalize af f A*af l B=z at*
 have Z:Below w.heap.size w (((w.alloc (.cells #[.bool f,.slice ao A.length F,.int .i64 x] 47)).alloc (.cells #[.bool l,.slice D B.length G,.int .i64 y] 47)).alloc (.cells #[.bool false,.slice none 0 0,.int .i64 0] 47)):=
  (((Below.refl _ _).alloc (Nat.le_refl _) _).alloc (by simp) _).alloc (by simp;omega) _
 have H:az (((w.alloc (.cells #[.bool f,.slice ao A.length F,.int .i64 x] 47)).alloc (.cells #[.bool l,.slice D B.length G,.int .i64 y] 47)).alloc (.cells #[.bool false,.slice none 0 0,.int .i64 0] 47)) w.heap.size (.bool f) (.slice ao A.length F) (.int .i64 x):=((az.new _ _ _ _).old _).old _
 have I:az (((w.alloc (.cells #[.bool f,.slice ao A.length F,.int .i64 x] 47)).alloc (.cells #[.bool l,.slice D B.length G,.int .i64 y] 47)).alloc (.cells #[.bool false,.slice none 0 0,.int .i64 0] 47)) (w.heap.size+1) (.bool l) (.slice D B.length G) (.int .i64 y):=by
  have:=(az.new (w.alloc (.cells #[.bool f,.slice ao A.length F,.int .i64 x] 47)) (.bool l) (.slice D B.length G) (.int .i64 y)).old (.cells #[.bool false,.slice none 0 0,.int .i64 0] 47)
  simpa using this
 have m:az (((w.alloc (.cells #[.bool f,.slice ao A.length F,.int .i64 x] 47)).alloc (.cells #[.bool l,.slice D B.length G,.int .i64 y] 47)).alloc (.cells #[.bool false,.slice none 0 0,.int .i64 0] 47)) (w.heap.size+1+1) (.bool false) (.slice none 0 0) (.int .i64 0):=by
  have:=az.new ((w.alloc (.cells #[.bool f,.slice ao A.length F,.int .i64 x] 47)).alloc (.cells #[.bool l,.slice D B.length G,.int .i64 y] 47)) (.bool false) (.slice none 0 0) (.int .i64 0)
  simpa using this
 have Y:=aa Z;have X0:=aa H;have X1:=aa I;have X2:=aa m
 clear Z H I m
 go_enter Tryz.func246,Tryz.ntmps246
 go_wp2_with fail
 refine(uH CC _ (hA.below (uH Y)) (hB.below (uH Y)) (hT.all (uH Y))).mono ?_
 rintro r w1 ⟨rfl,d⟩
 have H:=(uH X0).all d;have I:=(uH X1).all d;have m:=(uH X2).all d
 have b1:=(uH Y).trans (d.mono (uH Y).size)
 have p0:=H.c0;have p1:=H.c1;have p2:=H.c2
 have q0:=I.c0;have q1:=I.c1;have q2:=I.c2
 have ae:=aa H;have aj:=aa I;have L:=aa m;have K:=aa b1
 clear d H I m b1 X0 X1 X2 Y CC
 go_wp2_with fail
 refine(uH CM _ (hA.below (uH K)) (hB.below (uH K))).mono ?_
 rintro r w5 ⟨u,rfl,⟨Q,U,V,X,rfl,i4⟩,d⟩
 have H:=((uH ae).all d).old (.cells #[.bool Q,.slice U X.length V] 45)
 have I:=((uH aj).all d).old (.cells #[.bool Q,.slice U X.length V] 45)
 have m:=((uH L).all d).old (.cells #[.bool Q,.slice U X.length V] 45)
 have b1:=((uH K).trans (d.mono (uH K).size)).alloc ((uH K).trans (d.mono (uH K).size)).size (.cells #[.bool Q,.slice U X.length V] 45)
 have iz:aw 0 (w5.alloc (.cells #[.bool Q,.slice U X.length V] 45)) (.agg #[.bool Q,.slice U X.length V]) z:=aw.mono (aw.below ⟨Q,U,V,X,rfl,i4⟩ ((Below.refl _ _).alloc (Nat.le_refl _) _)) (Nat.zero_le _)
 clear ae aj L K d i4 CM p0 p1 p2 q0 q1 q2
 have p2:=H.c2;have q2:=I.c2
 have L:=aa m;have K:=aa b1;have IZ:=aa iz
 clear H I m b1 iz
 go_wp2_with fail
 refine(uH CK _ _ _ (uH IZ) (hT.all (uH K))).mono ?_
 rintro r w4 ⟨v,rfl,iv,d⟩
 obtain⟨n3,a3,c3,L3,rfl,i3⟩:=iv.num
 have m:=(uH L).all d
 have b2:=(uH K).trans (d.mono (uH K).size)
 have y0:=m.c0;have y1:=m.c1;have y2:=m.c2;have f0:=m.free 0;have f1:=m.free 1;have f2:=m.free 2
 have X3:=aa m;have B2:=aa b2;have IV:=aa iv
 clear m b2 d iv i3
 go_wp2
 refine bodyPost_ret (v:=.tuple #[.agg #[.bool n3,.slice a3 L3.length c3,.int .i64 (ax)],.int .i64 (er)]) (by simp[results,Tryz.results246,go_sem,y0,y1,y2]) rfl ⟨⟨_,rfl,(uH IV).put3 (uH X3) _ _ _⟩,aD (uH B2) (by omega) _ _ _⟩
theorem qB(f:Bool)(ao:Option Addr)(m:Nat)(A:List Nat)(x n:Int)(w:World)(M:ag w ao m A)(H:kn f A x=true)(N:-32768≤n∧n≤32768)(O:b7 w):
  Calls Tryz.prog 204 #[.agg #[.bool f,.slice ao A.length m,.int .i64 x],.int .i64 n] w fun r y=>mn y r (cP (af f A) (x+n)) (dM (af f A) (x+n)) (dX (af f A) (x+n))∧Below w.heap.size w y:=by
 obtain⟨ra,la,ae,aj,zx⟩:=bT H
 have I:=aa (fun y h t=>iI f ao m A x y h (by omega) t)
 have Q:m7 f A x=0:=by unfold m7;rw[H];rfl
 rw[Q]at I
 have U:=aa (fun y=>dc n 32768 y (by decide) (by decide))
 rw[decide_eq_true N]at U
 have CK:=aa (fun y h t=>iJ f ao m A (x+n) y h ra (by omega) t)
 generalize cP (af f A) (x+n)=er at*
 generalize dM (af f A) (x+n)=am at*
 generalize dX (af f A) (x+n)=ax at*
 obtain⟨ak,aI⟩:=N
 clear Q H zx ra
 have D:Below w.heap.size w ((w.alloc (.cells #[.bool f,.slice ao A.length m,.int .i64 x] 47)).alloc (.cells #[.bool false,.slice none 0 0,.int .i64 0] 47)):=((Below.refl _ _).alloc (Nat.le_refl _) _).alloc (by simp) _
 have z:az ((w.alloc (.cells #[.bool f,.slice ao A.length m,.int .i64 x] 47)).alloc (.cells #[.bool false,.slice none 0 0,.int .i64 0] 47)) w.heap.size (.bool f) (.slice ao A.length m) (.int .i64 x):=(az.new _ _ _ _).old _
 have l:az ((w.alloc (.cells #[.bool f,.slice ao A.length m,.int .i64 x] 47)).alloc (.cells #[.bool false,.slice none 0 0,.int .i64 0] 47)) (w.heap.size+1) (.bool false) (.slice none 0 0) (.int .i64 0):=by
  have:=az.new (w.alloc (.cells #[.bool f,.slice ao A.length m,.int .i64 x] 47)) (.bool false) (.slice none 0 0) (.int .i64 0)
  simpa using this
 have F:=aa D;have V:=aa z;have X:=aa l
 clear D z l
 go_enter Tryz.func204,Tryz.ntmps204
 go_wp2_with fail
 refine(uH I _ (M.below (uH F)) (O.all (uH F))).mono ?_
 rintro r w1 ⟨rfl,d⟩
 have z:=(uH V).all d;have l:=(uH X).all d
 have Y:=(uH F).trans (d.mono (uH F).size)
 have p0:=z.c0;have p1:=z.c1;have p2:=z.c2
 have K:=aa l;have G:=aa Y
 clear d z l Y V X F I
 go_wp2_with fail
 refine(uH U _).mono ?_
 rintro r w2 ⟨rfl,rfl⟩
 go_wp2_with fail
 refine(uH CK _ (M.below (uH G)) (O.all (uH G))).mono ?_
 rintro r w4 ⟨v,rfl,L,d⟩
 obtain⟨n3,a3,c3,L3,rfl,i3⟩:=L.num
 have l:=(uH K).all d
 have Z:=(uH G).trans (d.mono (uH G).size)
 have y0:=l.c0;have y1:=l.c1;have y2:=l.c2;have f0:=l.free 0;have f1:=l.free 1;have f2:=l.free 2
 have X3:=aa l;have B2:=aa Z;have IV:=aa L
 clear l Z d L i3
 go_wp2
 refine bodyPost_ret (v:=.tuple #[.agg #[.bool n3,.slice a3 L3.length c3,.int .i64 (ax)],.int .i64 (er)]) (by simp[results,Tryz.results204,go_sem,y0,y1,y2]) rfl ⟨⟨_,rfl,(uH IV).put3 (uH X3) _ _ _⟩,aD (uH B2) (by omega) _ _ _⟩
theorem uN(L:List Nat)(f:bf L)(k:Nat)(h:L.length≤k):an L<2^(32*k):=by
 have d:=ei L f
 rw[show(4294967296:Nat)=2^32 by decide,←Nat.pow_mul]at d
 exact Nat.lt_of_lt_of_le d (Nat.pow_le_pow_right (by decide) (by omega))
theorem uO:dy=2^(32*k9):=by
 unfold dy
 rw[show(4294967296:Nat)=2^32 by decide,←Nat.pow_mul]
theorem qC{v k:Nat}(h:v<2^k)(d:k≤16384):v<dy:=by
 rw[uO]
 exact Nat.lt_of_lt_of_le h (Nat.pow_le_pow_right (by decide) d)
end Go.Proofs.YtlnphkioddknfaaGreatDoor
namespace Go.Proofs.YtlnphkioddknfaaGreatDoor
open Go.RowKit
theorem sc:∀(t:Nat),0<t→t<4294967296→1≤Lib.bitLen t∧2^(Lib.bitLen t-1)≤t∧t<2^Lib.bitLen t:=by
 intro t
 induction t using Nat.strongRecOn with
 |ind t ih=>
  intro h l
  have d:=l8 t h l
  by_cases f:t=1
  ·subst f;decide
  ·obtain⟨m,y,z⟩:=ih (t/2) (by omega) (by omega) (by omega)
   rw[d]
   refine⟨by omega,?_,?_⟩
   ·rw[show 1+Lib.bitLen (t/2)-1=(Lib.bitLen (t/2)-1)+1 by omega,Nat.pow_succ]
    omega
   ·rw[show 1+Lib.bitLen (t/2)=Lib.bitLen (t/2)+1 by omega,Nat.pow_succ]
    omega
def jT(L:List Nat):Nat:=if L.length=0 then 0 else 32*(L.length-1)+Lib.bitLen (L[L.length-1]?.getD 0)
theorem ie(L:List Nat):dD L=(jT L:Int):=by
 unfold dD jT
 by_cases h:L.length=0
 ·rw[if_pos h,if_pos h];rfl
 ·rw[if_neg h,if_neg h];omega
theorem ig(L:List Nat)(l:bf L)(y:bP L)(m:L≠ []):1≤jT L∧2^(jT L-1)≤an L∧an L<2^jT L:=by
 have F:0<L.length:=List.length_pos_iff.2 m
 have G:L[L.length-1]?.getD 0≠0:=by
  rcases y with h|h
  ·exact absurd h m
  ·exact h
 have f:L[L.length-1]?.getD 0<4294967296:=by
  rw[List.getElem?_eq_getElem (by omega)]
  exact l _ (List.getElem_mem _)
 obtain⟨H,A,D⟩:=sc (L[L.length-1]?.getD 0) (by omega) f
 have d:=aH L (L.length-1)
 rw[show L.length-1+1=L.length by omega,List.take_length]at d
 have z:=gH L l (L.length-1)
 rw[show(4294967296:Nat)=2^32 by decide,←Nat.pow_mul]at z d
 unfold jT
 rw[if_neg (by omega)]
 generalize L[L.length-1]?.getD 0=t at*
 generalize Lib.bitLen t=b at*
 generalize an (L.take (L.length-1))=r at*
 generalize I:32*(L.length-1)=k at*
 refine⟨by omega,?_,?_⟩
 ·rw[show k+b-1=k+(b-1) by omega,Nat.pow_add,d]
  have:2^k*2^(b-1)≤2^k*t:=Nat.mul_le_mul_left _ A
  omega
 ·rw[Nat.pow_add,d]
  have:2^k*(t+1)≤2^k*2^b:=Nat.mul_le_mul_left _ D
  rw[Nat.mul_add]at this
  omega
theorem wJ(v n d k:Nat)(y:1≤n)(l:2^(n-1)≤v)(m:v<2^n):v*2^d<2^k↔n+d≤k:=by
 constructor
 ·intro h
  apply Nat.le_of_not_lt
  intro t
  have f:2^(n-1)*2^d≤v*2^d:=Nat.mul_le_mul_right _ l
  rw[←Nat.pow_add]at f
  have z:2^k≤2^(n-1+d):=Nat.pow_le_pow_right (by decide) (by omega)
  omega
 ·intro h
  have f:v*2^d<2^n*2^d:=Nat.mul_lt_mul_of_pos_right m (Nat.pow_pos (by decide))
  rw[←Nat.pow_add]at f
  exact Nat.lt_of_lt_of_le f (Nat.pow_le_pow_right (by decide) h)
theorem xW(n:Bool)(L:List Nat)(x l:Int):(up (af n L) x l).natAbs=an L*2^(x-l).toNat:=by
 unfold up
 rw[Int.natAbs_mul,aR,Int.natAbs_pow]
 rfl
theorem wK(n:Bool)(L:List Nat)(x l:Int)(f:bf L)(m:av n L=true)(t:L≠ [])(D:l≤x):eD (af n L) x l=0↔(x-l≤16384∧dD L+x-l≤16384):=by
 obtain⟨y,z,A⟩:=ig L f (ay m).2.1 t
 have d:=wJ (an L) (jT L) (x-l).toNat (32*k9) y z A
 rw[←uO,←xW n L x l]at d
 have F:32*k9=16384:=rfl
 rw[ie]
 constructor
 ·intro h
  have:=d.1 (kA h)
  omega
 ·intro h
  exact iK _ _ _ (d.2 (by omega)) h.1
def fA(b:Nat):Nat:=if fP b=0 then fF b else fF b+4503599627370496
def fM(b:Nat):Int:=sg (fS b) (fA b)
def fE(b:Nat):Int:=if fP b=0 then-1074 else(fP b:Int)-1075
theorem Gj(b:Nat):fA b<9007199254740992:=by unfold fA;have:=rM b;split<;>omega
theorem se(b:Nat):(fM b).natAbs<9007199254740992:=by
 have:=Gj b
 unfold fM sg
 split<;>omega
theorem Ay(b:Nat):-1074≤fE b∧fE b≤972:=by
 have:=mQ b
 unfold fE
 split<;>omega
theorem xX(b:Nat)(w:World):
  Calls Tryz.prog 228 #[fV b] w fun e y=>e=.returned (.tuple #[.int .i64 (fM b),.int .i64 (fE b)])∧Below w.heap.size w y:=by
 unfold fV fM fE fA
 have z:=mQ b
 have A:=rM b
 generalize fF b=f at*
 generalize fP b=p at*
 generalize fS b=s at*
 have h:(0:Int)≤f:=by omega
 have l:(f:Int)<4503599627370496:=by omega
 have m:(p:Int)<2048:=by omega
 by_cases d:p=0
 ·subst d
  rw[if_pos rfl,if_pos rfl]
  cases s
  ·go_enter Tryz.func228,Tryz.ntmps228
   go_wp2
   exact bodyPost_ret (v:=.tuple #[.int .i64 f,.int .i64 (-1074)]) (by simp[results,Tryz.results228,go_sem]) rfl ⟨rfl,(Below.refl _ _).alloc (Nat.le_refl _) _⟩
  ·go_enter Tryz.func228,Tryz.ntmps228
   go_wp2
   exact bodyPost_ret (v:=.tuple #[.int .i64 (-f),.int .i64 (-1074)]) (by simp[results,Tryz.results228,go_sem]) rfl ⟨rfl,(Below.refl _ _).alloc (Nat.le_refl _) _⟩
 ·rw[if_neg d,if_neg d]
  have D:0<p:=by omega
  have F:decide (0<p)=true:=decide_eq_true D
  have G:IntKind.i64.wrap (f:Int)=(f:Int):=by simp only[IntKind.wrap_i64];omega
  have H:IntKind.i64.wrap (p:Int)=(p:Int):=by simp only[IntKind.wrap_i64];omega
  obtain⟨a,t⟩:∃a:Nat,a=f+4503599627370496:=⟨_,rfl⟩
  have I:IntKind.i64.wrap ((f:Int)+4503599627370496)=(a:Int):=by simp only[IntKind.wrap_i64];omega
  have K:IntKind.i64.wrap (-(a:Int))= -(a:Int):=by simp only[IntKind.wrap_i64];omega
  have L:IntKind.i64.wrap ((p:Int)-1)=(p:Int)-1:=by simp only[IntKind.wrap_i64];omega
  have M:IntKind.i64.wrap (-1074+((p:Int)-1))=(p:Int)-1075:=by simp only[IntKind.wrap_i64];omega
  rw[←t]
  clear d A z l m h t
  cases s
  ·go_enter Tryz.func228,Tryz.ntmps228
   go_wp2
   exact bodyPost_ret (v:=.tuple #[.int .i64 a,.int .i64 (p-1075)]) (by simp[results,Tryz.results228,go_sem]) rfl ⟨rfl,(Below.refl _ _).alloc (Nat.le_refl _) _⟩
  ·go_enter Tryz.func228,Tryz.ntmps228
   go_wp2
   exact bodyPost_ret (v:=.tuple #[.int .i64 (-a),.int .i64 (p-1075)]) (by simp[results,Tryz.results228,go_sem]) rfl ⟨rfl,(Below.refl _ _).alloc (Nat.le_refl _) _⟩
end Go.Proofs.YtlnphkioddknfaaGreatDoor
