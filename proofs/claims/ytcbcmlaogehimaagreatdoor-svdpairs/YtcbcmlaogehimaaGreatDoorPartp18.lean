/- Part 18 of the texts. -/
import Derived.Test.YtcbcmlaogehimaaGreatDoorPartp17
set_option maxHeartbeats 4000000
set_option maxRecDepth 20000
namespace Go.Proofs.YtcbcmlaogehimaaGreatDoor
open Go.RowKit
def fc(xs:List Nat)(i:Nat):Rat:=fQ (xs.getD i 0)
theorem MZ:fQ 0=0:=bu 0 (by decide)
theorem uA:∀(n:Nat) (f:Nat→Rat),sm (n+1) f=f 0+sm n (fun i=>f (i+1)):=by
 intro n
 induction n with
 |zero=>intro f;show(0:Rat)+f 0=f 0+0;grind
 |succ n ih=>
  intro f
  show sm (n+1) f+f (n+1)=f 0+(sm n (fun i=>f (i+1))+f (n+1))
  rw[ih]
  grind
theorem I9:∀(u d:List Nat),u.length=d.length→dt u.length (fc u) (fc d)=kG u d:=by
 intro u
 induction u with
 |nil=>
  intro d h
  have:d= []:=by cases d with|nil=>rfl|cons y d=>simp at h
  subst this
  rfl
 |cons v u ih=>
  intro d h
  cases d with
  |nil=>simp at h
  |cons y d=>
   have e:=ih d (by simpa using h)
   have z:kG (v::u) (y::d)=fQ v*fQ y+kG u d:=rfl
   rw[z,←e]
   show sm (u.length+1) _=_
   rw[uA]
   rfl
def aO(s t:Bool):Nat:=if(s&&t)=true then 9223372036854775808 else 0
theorem wW(a b:Nat)(w:World)(z:a<18446744073709551616)(A:b<18446744073709551616):
  Calls Tryz.prog 276 #[.int .u64 a,.int .u64 b] w fun e h=>e=.returned (.int .u64 (aO (fS a) (fS b):Nat))∧Below w.heap.size w h:=by
 have D:=ac (fun h=>eE a h z)
 have F:=ac (fun h=>eE b h A)
 generalize fS a=s at*
 generalize fS b=t at*
 clear z A
 go_enter Tryz.func276,Tryz.ntmps276
 go_wp2_with fail
 refine(uH D _).mono ?_
 rintro e G ⟨rfl,d⟩
 cases s
 ·go_wp2
  go_ret
  exact⟨rfl,d⟩
 ·go_wp2_with fail
  refine(uH F _).mono ?_
  rintro e H ⟨rfl,u⟩
  cases t
  ·go_wp2
   go_ret
   exact⟨rfl,d.trans (u.mono d.size)⟩
  ·go_wp2
   go_ret
   exact⟨rfl,d.trans (u.mono d.size)⟩
theorem Dt{w:World}{n:Bool}{a:Option Addr}{l c:Nat}{e m X:Int}(h:aC w (.agg #[.bool n,.slice a l c,.int .i64 e]) m X):((l:Int)==0)=decide (m=0):=by
 obtain⟨H,I,J,d,A,_,G,_,z,_⟩:=h.parts
 simp only[Value.agg.injEq,Array.mk.injEq,List.cons.injEq,Value.slice.injEq]at A
 have F:=A.2.1.2.1
 by_cases u:m=0
 ·have:d= []:=(aT d G).1 (by rw[z,u];rfl)
  rw[decide_eq_true u,F,this];rfl
 ·have:d.length≠0:=fun D=>by
   have:d= []:=List.length_eq_zero_iff.1 D
   rw[this]at z
   simp[aj]at z
   omega
  rw[decide_eq_false u];simp;omega
theorem uB(a b:Nat)(z1 z2 D F G:Int)(w:World)(o:Nat)
  (C1:∀z,Below w.heap.size w z→Calls Tryz.prog 168 #[.int .u64 a] z fun r A=>nF A r 0 z1 D∧Below z.heap.size z A)
  (C2:∀z,Below w.heap.size w z→Calls Tryz.prog 168 #[.int .u64 b] z fun r A=>nF A r 0 z2 F∧Below z.heap.size z A)
  (C3:∀z v u,Below w.heap.size w z→aC z v z1 D→aC z u z2 F→Calls Tryz.prog 275 #[v,u] z fun r A=>nF A r 0 0 G∧Below z.heap.size z A)
  (C4:∀z,Calls Tryz.prog 276 #[.int .u64 a,.int .u64 b] z fun r A=>r=.returned (.int .u64 (o:Nat))∧Below z.heap.size z A):
  Calls Tryz.prog 248 #[.int .u64 a,.int .u64 b] w fun r z=>r=.returned (.tuple #[.int .u64 (o:Nat),.int .u8 0])∧Below w.heap.size w z:=by
 have K1:=ac C1;have K2:=ac C2;have K3:=ac C3;have K4:=ac C4
 clear C1 C2 C3 C4
 go_enter Tryz.func248,Tryz.ntmps248
 go_wp2_with fail
 refine(uH K1 _ (Below.refl _ _)).mono ?_
 rintro e J ⟨⟨v,rfl,K⟩,h⟩
 obtain⟨n1,a1,c1,L1,rfl,i1⟩:=K
 have d:Below J.heap.size J (J.alloc (.cells #[.bool n1,.slice a1 L1.length c1,.int .i64 D] 35)):=(Below.refl _ _).alloc (Nat.le_refl _) _
 have HV:=ac ((show aC J (.agg #[.bool n1,.slice a1 L1.length c1,.int .i64 D]) z1 D from⟨n1,a1,c1,L1,rfl,i1⟩).below d)
 have X:=ac (al.new J (.bool n1) (.slice a1 L1.length c1) (.int .i64 D))
 have Q:=ac (h.trans (d.mono h.size))
 clear i1 h d K1
 go_wp2_with fail
 refine(uH K2 _ (uH Q)).mono ?_
 rintro e L ⟨⟨v,rfl,K⟩,h⟩
 obtain⟨n2,a2,c2,L2,rfl,i2⟩:=K
 have d:Below L.heap.size L (L.alloc (.cells #[.bool n2,.slice a2 L2.length c2,.int .i64 F] 35)):=(Below.refl _ _).alloc (Nat.le_refl _) _
 have HU:=ac ((show aC L (.agg #[.bool n2,.slice a2 L2.length c2,.int .i64 F]) z2 F from⟨n2,a2,c2,L2,rfl,i2⟩).below d)
 have H:=ac (((uH HV).below h).below d)
 have U:=((uH X).all h).all d
 have Y:=al.new L (.bool n2) (.slice a2 L2.length c2) (.int .i64 F)
 have Z:=ac ((uH Q).trans ((h.trans (d.mono h.size)).mono (uH Q).size))
 have y0:=U.c0;have y1:=U.c1;have y2:=U.c2;have u0:=Y.c0;have u1:=Y.c1;have u2:=Y.c2
 clear i2 h d K2 Q HV X U Y
 go_wp2_with fail
 refine(uH K3 _ _ _ (uH Z) (uH H) (uH HU)).mono ?_
 rintro e O ⟨⟨v,rfl,K⟩,h⟩
 clear y0 y1 y2 u0 u1 u2
 obtain⟨n3,a3,c3,I,rfl,i3⟩:=K
 have d:Below O.heap.size O (O.alloc (.cells #[.bool n3,.slice a3 I.length c3,.int .i64 G] 35)):=(Below.refl _ _).alloc (Nat.le_refl _) _
 have HX:=ac ((show aC O (.agg #[.bool n3,.slice a3 I.length c3,.int .i64 G]) 0 G from⟨n3,a3,c3,I,rfl,i3⟩).below d)
 have hl:=Dt (uH HX)
 rw[decide_eq_true rfl]at hl
 have B3:=ac ((uH Z).trans ((h.trans (d.mono h.size)).mono (uH Z).size))
 have x3:=al.new O (.bool n3) (.slice a3 I.length c3) (.int .i64 G)
 have y0:=x3.c0;have y1:=x3.c1;have y2:=x3.c2
 clear i3 h d K3 Z H HU x3
 generalize I.length=l3 at*
 go_wp2_with fail
 refine(uH K4 _).mono ?_
 rintro e w4 ⟨rfl,h⟩
 have B4:=ac ((uH B3).trans (h.mono (uH B3).size))
 clear h K4 B3
 go_wp2
 exact bodyPost_ret (v:=.tuple #[.int .u64 o,.int .u8 0]) (by simp[results,Tryz.results248,go_sem]) rfl ⟨rfl,uH B4⟩
theorem uC(a b:Nat)(z1 z2 Q D F G fl:Int)(w:World)(o:Nat)(h0:Q≠0)
  (C1:∀z,Below w.heap.size w z→Calls Tryz.prog 168 #[.int .u64 a] z fun r A=>nF A r 0 z1 D∧Below z.heap.size z A)
  (C2:∀z,Below w.heap.size w z→Calls Tryz.prog 168 #[.int .u64 b] z fun r A=>nF A r 0 z2 F∧Below z.heap.size z A)
  (C3:∀z v u,Below w.heap.size w z→aC z v z1 D→aC z u z2 F→Calls Tryz.prog 275 #[v,u] z fun r A=>nF A r 0 Q G∧Below z.heap.size z A)
  (C4:∀z v,Below w.heap.size w z→aC z v Q G→Calls Tryz.prog 229 #[v] z fun r A=>r=.returned (.tuple #[.int .u64 (o:Nat),.int .u8 fl,.int .i64 0])∧Below z.heap.size z A):
  Calls Tryz.prog 248 #[.int .u64 a,.int .u64 b] w fun r z=>r=.returned (.tuple #[.int .u64 (o:Nat),.int .u8 fl])∧Below w.heap.size w z:=by
 have K1:=ac C1;have K2:=ac C2;have K3:=ac C3;have K4:=ac C4
 clear C1 C2 C3 C4
 go_enter Tryz.func248,Tryz.ntmps248
 go_wp2_with fail
 refine(uH K1 _ (Below.refl _ _)).mono ?_
 rintro e J ⟨⟨v,rfl,K⟩,h⟩
 obtain⟨n1,a1,c1,L1,rfl,i1⟩:=K
 have d:Below J.heap.size J (J.alloc (.cells #[.bool n1,.slice a1 L1.length c1,.int .i64 D] 35)):=(Below.refl _ _).alloc (Nat.le_refl _) _
 have HV:=ac ((show aC J (.agg #[.bool n1,.slice a1 L1.length c1,.int .i64 D]) z1 D from⟨n1,a1,c1,L1,rfl,i1⟩).below d)
 have X:=ac (al.new J (.bool n1) (.slice a1 L1.length c1) (.int .i64 D))
 have U:=ac (h.trans (d.mono h.size))
 clear i1 h d K1
 go_wp2_with fail
 refine(uH K2 _ (uH U)).mono ?_
 rintro e L ⟨⟨v,rfl,K⟩,h⟩
 obtain⟨n2,a2,c2,L2,rfl,i2⟩:=K
 have d:Below L.heap.size L (L.alloc (.cells #[.bool n2,.slice a2 L2.length c2,.int .i64 F] 35)):=(Below.refl _ _).alloc (Nat.le_refl _) _
 have HU:=ac ((show aC L (.agg #[.bool n2,.slice a2 L2.length c2,.int .i64 F]) z2 F from⟨n2,a2,c2,L2,rfl,i2⟩).below d)
 have H:=ac (((uH HV).below h).below d)
 have Y:=((uH X).all h).all d
 have Z:=al.new L (.bool n2) (.slice a2 L2.length c2) (.int .i64 F)
 have B2:=ac ((uH U).trans ((h.trans (d.mono h.size)).mono (uH U).size))
 have y0:=Y.c0;have y1:=Y.c1;have y2:=Y.c2;have u0:=Z.c0;have u1:=Z.c1;have u2:=Z.c2
 clear i2 h d K2 U HV X Y Z
 go_wp2_with fail
 refine(uH K3 _ _ _ (uH B2) (uH H) (uH HU)).mono ?_
 rintro e O ⟨⟨v,rfl,K⟩,h⟩
 clear y0 y1 y2 u0 u1 u2
 obtain⟨n3,a3,c3,I,rfl,i3⟩:=K
 have d:Below O.heap.size O (O.alloc (.cells #[.bool n3,.slice a3 I.length c3,.int .i64 G] 35)):=(Below.refl _ _).alloc (Nat.le_refl _) _
 have HX:=ac ((show aC O (.agg #[.bool n3,.slice a3 I.length c3,.int .i64 G]) Q G from⟨n3,a3,c3,I,rfl,i3⟩).below d)
 have hl:=Dt (uH HX)
 rw[decide_eq_false h0]at hl
 have B3:=ac ((uH B2).trans ((h.trans (d.mono h.size)).mono (uH B2).size))
 have x3:=al.new O (.bool n3) (.slice a3 I.length c3) (.int .i64 G)
 have y0:=x3.c0;have y1:=x3.c1;have y2:=x3.c2
 clear i3 h d K3 B2 H HU x3
 generalize I.length=l3 at*
 go_wp2_with fail
 refine(uH K4 _ _ (uH B3) (uH HX)).mono ?_
 rintro e w4 ⟨rfl,h⟩
 have B4:=ac ((uH B3).trans (h.mono (uH B3).size))
 clear h K4 B3
 go_wp2
 exact bodyPost_ret (v:=.tuple #[.int .u64 o,.int .u8 fl]) (by simp[results,Tryz.results248,go_sem]) rfl ⟨rfl,uH B4⟩
theorem qj(a b:Nat)(w:World)(G:a<18446744073709551616)(H:b<18446744073709551616)(A:ai a=true)(D:ai b=true)(F:cr w):
  Calls Tryz.prog 248 #[.int .u64 a,.int .u64 b] w fun r d=>r=.returned (.tuple #[.int .u64 (aV a b:Nat),.int .u8 (aF a b)])∧Below w.heap.size w d:=by
 obtain⟨U,X⟩:fK a≠3∧fK a≠4:=by
  rcases gO a with⟨h,_⟩|⟨_,h⟩
  ·rw[A]at h;cases h
  ·omega
 obtain⟨Y,Z⟩:fK b≠3∧fK b≠4:=by
  rcases gO b with⟨h,_⟩|⟨_,h⟩
  ·rw[D]at h;cases h
  ·omega
 obtain⟨d1,d2⟩:=de a G A
 obtain⟨d3,d4⟩:=de b H D
 have J:=JO a b A D
 have L:∀d,Below w.heap.size w d→_:=fun d h=>dG a d G A (F.all h)
 have O:∀d,Below w.heap.size w d→_:=fun d h=>dG b d H D (F.all h)
 have K:∀d v u,Below w.heap.size w d→aC d v (fD a) (fX a)→aC d u (fD b) (fX b)→_:=fun d v u h I hu=>
  MV (W:=2099) (lo:=-1074) (z1:=fZ a) (z2:=fZ b) (by rw[d1,d2];exact I) (by rw[d3,d4];exact hu) (mJ a A) (mJ b D) J (F.all h)
 rw[(yq a b U X Y Z).1,(yq a b U X Y Z).2]
 by_cases z:aZ a b=0
 ·rw[if_pos z,if_pos z]
  have hz:fZ a+fZ b=0:=z
  rw[hz,aX]at K
  exact uB a b _ _ _ _ _ w _ L O K (fun d=>wW a b d G H)
 ·rw[if_neg z,if_neg z]
  have Q:∀d v,Below w.heap.size w d→aC d v (oM (aZ a b)) (oE (aZ a b) (-1074))→_:=fun d v h I=>jw I J.right.2 J.right.1 (F.all h)
  rw[(jU (aZ a b) (-1074)).1,jT]at Q
  exact uC a b _ _ _ _ _ _ _ w _ (fH _ z).1 L O K Q
theorem GF(a b:Nat)(H:Int)(w:World)
  (A:∀d,Calls Tryz.prog 164 #[.int .u64 a] d fun r h=>r=.returned (.int .i64 4)∧Below d.heap.size d h)
  (D:∀d,Calls Tryz.prog 164 #[.int .u64 b] d fun r h=>r=.returned (.int .i64 H)∧Below d.heap.size d h):
  Calls Tryz.prog 215 #[.int .u64 a,.int .u64 b] w fun r d=>r=.returned (.tuple #[.int .u64 9221120237041090560,.int .u8 0])∧Below w.heap.size w d:=by
 have F:=ac A;have G:=ac D
 clear A D
 go_enter Tryz.func215,Tryz.ntmps215
 go_wp2_with fail
 refine(uH F _).mono ?_
 rintro e I ⟨rfl,u⟩
 go_wp2_with fail
 refine(uH G _).mono ?_
 rintro e J ⟨rfl,z⟩
 have B:=ac (u.trans (z.mono u.size))
 clear u z F G
 go_wp2
 exact bodyPost_ret (v:=.tuple #[.int .u64 9221120237041090560,.int .u8 0]) (by simp[results,Tryz.results215,go_sem]) rfl ⟨rfl,uH B⟩
theorem GG(a b:Nat)(A:Int)(w:World)(I:(A==4)=false)
  (D:∀d,Calls Tryz.prog 164 #[.int .u64 a] d fun r h=>r=.returned (.int .i64 A)∧Below d.heap.size d h)
  (F:∀d,Calls Tryz.prog 164 #[.int .u64 b] d fun r h=>r=.returned (.int .i64 4)∧Below d.heap.size d h):
  Calls Tryz.prog 215 #[.int .u64 a,.int .u64 b] w fun r d=>r=.returned (.tuple #[.int .u64 9221120237041090560,.int .u8 0])∧Below w.heap.size w d:=by
 have G:=ac D;have H:=ac F
 clear D F
 go_enter Tryz.func215,Tryz.ntmps215
 go_wp2_with fail
 refine(uH G _).mono ?_
 rintro e J ⟨rfl,u⟩
 go_wp2_with fail
 refine(uH H _).mono ?_
 rintro e K ⟨rfl,z⟩
 have B:=ac (u.trans (z.mono u.size))
 clear u z G H
 go_wp2
 exact bodyPost_ret (v:=.tuple #[.int .u64 9221120237041090560,.int .u8 0]) (by simp[results,Tryz.results215,go_sem]) rfl ⟨rfl,uH B⟩
theorem GH(a b:Nat)(w:World)(H:((a:Int)==(b:Int))=false)
  (A:∀d,Calls Tryz.prog 164 #[.int .u64 a] d fun r h=>r=.returned (.int .i64 3)∧Below d.heap.size d h)
  (D:∀d,Calls Tryz.prog 164 #[.int .u64 b] d fun r h=>r=.returned (.int .i64 3)∧Below d.heap.size d h):
  Calls Tryz.prog 215 #[.int .u64 a,.int .u64 b] w fun r d=>r=.returned (.tuple #[.int .u64 9221120237041090560,.int .u8 16])∧Below w.heap.size w d:=by
 have F:=ac A;have G:=ac D
 clear A D
 go_enter Tryz.func215,Tryz.ntmps215
 go_wp2_with fail
 refine(uH F _).mono ?_
 rintro e I ⟨rfl,u⟩
 go_wp2_with fail
 refine(uH G _).mono ?_
 rintro e J ⟨rfl,z⟩
 have B:=ac (u.trans (z.mono u.size))
 clear u z F G
 go_wp2
 exact bodyPost_ret (v:=.tuple #[.int .u64 9221120237041090560,.int .u8 16]) (by simp[results,Tryz.results215,go_sem]) rfl ⟨rfl,uH B⟩
theorem GI(a b:Nat)(w:World)(H:((a:Int)==(b:Int))=true)
  (A:∀d,Calls Tryz.prog 164 #[.int .u64 a] d fun r h=>r=.returned (.int .i64 3)∧Below d.heap.size d h)
  (D:∀d,Calls Tryz.prog 164 #[.int .u64 b] d fun r h=>r=.returned (.int .i64 3)∧Below d.heap.size d h):
  Calls Tryz.prog 215 #[.int .u64 a,.int .u64 b] w fun r d=>r=.returned (.tuple #[.int .u64 a,.int .u8 0])∧Below w.heap.size w d:=by
 have F:=ac A;have G:=ac D
 clear A D
 go_enter Tryz.func215,Tryz.ntmps215
 go_wp2_with fail
 refine(uH F _).mono ?_
 rintro e I ⟨rfl,u⟩
 go_wp2_with fail
 refine(uH G _).mono ?_
 rintro e J ⟨rfl,z⟩
 have B:=ac (u.trans (z.mono u.size))
 clear u z F G
 go_wp2
 exact bodyPost_ret (v:=.tuple #[.int .u64 a,.int .u8 0]) (by simp[results,Tryz.results215,go_sem]) rfl ⟨rfl,uH B⟩
theorem Ka(a b:Nat)(A:Int)(w:World)(I:(A==4)=false)(J:(A==3)=false)
  (D:∀d,Calls Tryz.prog 164 #[.int .u64 a] d fun r h=>r=.returned (.int .i64 3)∧Below d.heap.size d h)
  (F:∀d,Calls Tryz.prog 164 #[.int .u64 b] d fun r h=>r=.returned (.int .i64 A)∧Below d.heap.size d h):
  Calls Tryz.prog 215 #[.int .u64 a,.int .u64 b] w fun r d=>r=.returned (.tuple #[.int .u64 a,.int .u8 0])∧Below w.heap.size w d:=by
 have G:=ac D;have H:=ac F
 clear D F
 go_enter Tryz.func215,Tryz.ntmps215
 go_wp2_with fail
 refine(uH G _).mono ?_
 rintro e K ⟨rfl,u⟩
 go_wp2_with fail
 refine(uH H _).mono ?_
 rintro e L ⟨rfl,z⟩
 have B:=ac (u.trans (z.mono u.size))
 clear u z G H
 go_wp2
 exact bodyPost_ret (v:=.tuple #[.int .u64 a,.int .u8 0]) (by simp[results,Tryz.results215,go_sem]) rfl ⟨rfl,uH B⟩
theorem Kb(a b:Nat)(A:Int)(w:World)(I:(A==4)=false)(J:(A==3)=false)
  (D:∀d,Calls Tryz.prog 164 #[.int .u64 a] d fun r h=>r=.returned (.int .i64 A)∧Below d.heap.size d h)
  (F:∀d,Calls Tryz.prog 164 #[.int .u64 b] d fun r h=>r=.returned (.int .i64 3)∧Below d.heap.size d h):
  Calls Tryz.prog 215 #[.int .u64 a,.int .u64 b] w fun r d=>r=.returned (.tuple #[.int .u64 b,.int .u8 0])∧Below w.heap.size w d:=by
 have G:=ac D;have H:=ac F
 clear D F
 go_enter Tryz.func215,Tryz.ntmps215
 go_wp2_with fail
 refine(uH G _).mono ?_
 rintro e K ⟨rfl,u⟩
 go_wp2_with fail
 refine(uH H _).mono ?_
 rintro e L ⟨rfl,z⟩
 have B:=ac (u.trans (z.mono u.size))
 clear u z G H
 go_wp2
 exact bodyPost_ret (v:=.tuple #[.int .u64 b,.int .u8 0]) (by simp[results,Tryz.results215,go_sem]) rfl ⟨rfl,uH B⟩
theorem Kc(a b:Nat)(D F G:Int)(o:Nat)(w:World)(X:(D==4)=false)(Y:(D==3)=false)(Z:(F==4)=false)(h4:(F==3)=false)(H:cr w)
  (I:∀d,cr d→Calls Tryz.prog 248 #[.int .u64 a,.int .u64 b] d fun r h=>r=.returned (.tuple #[.int .u64 (o:Nat),.int .u8 G])∧Below d.heap.size d h)
  (J:∀d,Calls Tryz.prog 164 #[.int .u64 a] d fun r h=>r=.returned (.int .i64 D)∧Below d.heap.size d h)
  (K:∀d,Calls Tryz.prog 164 #[.int .u64 b] d fun r h=>r=.returned (.int .i64 F)∧Below d.heap.size d h):
  Calls Tryz.prog 215 #[.int .u64 a,.int .u64 b] w fun r d=>r=.returned (.tuple #[.int .u64 (o:Nat),.int .u8 G])∧Below w.heap.size w d:=by
 have L:=ac J;have O:=ac K
 clear J K
 go_enter Tryz.func215,Tryz.ntmps215
 go_wp2_with fail
 refine(uH L _).mono ?_
 rintro e w1 ⟨rfl,u⟩
 go_wp2_with fail
 refine(uH O _).mono ?_
 rintro e w2 ⟨rfl,z⟩
 have B:=ac (u.trans (z.mono u.size))
 clear u z L O
 have Q:=ac I;have U:=ac (H.all (uH B))
 clear I H
 go_wp2_with fail
 refine(uH Q _ (uH U)).mono ?_
 rintro e w3 ⟨rfl,A⟩
 have B:=ac ((uH B).trans (A.mono (uH B).size))
 clear A Q U
 go_wp2
 exact bodyPost_ret (v:=.tuple #[.int .u64 (o:Nat),.int .u8 G]) (by simp[results,Tryz.results215,go_sem]) rfl ⟨rfl,uH B⟩
theorem uD(a b:Nat)(w:World)(L:a<18446744073709551616)(O:b<18446744073709551616)(Q:cr w):
  Calls Tryz.prog 215 #[.int .u64 a,.int .u64 b] w fun r I=>r=.returned (.tuple #[.int .u64 (aV a b:Nat),.int .u8 (aF a b)])∧Below w.heap.size w I:=by
 have z:=fun I=>cZ a I L
 have A:=fun I=>cZ b I O
 by_cases J:fK a=4
 ·have D:aV a b=9221120237041090560:=by unfold aV;rw[if_pos (Or.inl J)]
  have F:aF a b=0:=by unfold aF;rw[if_pos (Or.inl J)]
  rw[D,F]
  rw[J]at z
  exact GF a b _ w z A
 by_cases K:fK b=4
 ·have D:aV a b=9221120237041090560:=by unfold aV;rw[if_pos (Or.inr K)]
  have F:aF a b=0:=by unfold aF;rw[if_pos (Or.inr K)]
  rw[D,F]
  rw[K]at A
  exact GG a b _ w (by simp[J]) z A
 have H:¬(fK a=4∨fK b=4):=by omega
 by_cases d:fK a=3
 ·by_cases u:fK b=3
  ·by_cases G:a=b
   ·have D:aV a b=a:=by unfold aV;rw[if_neg H,if_pos d,if_neg (fun h=>h.2 G)]
    have F:aF a b=0:=by unfold aF;rw[if_neg H,if_pos d,if_neg (fun h=>h.2 G)]
    rw[D,F]
    rw[d]at z
    rw[u]at A
    exact GI a b w (by simp[G]) z A
   ·have D:aV a b=9221120237041090560:=by unfold aV;rw[if_neg H,if_pos d,if_pos ⟨u,G⟩]
    have F:aF a b=16:=by unfold aF;rw[if_neg H,if_pos d,if_pos ⟨u,G⟩]
    rw[D,F]
    rw[d]at z
    rw[u]at A
    exact GH a b w (by simp;omega) z A
  ·have D:aV a b=a:=by unfold aV;rw[if_neg H,if_pos d,if_neg (fun h=>u h.1)]
   have F:aF a b=0:=by unfold aF;rw[if_neg H,if_pos d,if_neg (fun h=>u h.1)]
   rw[D,F]
   rw[d]at z
   exact Ka a b _ w (by simp[K]) (by simp[u]) z A
 ·by_cases u:fK b=3
  ·have D:aV a b=b:=by unfold aV;rw[if_neg H,if_neg d,if_pos u]
   have F:aF a b=0:=by unfold aF;rw[if_neg H,if_neg d,if_pos u]
   rw[D,F]
   rw[u]at A
   exact Kb a b _ w (by simp[J]) (by simp[d]) z A
  ·exact Kc a b _ _ _ _ w (by simp[J]) (by simp[d]) (by simp[K]) (by simp[u]) Q (fun I t=>qj a b I L O (et a d J) (et b u K) t) z A
theorem Du(a b:Nat)(w:World)(z:a<18446744073709551616)(h:b<18446744073709551616)(A:cr w):
  Calls Tryz.prog 182 #[.int .u64 a,.int .u64 b] w fun r u=>r=.returned (.tuple #[.int .u64 (aV a (fN b):Nat),.int .u8 (aF a (fN b))])∧Below w.heap.size w u:=by
 have D:=ac (fun u=>fU b u h)
 have F:=ac (uD a (fN b) w z (oD b h) A)
 clear z h A
 generalize aV a (fN b)=o at*
 generalize aF a (fN b)=G at*
 go_enter Tryz.func182,Tryz.ntmps182
 go_wp2_with fail
 refine(uH D _).mono ?_
 rintro e H ⟨rfl,rfl⟩
 go_wp2_with fail
 refine Calls.mono (uH F) ?_
 rintro e I ⟨rfl,d⟩
 have B:=ac d
 clear d D F
 go_wp2
 exact bodyPost_ret (v:=.tuple #[.int .u64 o,.int .u8 G]) (by simp[results,Tryz.results182,go_sem]) rfl ⟨rfl,uH B⟩
theorem yK{w:World}{v u:Value}{lo:Int}{W:Nat}{z1 z2:Int}(hv:aC w v (oM z1) (oE z1 lo))(hu:aC w u (oM z2) (oE z2 lo))(z:fv lo W z1)(D:fv lo W z2):
  Calls Tryz.prog 19 #[v,u] w fun r H=>∃q,r=.returned q∧aC H q (oM (z1+z2)) (oE (z1+z2) lo)∧Below w.heap.size w H:=by
 obtain⟨K,L,O,A,rfl,Q,U,d,a4,a5⟩:=hv.right z.right.2
 obtain⟨X,Y,cb,B,rfl,b1,b2,h,b4,b5⟩:=hu.right D.right.2
 have x1:=o9 z.right.1
 have x2:=o9 D.right.1
 have t1:=z.tops
 have t2:=D.tops
 by_cases I:z1=0∧z2=0
 ·obtain⟨rfl,rfl⟩:=I
  rw[aX]at d h
  rw[bf]at*
  have eZ:cV 0 0 0 0=0:=by decide
  have J:eh 0 0 (bP 0 0 0 0)=0:=dW _ _ _ (by rw[ei];exact iV) (by decide)
  have:=oX K X L Y O cb A B 0 0 w Q b1 U b2 (by omega) (by omega) (by rw[d,h];exact J) (by rw[d,h];exact J)
  rw[d,h,eZ,aX,bf]at this
  simpa[aX,bf]using this
 ·obtain⟨k,F,e2,e3,e4,e5⟩:=mI z D I
  have g1:eh (oM z1) (oE z1 lo) (lo+k)=0:=dW _ _ _ (Nat.lt_of_le_of_lt (jV e2) t1) e4
  have g2:eh (oM z2) (oE z2 lo) (lo+k)=0:=dW _ _ _ (Nat.lt_of_le_of_lt (jV e3) t2) e5
  have:=oX K X L Y O cb A B _ _ w Q b1 U b2 x1 x2 (by rw[d,h,F];exact g1) (by rw[d,h,F];exact g2)
  rw[d,h,F]at this
  have hZ:cV (oM z1) (oE z1 lo) (oM z2) (oE z2 lo)*2^k=z1+z2:=by
   unfold cV
   rw[F,Int.add_mul,e2,e3]
  generalize cV (oM z1) (oE z1 lo) (oM z2) (oE z2 lo)=Z at*
  have G:=gu Z k lo
  rw[hZ]at G
  rw[G.1,G.2]
  exact this
theorem rX(z a b:Nat)(s t:Bool)(o:Nat)(w:World)
  (D:∀d,Calls Tryz.prog 161 #[.int .u64 a] d fun r h=>r=.returned (.bool s)∧Below d.heap.size d h)
  (F:∀d,Calls Tryz.prog 161 #[.int .u64 b] d fun r h=>r=.returned (.bool t)∧Below d.heap.size d h)
  (G:∀d,Calls Tryz.prog 162 #[.int .u64 z] d fun r h=>r=.returned (.int .u64 (o:Nat))∧d=h):
  Calls Tryz.prog 262 #[.int .u64 z,.int .u64 a,.int .u64 b] w fun r d=>r=.returned (.int .u64 ((if(s^^t)=true then o else z:Nat):Int))∧Below w.heap.size w d:=by
 have H:=ac D;have I:=ac F;have J:=ac G
 clear D F G
 go_enter Tryz.func262,Tryz.ntmps262
 go_wp2_with fail
 refine(uH H _).mono ?_
 rintro e L ⟨rfl,u⟩
 go_wp2_with fail
 refine(uH I _).mono ?_
 rintro e O ⟨rfl,A⟩
 have B:=ac (u.trans (A.mono u.size))
 clear u A H I
 cases s<;>cases t
 ·go_wp2
  go_ret
  exact⟨rfl,uH B⟩
 ·go_wp2_with fail
  refine(uH J _).mono ?_
  rintro e K ⟨rfl,rfl⟩
  go_wp2
  go_ret
  exact⟨rfl,uH B⟩
 ·go_wp2_with fail
  refine(uH J _).mono ?_
  rintro e K ⟨rfl,rfl⟩
  go_wp2
  go_ret
  exact⟨rfl,uH B⟩
 ·go_wp2
  go_ret
  exact⟨rfl,uH B⟩
theorem gx(z a b:Nat)(w:World)(u:a<18446744073709551616)(A:b<18446744073709551616)(D:z<9223372036854775808):
  Calls Tryz.prog 262 #[.int .u64 z,.int .u64 a,.int .u64 b] w fun r d=>r=.returned (.int .u64 (gJ (fS a^^fS b) z:Nat))∧Below w.heap.size w d:=by
 have h:=rX z a b (fS a) (fS b) (fN z) w (fun d=>eE a d u) (fun d=>eE b d A) (fun d=>fU z d (by omega))
 have e:(if(fS a^^fS b)=true then fN z else z:Nat)=gJ (fS a^^fS b) z:=by
  cases (fS a^^fS b)
  ·rw[bQ];rfl
  ·rw[←Ct z D];rfl
 rwa[e]at h
theorem uE(a b:Nat)(z1 z2 z3 D F G fl:Int)(w:World)(o:Nat)
  (C1:∀z,Below w.heap.size w z→Calls Tryz.prog 168 #[.int .u64 a] z fun r A=>nF A r 0 z1 D∧Below z.heap.size z A)
  (C2:∀z,Below w.heap.size w z→Calls Tryz.prog 168 #[.int .u64 b] z fun r A=>nF A r 0 z2 F∧Below z.heap.size z A)
  (C3:∀z v u,Below w.heap.size w z→aC z v z1 D→aC z u z2 F→Calls Tryz.prog 282 #[v,u] z fun r A=>nF A r 0 z3 G∧Below z.heap.size z A)
  (C4:∀z v,Below w.heap.size w z→aC z v z3 G→Calls Tryz.prog 229 #[v] z fun r A=>r=.returned (.tuple #[.int .u64 (o:Nat),.int .u8 fl,.int .i64 0])∧Below z.heap.size z A):
  Calls Tryz.prog 263 #[.int .u64 a,.int .u64 b] w fun r z=>r=.returned (.tuple #[.int .u64 (o:Nat),.int .u8 fl])∧Below w.heap.size w z:=by
 have K1:=ac C1;have K2:=ac C2;have K3:=ac C3;have K4:=ac C4
 clear C1 C2 C3 C4
 go_enter Tryz.func263,Tryz.ntmps263
 go_wp2_with fail
 refine(uH K1 _ (Below.refl _ _)).mono ?_
 rintro e J ⟨⟨v,rfl,K⟩,h⟩
 obtain⟨n1,a1,c1,L1,rfl,i1⟩:=K
 have d:Below J.heap.size J (J.alloc (.cells #[.bool n1,.slice a1 L1.length c1,.int .i64 D] 35)):=(Below.refl _ _).alloc (Nat.le_refl _) _
 have HV:=ac ((show aC J (.agg #[.bool n1,.slice a1 L1.length c1,.int .i64 D]) z1 D from⟨n1,a1,c1,L1,rfl,i1⟩).below d)
 have X:=ac (al.new J (.bool n1) (.slice a1 L1.length c1) (.int .i64 D))
 have Q:=ac (h.trans (d.mono h.size))
 clear i1 h d K1
 go_wp2_with fail
 refine(uH K2 _ (uH Q)).mono ?_
 rintro e L ⟨⟨v,rfl,K⟩,h⟩
 obtain⟨n2,a2,c2,L2,rfl,i2⟩:=K
 have d:Below L.heap.size L (L.alloc (.cells #[.bool n2,.slice a2 L2.length c2,.int .i64 F] 35)):=(Below.refl _ _).alloc (Nat.le_refl _) _
 have HU:=ac ((show aC L (.agg #[.bool n2,.slice a2 L2.length c2,.int .i64 F]) z2 F from⟨n2,a2,c2,L2,rfl,i2⟩).below d)
 have H:=ac (((uH HV).below h).below d)
 have U:=((uH X).all h).all d
 have Y:=al.new L (.bool n2) (.slice a2 L2.length c2) (.int .i64 F)
 have Z:=ac ((uH Q).trans ((h.trans (d.mono h.size)).mono (uH Q).size))
 have y0:=U.c0;have y1:=U.c1;have y2:=U.c2;have u0:=Y.c0;have u1:=Y.c1;have u2:=Y.c2
 clear i2 h d K2 Q HV X U Y
 go_wp2_with fail
 refine(uH K3 _ _ _ (uH Z) (uH H) (uH HU)).mono ?_
 rintro e O ⟨⟨v,rfl,K⟩,h⟩
 clear y0 y1 y2 u0 u1 u2
 obtain⟨n3,a3,c3,I,rfl,i3⟩:=K
 have d:Below O.heap.size O (O.alloc (.cells #[.bool n3,.slice a3 I.length c3,.int .i64 G] 35)):=(Below.refl _ _).alloc (Nat.le_refl _) _
 have HX:=ac ((show aC O (.agg #[.bool n3,.slice a3 I.length c3,.int .i64 G]) z3 G from⟨n3,a3,c3,I,rfl,i3⟩).below d)
 have B3:=ac ((uH Z).trans ((h.trans (d.mono h.size)).mono (uH Z).size))
 have x3:=al.new O (.bool n3) (.slice a3 I.length c3) (.int .i64 G)
 have y0:=x3.c0;have y1:=x3.c1;have y2:=x3.c2
 clear i3 h d K3 Z H HU x3
 generalize I.length=l3 at*
 go_wp2_with fail
 refine(uH K4 _ _ (uH B3) (uH HX)).mono ?_
 rintro e w4 ⟨rfl,h⟩
 have B4:=ac ((uH B3).trans (h.mono (uH B3).size))
 clear h K4 B3
 go_wp2
 exact bodyPost_ret (v:=.tuple #[.int .u64 o,.int .u8 fl]) (by simp[results,Tryz.results263,go_sem]) rfl ⟨rfl,uH B4⟩
theorem Mn:(2:Nat)^2098*2^2098=2^4196:=by decide+kernel
theorem Kd(a b:Nat)(d:ai a=true)(h:ai b=true):fv (-1074+-1074) 4196 (fZ a*fZ b):=by
 have u:=fi a d
 have z:=fi b h
 refine⟨?_,by decide,by decide,by decide⟩
 have A:=Mn
 have D:=Nat.two_pow_pos 2098
 rw[Int.natAbs_mul]
 generalize (2:Nat)^4196=P at*
 generalize (2:Nat)^2098=Q at*
 rw[←A]
 exact Nat.mul_lt_mul_of_lt_of_le u (Nat.le_of_lt z) D
theorem wX(b:Nat)(d:fK b≠0):fZ b≠0∧decide (fZ b<0)=fS b:=by
 have h:rv (fR b)≠0:=fun e=>d ((cs b).2 ((mK _).1 e))
 unfold fZ pv
 cases fS b
 ·simp only[Bool.false_eq_true,if_false]
  exact⟨by omega,decide_eq_false (by omega)⟩
 ·simp only[if_true]
  exact⟨by omega,decide_eq_true (by omega)⟩
theorem Ke(a b:Nat)(A:fK a≠0)(D:fK b≠0):fZ a*fZ b≠0∧decide (fZ a*fZ b<0)=(fS a^^fS b):=by
 obtain⟨u,F⟩:=wX a A
 obtain⟨z,G⟩:=wX b D
 refine⟨Int.mul_ne_zero u z,?_⟩
 rw[←F,←G]
 generalize fZ a=x at*
 generalize fZ b=y at*
 rcases Int.lt_or_gt_of_ne u with d|d<;>rcases Int.lt_or_gt_of_ne z with h|h
 ·have:=Int.mul_pos_of_neg_of_neg d h
  rw[decide_eq_true d,decide_eq_true h,decide_eq_false (by omega)];rfl
 ·have:=Int.mul_neg_of_neg_of_pos d h
  rw[decide_eq_true d,decide_eq_false (show¬y<0 by omega),decide_eq_true this];rfl
 ·have:=Int.mul_neg_of_pos_of_neg d h
  rw[decide_eq_false (show¬x<0 by omega),decide_eq_true h,decide_eq_true this];rfl
 ·have:=Int.mul_pos d h
  rw[decide_eq_false (show¬x<0 by omega),decide_eq_false (show¬y<0 by omega),decide_eq_false (show¬x*y<0 by omega)];rfl
theorem qk(a b:Nat)(w:World)(J:a<18446744073709551616)(K:b<18446744073709551616)(z:ai a=true)(A:ai b=true)(F:fK a≠0)(G:fK b≠0)(D:cr w):
  Calls Tryz.prog 263 #[.int .u64 a,.int .u64 b] w fun r d=>r=.returned (.tuple #[.int .u64 (mV a b:Nat),.int .u8 (mF a b)])∧Below w.heap.size w d:=by
 obtain⟨Y,Z⟩:=de a J z
 obtain⟨d3,d4⟩:=de b K A
 have I:=Kd a b z A
 obtain⟨z0,z1⟩:=Ke a b F G
 have Q:∀d,Below w.heap.size w d→_:=fun d h=>dG a d J z (D.all h)
 have U:∀d,Below w.heap.size w d→_:=fun d h=>dG b d K A (D.all h)
 have X:∀d v u,Below w.heap.size w d→aC d v (fD a) (fX a)→aC d u (fD b) (fX b)→_:=fun d v u h H O=>
  MX (W1:=2099) (W2:=2099) (W:=4196) (lo1:=-1074) (lo2:=-1074) (z1:=fZ a) (z2:=fZ b) (by rw[Y,Z];exact H) (by rw[d3,d4];exact O) (mJ a z) (mJ b A) I (D.all h)
 rw[(wL a b z A F G).1,(wL a b z A F G).2]
 have L:∀d v,Below w.heap.size w d→aC d v (oM (fZ a*fZ b)) (oE (fZ a*fZ b) (-1074+-1074))→_:=fun d v h H=>jw H I.right.2 I.right.1 (D.all h)
 rw[(jU (fZ a*fZ b) (-1074+-1074)).1,jT,z1,Int.natAbs_mul,f9,f9]at L
 exact uE a b _ _ _ _ _ _ _ w _ Q U X L
theorem GJ(a b:Nat)(H:Int)(w:World)
  (A:∀d,Calls Tryz.prog 164 #[.int .u64 a] d fun r h=>r=.returned (.int .i64 4)∧Below d.heap.size d h)
  (D:∀d,Calls Tryz.prog 164 #[.int .u64 b] d fun r h=>r=.returned (.int .i64 H)∧Below d.heap.size d h):
  Calls Tryz.prog 232 #[.int .u64 a,.int .u64 b] w fun r d=>r=.returned (.tuple #[.int .u64 9221120237041090560,.int .u8 0])∧Below w.heap.size w d:=by
 have F:=ac A;have G:=ac D
 clear A D
 go_enter Tryz.func232,Tryz.ntmps232
 go_wp2_with fail
 refine(uH F _).mono ?_
 rintro e I ⟨rfl,u⟩
 go_wp2_with fail
 refine(uH G _).mono ?_
 rintro e J ⟨rfl,z⟩
 have B:=ac (u.trans (z.mono u.size))
 clear u z F G
 go_wp2
 exact bodyPost_ret (v:=.tuple #[.int .u64 9221120237041090560,.int .u8 0]) (by simp[results,Tryz.results232,go_sem]) rfl ⟨rfl,uH B⟩
theorem GK(a b:Nat)(A:Int)(w:World)(I:(A==4)=false)
  (D:∀d,Calls Tryz.prog 164 #[.int .u64 a] d fun r h=>r=.returned (.int .i64 A)∧Below d.heap.size d h)
  (F:∀d,Calls Tryz.prog 164 #[.int .u64 b] d fun r h=>r=.returned (.int .i64 4)∧Below d.heap.size d h):
  Calls Tryz.prog 232 #[.int .u64 a,.int .u64 b] w fun r d=>r=.returned (.tuple #[.int .u64 9221120237041090560,.int .u8 0])∧Below w.heap.size w d:=by
 have G:=ac D;have H:=ac F
 clear D F
 go_enter Tryz.func232,Tryz.ntmps232
 go_wp2_with fail
 refine(uH G _).mono ?_
 rintro e J ⟨rfl,u⟩
 go_wp2_with fail
 refine(uH H _).mono ?_
 rintro e K ⟨rfl,z⟩
 have B:=ac (u.trans (z.mono u.size))
 clear u z G H
 go_wp2
 exact bodyPost_ret (v:=.tuple #[.int .u64 9221120237041090560,.int .u8 0]) (by simp[results,Tryz.results232,go_sem]) rfl ⟨rfl,uH B⟩
theorem GL(a b:Nat)(w:World)
  (A:∀d,Calls Tryz.prog 164 #[.int .u64 a] d fun r h=>r=.returned (.int .i64 3)∧Below d.heap.size d h)
  (D:∀d,Calls Tryz.prog 164 #[.int .u64 b] d fun r h=>r=.returned (.int .i64 0)∧Below d.heap.size d h):
  Calls Tryz.prog 232 #[.int .u64 a,.int .u64 b] w fun r d=>r=.returned (.tuple #[.int .u64 9221120237041090560,.int .u8 16])∧Below w.heap.size w d:=by
 have F:=ac A;have G:=ac D
 clear A D
 go_enter Tryz.func232,Tryz.ntmps232
 go_wp2_with fail
 refine(uH F _).mono ?_
 rintro e H ⟨rfl,u⟩
 go_wp2_with fail
 refine(uH G _).mono ?_
 rintro e I ⟨rfl,z⟩
 have B:=ac (u.trans (z.mono u.size))
 clear u z F G
 go_wp2
 exact bodyPost_ret (v:=.tuple #[.int .u64 9221120237041090560,.int .u8 16]) (by simp[results,Tryz.results232,go_sem]) rfl ⟨rfl,uH B⟩
theorem GM(a b:Nat)(w:World)
  (A:∀d,Calls Tryz.prog 164 #[.int .u64 a] d fun r h=>r=.returned (.int .i64 0)∧Below d.heap.size d h)
  (D:∀d,Calls Tryz.prog 164 #[.int .u64 b] d fun r h=>r=.returned (.int .i64 3)∧Below d.heap.size d h):
  Calls Tryz.prog 232 #[.int .u64 a,.int .u64 b] w fun r d=>r=.returned (.tuple #[.int .u64 9221120237041090560,.int .u8 16])∧Below w.heap.size w d:=by
 have F:=ac A;have G:=ac D
 clear A D
 go_enter Tryz.func232,Tryz.ntmps232
 go_wp2_with fail
 refine(uH F _).mono ?_
 rintro e H ⟨rfl,u⟩
 go_wp2_with fail
 refine(uH G _).mono ?_
 rintro e I ⟨rfl,z⟩
 have B:=ac (u.trans (z.mono u.size))
 clear u z F G
 go_wp2
 exact bodyPost_ret (v:=.tuple #[.int .u64 9221120237041090560,.int .u8 16]) (by simp[results,Tryz.results232,go_sem]) rfl ⟨rfl,uH B⟩
theorem Kf(a b:Nat)(D:Int)(o:Nat)(w:World)(L:(D==4)=false)(O:(D==0)=false)
  (F:∀d,Calls Tryz.prog 164 #[.int .u64 a] d fun r h=>r=.returned (.int .i64 3)∧Below d.heap.size d h)
  (G:∀d,Calls Tryz.prog 164 #[.int .u64 b] d fun r h=>r=.returned (.int .i64 D)∧Below d.heap.size d h)
  (H:∀d,Calls Tryz.prog 262 #[.int .u64 9218868437227405312,.int .u64 a,.int .u64 b] d fun r h=>r=.returned (.int .u64 (o:Nat))∧Below d.heap.size d h):
  Calls Tryz.prog 232 #[.int .u64 a,.int .u64 b] w fun r d=>r=.returned (.tuple #[.int .u64 (o:Nat),.int .u8 0])∧Below w.heap.size w d:=by
 have I:=ac F;have J:=ac G
 clear F G
 go_enter Tryz.func232,Tryz.ntmps232
 go_wp2_with fail
 refine(uH I _).mono ?_
 rintro e Q ⟨rfl,u⟩
 go_wp2_with fail
 refine(uH J _).mono ?_
 rintro e U ⟨rfl,z⟩
 have B:=ac (u.trans (z.mono u.size))
 clear u z I J
 have K:=ac H
 clear H
 go_wp2_with fail
 refine(uH K _).mono ?_
 rintro e X ⟨rfl,A⟩
 have B:=ac ((uH B).trans (A.mono (uH B).size))
 clear A K
 go_wp2
 exact bodyPost_ret (v:=.tuple #[.int .u64 (o:Nat),.int .u8 0]) (by simp[results,Tryz.results232,go_sem]) rfl ⟨rfl,uH B⟩
theorem Kg(a b:Nat)(D:Int)(o:Nat)(w:World)(L:(D==4)=false)(O:(D==0)=false)(Q:(D==3)=false)
  (F:∀d,Calls Tryz.prog 164 #[.int .u64 a] d fun r h=>r=.returned (.int .i64 D)∧Below d.heap.size d h)
  (G:∀d,Calls Tryz.prog 164 #[.int .u64 b] d fun r h=>r=.returned (.int .i64 3)∧Below d.heap.size d h)
  (H:∀d,Calls Tryz.prog 262 #[.int .u64 9218868437227405312,.int .u64 a,.int .u64 b] d fun r h=>r=.returned (.int .u64 (o:Nat))∧Below d.heap.size d h):
  Calls Tryz.prog 232 #[.int .u64 a,.int .u64 b] w fun r d=>r=.returned (.tuple #[.int .u64 (o:Nat),.int .u8 0])∧Below w.heap.size w d:=by
 have I:=ac F;have J:=ac G
 clear F G
 go_enter Tryz.func232,Tryz.ntmps232
 go_wp2_with fail
 refine(uH I _).mono ?_
 rintro e U ⟨rfl,u⟩
 go_wp2_with fail
 refine(uH J _).mono ?_
 rintro e X ⟨rfl,z⟩
 have B:=ac (u.trans (z.mono u.size))
 clear u z I J
 have K:=ac H
 clear H
 go_wp2_with fail
 refine(uH K _).mono ?_
 rintro e Y ⟨rfl,A⟩
 have B:=ac ((uH B).trans (A.mono (uH B).size))
 clear A K
 go_wp2
 exact bodyPost_ret (v:=.tuple #[.int .u64 (o:Nat),.int .u8 0]) (by simp[results,Tryz.results232,go_sem]) rfl ⟨rfl,uH B⟩
theorem Kh(a b:Nat)(D:Int)(o:Nat)(w:World)(L:(D==4)=false)(O:(D==3)=false)
  (F:∀d,Calls Tryz.prog 164 #[.int .u64 a] d fun r h=>r=.returned (.int .i64 0)∧Below d.heap.size d h)
  (G:∀d,Calls Tryz.prog 164 #[.int .u64 b] d fun r h=>r=.returned (.int .i64 D)∧Below d.heap.size d h)
  (H:∀d,Calls Tryz.prog 262 #[.int .u64 0,.int .u64 a,.int .u64 b] d fun r h=>r=.returned (.int .u64 (o:Nat))∧Below d.heap.size d h):
  Calls Tryz.prog 232 #[.int .u64 a,.int .u64 b] w fun r d=>r=.returned (.tuple #[.int .u64 (o:Nat),.int .u8 0])∧Below w.heap.size w d:=by
 have I:=ac F;have J:=ac G
 clear F G
 go_enter Tryz.func232,Tryz.ntmps232
 go_wp2_with fail
 refine(uH I _).mono ?_
 rintro e Q ⟨rfl,u⟩
 go_wp2_with fail
 refine(uH J _).mono ?_
 rintro e U ⟨rfl,z⟩
 have B:=ac (u.trans (z.mono u.size))
 clear u z I J
 have K:=ac H
 clear H
 go_wp2_with fail
 refine(uH K _).mono ?_
 rintro e X ⟨rfl,A⟩
 have B:=ac ((uH B).trans (A.mono (uH B).size))
 clear A K
 go_wp2
 exact bodyPost_ret (v:=.tuple #[.int .u64 (o:Nat),.int .u8 0]) (by simp[results,Tryz.results232,go_sem]) rfl ⟨rfl,uH B⟩
theorem Ki(a b:Nat)(D:Int)(o:Nat)(w:World)(L:(D==4)=false)(O:(D==3)=false)(Q:(D==0)=false)
  (F:∀d,Calls Tryz.prog 164 #[.int .u64 a] d fun r h=>r=.returned (.int .i64 D)∧Below d.heap.size d h)
  (G:∀d,Calls Tryz.prog 164 #[.int .u64 b] d fun r h=>r=.returned (.int .i64 0)∧Below d.heap.size d h)
  (H:∀d,Calls Tryz.prog 262 #[.int .u64 0,.int .u64 a,.int .u64 b] d fun r h=>r=.returned (.int .u64 (o:Nat))∧Below d.heap.size d h):
  Calls Tryz.prog 232 #[.int .u64 a,.int .u64 b] w fun r d=>r=.returned (.tuple #[.int .u64 (o:Nat),.int .u8 0])∧Below w.heap.size w d:=by
 have I:=ac F;have J:=ac G
 clear F G
 go_enter Tryz.func232,Tryz.ntmps232
 go_wp2_with fail
 refine(uH I _).mono ?_
 rintro e U ⟨rfl,u⟩
 go_wp2_with fail
 refine(uH J _).mono ?_
 rintro e X ⟨rfl,z⟩
 have B:=ac (u.trans (z.mono u.size))
 clear u z I J
 have K:=ac H
 clear H
 go_wp2_with fail
 refine(uH K _).mono ?_
 rintro e Y ⟨rfl,A⟩
 have B:=ac ((uH B).trans (A.mono (uH B).size))
 clear A K
 go_wp2
 exact bodyPost_ret (v:=.tuple #[.int .u64 (o:Nat),.int .u8 0]) (by simp[results,Tryz.results232,go_sem]) rfl ⟨rfl,uH B⟩
theorem Kj(a b:Nat)(D F:Int)(G:Int)(o:Nat)(w:World)(X:(D==4)=false)(Y:(D==3)=false)(Z:(D==0)=false)(h3:(F==4)=false)(h4:(F==3)=false)(h5:(F==0)=false)(H:cr w)
  (I:∀d,Calls Tryz.prog 164 #[.int .u64 a] d fun r h=>r=.returned (.int .i64 D)∧Below d.heap.size d h)
  (J:∀d,Calls Tryz.prog 164 #[.int .u64 b] d fun r h=>r=.returned (.int .i64 F)∧Below d.heap.size d h)
  (K:∀d,cr d→Calls Tryz.prog 263 #[.int .u64 a,.int .u64 b] d fun r h=>r=.returned (.tuple #[.int .u64 (o:Nat),.int .u8 G])∧Below d.heap.size d h):
  Calls Tryz.prog 232 #[.int .u64 a,.int .u64 b] w fun r d=>r=.returned (.tuple #[.int .u64 (o:Nat),.int .u8 G])∧Below w.heap.size w d:=by
 have L:=ac I;have O:=ac J
 clear I J
 go_enter Tryz.func232,Tryz.ntmps232
 go_wp2_with fail
 refine(uH L _).mono ?_
 rintro e w1 ⟨rfl,u⟩
 go_wp2_with fail
 refine(uH O _).mono ?_
 rintro e w2 ⟨rfl,z⟩
 have B:=ac (u.trans (z.mono u.size))
 clear u z L O
 have Q:=ac K;have U:=ac (H.all (uH B))
 clear K H
 go_wp2_with fail
 refine(uH Q _ (uH U)).mono ?_
 rintro e w3 ⟨rfl,A⟩
 have B:=ac ((uH B).trans (A.mono (uH B).size))
 clear A Q U
 go_wp2
 exact bodyPost_ret (v:=.tuple #[.int .u64 (o:Nat),.int .u8 G]) (by simp[results,Tryz.results232,go_sem]) rfl ⟨rfl,uH B⟩
theorem Dv(a b:Nat)(w:World)(I:a<18446744073709551616)(J:b<18446744073709551616)(Y:cr w):
  Calls Tryz.prog 232 #[.int .u64 a,.int .u64 b] w fun r z=>r=.returned (.tuple #[.int .u64 (mV a b:Nat),.int .u8 (mF a b)])∧Below w.heap.size w z:=by
 have d:=fun z=>cZ a z I
 have u:=fun z=>cZ b z J
 have U:=fun z=>gx 9218868437227405312 a b z I J (by decide)
 have X:=fun z=>gx 0 a b z I J (by decide)
 by_cases A:fK a=4
 ·rw[show mV a b=9221120237041090560 by unfold mV;rw[if_pos (Or.inl A)],show mF a b=0 by unfold mF;rw[if_pos (Or.inl A)]]
  rw[A]at d
  exact GJ a b _ w d u
 by_cases D:fK b=4
 ·rw[show mV a b=9221120237041090560 by unfold mV;rw[if_pos (Or.inr D)],show mF a b=0 by unfold mF;rw[if_pos (Or.inr D)]]
  rw[D]at u
  exact GK a b _ w (by simp[A]) d u
 have G:¬(fK a=4∨fK b=4):=by omega
 by_cases H:fK a=3∨fK b=3
 ·by_cases F:fK a=0∨fK b=0
  ·rw[show mV a b=9221120237041090560 by unfold mV;rw[if_neg G,if_pos H,if_pos F],show mF a b=16 by unfold mF;rw[if_neg G,if_pos H,if_pos F]]
   by_cases K:fK a=3
   ·have O:fK b=0:=by omega
    rw[K]at d
    rw[O]at u
    exact GL a b w d u
   ·have Q:fK b=3:=by omega
    have L:fK a=0:=by omega
    rw[L]at d
    rw[Q]at u
    exact GM a b w d u
  ·rw[show mV a b=gJ (fS a^^fS b) 9218868437227405312 by unfold mV;rw[if_neg G,if_pos H,if_neg F],show mF a b=0 by unfold mF;rw[if_neg G,if_pos H,if_neg F]]
   by_cases K:fK a=3
   ·rw[K]at d
    exact Kf a b _ _ w (by simp[D]) (by simp;omega) d u U
   ·have Q:fK b=3:=by omega
    rw[Q]at u
    exact Kg a b _ _ w (by simp[A]) (by simp;omega) (by simp[K]) d u U
 ·by_cases F:fK a=0∨fK b=0
  ·have Z:rv (fR a)*rv (fR b)=0:=by
    rcases F with h|h
    ·rw[(mK _).2 ((cs a).1 h),Nat.zero_mul]
    ·rw[(mK _).2 ((cs b).1 h),Nat.mul_zero]
   rw[show mV a b=gJ (fS a^^fS b) 0 by unfold mV;rw[if_neg G,if_neg H,Z,um],show mF a b=0 by unfold mF;rw[if_neg G,if_neg H,if_pos F]]
   by_cases L:fK a=0
   ·rw[L]at d
    exact Kh a b _ _ w (by simp[D]) (by simp;omega) d u X
   ·have O:fK b=0:=by omega
    rw[O]at u
    exact Ki a b _ _ w (by simp[A]) (by simp;omega) (by simp[L]) d u X
  ·exact Kj a b _ _ _ _ w (by simp[A]) (by simp;omega) (by simp;omega) (by simp[D]) (by simp;omega) (by simp;omega) Y d u (fun z t=>qk a b z I J (et a (by omega) A) (et b (by omega) D) (by omega) (by omega) t)
theorem Dw(a:Nat)(k:Int)(f:Bool)(w:World)(F:f=false∨(f=true∧k=0))
  (u:∀h,Calls Tryz.prog 88 #[.int .u64 a] h fun r d=>r=.returned (.bool f)∧h=d)
  (z:∀h,Calls Tryz.prog 89 #[.int .u64 a] h fun r d=>r=.returned (.int .i64 k)∧h=d):
  Calls Tryz.prog 90 #[.int .u64 a] w fun r h=>r=.returned (.int .i64 0)∧Below w.heap.size w h:=by
 have A:=ac u;have G:=ac z
 clear u z
 rcases F with rfl|⟨rfl,rfl⟩
 ·go_enter Tryz.func90,Tryz.ntmps90
  go_wp2_with fail
  refine(uH A _).mono ?_
  rintro e D ⟨rfl,rfl⟩
  go_wp2
  go_ret
  exact⟨rfl,Below.refl _ _⟩
 ·go_enter Tryz.func90,Tryz.ntmps90
  go_wp2_with fail
  refine(uH A _).mono ?_
  rintro e D ⟨rfl,rfl⟩
  go_wp2_with fail
  refine(uH G _).mono ?_
  rintro e D ⟨rfl,rfl⟩
  go_wp2
  go_ret
  exact⟨rfl,Below.refl _ _⟩
theorem Dx(a:Nat)(k D X t:Int)(w:World)(h0:(k==0)=false)(ht:-2000≤t∧t≤2000)
  (H:∀h,Calls Tryz.prog 88 #[.int .u64 a] h fun r d=>r=.returned (.bool true)∧h=d)
  (I:∀h,Calls Tryz.prog 89 #[.int .u64 a] h fun r d=>r=.returned (.int .i64 k)∧h=d)
  (J:∀h,Calls Tryz.prog 60 #[.int .u64 a] h fun r d=>∃u,r=.returned u∧aC d u D X∧Below h.heap.size h d)
  (K:∀h v,aC h v D X→Calls Tryz.prog 69 #[v] h fun r d=>r=.returned (.int .i64 t)∧Below h.heap.size h d):
  Calls Tryz.prog 90 #[.int .u64 a] w fun r h=>r=.returned (.int .i64 (t-1))∧Below w.heap.size w h:=by
 have L:=ac H;have O:=ac I;have Q:=ac J;have U:=ac K
 clear H I J K
 have hw:=a8 (t-1) (by omega)
 go_enter Tryz.func90,Tryz.ntmps90
 go_wp2_with fail
 refine(uH L _).mono ?_
 rintro e G ⟨rfl,rfl⟩
 go_wp2_with fail
 refine(uH O _).mono ?_
 rintro e G ⟨rfl,rfl⟩
 go_wp2_with fail
 refine(uH Q _).mono ?_
 rintro e G ⟨v,rfl,hv,z⟩
 obtain⟨Z,a1,c1,F,rfl,i1⟩:=hv
 have Y:=ac (show aC G (.agg #[.bool Z,.slice a1 F.length c1,.int .i64 X]) D X from⟨Z,a1,c1,F,rfl,i1⟩)
 have A:=ac z
 clear i1 z L O Q
 generalize F.length=l1 at*
 go_wp2_with fail
 refine(uH U _ _ (uH Y)).mono ?_
 rintro e w2 ⟨rfl,z⟩
 have B2:=ac ((uH A).trans (z.mono (uH A).size))
 clear z A Y U
 go_wp2
 go_ret
 exact⟨rfl,uH B2⟩
theorem Mo{w:World}{v:Value}{D X:Int}(d:aC w v D X)(O:D%2=1)(Q:D.natAbs<9007199254740992)(U:-1074≤X∧X≤1024):
  Calls Tryz.prog 69 #[v] w fun r F=>r=.returned (.int .i64 ((bl D.natAbs:Int)+X))∧Below w.heap.size w F:=by
 obtain⟨I,J,K,A,rfl,u,z,L,Y,Z⟩:=d.right (cz _ (by omega))
 have:=oT I J K A X w u (by omega) (by omega)
 have d:aj A=D.natAbs:=by rw[←L,aQ]
 have G:=i8 u.2.1 z
 have H:A.length≠0:=fun h=>by
  have:=(aS z).2 h
  omega
 unfold ik at this
 rw[if_neg H,G,d]at this
 exact this
theorem An(a:Nat)(w:World)(u:a<18446744073709551616):
  Calls Tryz.prog 90 #[.int .u64 a] w fun r d=>r=.returned (.int .i64 (eX a))∧Below w.heap.size w d:=by
 have z:=fun d=>g9 a d u
 have D:=fun d=>jO a d u
 unfold eX
 by_cases h:fK a=4∨fK a=3∨fK a=0
 ·rw[if_pos h]
  refine Dw a _ _ w ?_ z D
  rcases gO a with⟨A,_⟩|⟨A,U⟩
  ·exact .inl A
  ·exact .inr ⟨A,by omega⟩
 ·rw[if_neg h]
  have F:=et a (by omega) (by omega)
  obtain⟨z1,z2,H,I,J,K,L,O,Q⟩:=ee a u F (by omega)
  rw[F]at z
  exact Dx a _ (fD a) (fX a) _ w (by simp;omega) (by omega) z D (fun d=>iZ a d u) (fun d v G=>Mo G z1 z2 (by omega))
def eN(b:Nat):Int:=if ai b=true then 0 else if fS b=true then-1 else 1
theorem GN(b:Nat)(f s:Bool)(w:World)
  (A:∀h,Calls Tryz.prog 88 #[.int .u64 b] h fun r d=>r=.returned (.bool f)∧h=d)
  (D:∀h,Calls Tryz.prog 115 #[.int .u64 b] h fun r d=>r=.returned (.bool s)∧h=d):
  Calls Tryz.prog 190 #[.int .u64 b] w fun e h=>e=.returned (.int .i64 (if f=true then 0 else if s=true then-1 else 1))∧w=h:=by
 have z:=ac A;have F:=ac D
 clear A D
 cases f
 ·cases s
  ·go_enter Tryz.func190,Tryz.ntmps190
   go_wp2_with fail
   refine(uH z _).mono ?_
   rintro e u ⟨rfl,rfl⟩
   go_wp2_with fail
   refine(uH F _).mono ?_
   rintro e u ⟨rfl,rfl⟩
   go_wp2
   go_ret
   exact⟨rfl,rfl⟩
  ·go_enter Tryz.func190,Tryz.ntmps190
   go_wp2_with fail
   refine(uH z _).mono ?_
   rintro e u ⟨rfl,rfl⟩
   go_wp2_with fail
   refine(uH F _).mono ?_
   rintro e u ⟨rfl,rfl⟩
   go_wp2
   go_ret
   exact⟨rfl,rfl⟩
 ·go_enter Tryz.func190,Tryz.ntmps190
  go_wp2_with fail
  refine(uH z _).mono ?_
  rintro e u ⟨rfl,rfl⟩
  go_wp2
  go_ret
  exact⟨rfl,rfl⟩
theorem uF(b:Nat)(w:World)(h:b<18446744073709551616):
  Calls Tryz.prog 190 #[.int .u64 b] w fun e d=>e=.returned (.int .i64 (eN b))∧w=d:=
 GN b (ai b) (fS b) w (fun d=>g9 b d h) (fun d=>jN b d h)
theorem Ao(a b:Nat)(w:World)
  (u:∀d,Calls Tryz.prog 89 #[.int .u64 a] d fun r h=>r=.returned (.int .i64 4)∧d=h):
  Calls Tryz.prog 143 #[.int .u64 a,.int .u64 b] w fun r d=>r=.returned (.tuple #[.int .i64 0,.bool false])∧Below w.heap.size w d:=by
 have z:=ac u
 clear u
 go_enter Tryz.func143,Tryz.ntmps143
 go_wp2_with fail
 refine(uH z _).mono ?_
 rintro e A ⟨rfl,rfl⟩
 clear z
 go_wp2
 exact bodyPost_ret (v:=.tuple #[.int .i64 0,.bool false]) (by simp[results,Tryz.results143,go_sem]) rfl ⟨rfl,Below.refl _ _⟩
theorem Ap(a b:Nat)(u:Int)(w:World)(H:(u==4)=false)
  (z:∀h,Calls Tryz.prog 89 #[.int .u64 a] h fun r d=>r=.returned (.int .i64 u)∧h=d)
  (A:∀h,Calls Tryz.prog 89 #[.int .u64 b] h fun r d=>r=.returned (.int .i64 4)∧h=d):
  Calls Tryz.prog 143 #[.int .u64 a,.int .u64 b] w fun r h=>r=.returned (.tuple #[.int .i64 0,.bool false])∧Below w.heap.size w h:=by
 have D:=ac z;have F:=ac A
 clear z A
 go_enter Tryz.func143,Tryz.ntmps143
 go_wp2_with fail
 refine(uH D _).mono ?_
 rintro e G ⟨rfl,rfl⟩
 clear D
 go_wp2_with fail
 refine(uH F _).mono ?_
 rintro e G ⟨rfl,rfl⟩
 clear F
 go_wp2
 exact bodyPost_ret (v:=.tuple #[.int .i64 0,.bool false]) (by simp[results,Tryz.results143,go_sem]) rfl ⟨rfl,Below.refl _ _⟩
theorem gy(a b:Nat)(z A x y o:Int)(w:World)(Q:(z==4)=false)(U:(A==4)=false)
  (O:(x=0∧y= -1∧o=1)∨(x=0∧y=1∧o= -1)∨(x= -1∧y=0∧o= -1)∨(x=1∧y=0∧o=1)∨(x= -1∧y= -1∧o=0)∨(x=1∧y=1∧o=0)∨(x= -1∧y=1∧o= -1)∨(x=1∧y= -1∧o=1))
  (D:∀h,Calls Tryz.prog 89 #[.int .u64 a] h fun r d=>r=.returned (.int .i64 z)∧h=d)
  (F:∀h,Calls Tryz.prog 89 #[.int .u64 b] h fun r d=>r=.returned (.int .i64 A)∧h=d)
  (G:∀h,Calls Tryz.prog 190 #[.int .u64 a] h fun r d=>r=.returned (.int .i64 x)∧h=d)
  (H:∀h,Calls Tryz.prog 190 #[.int .u64 b] h fun r d=>r=.returned (.int .i64 y)∧h=d):
  Calls Tryz.prog 143 #[.int .u64 a,.int .u64 b] w fun r h=>r=.returned (.tuple #[.int .i64 o,.bool true])∧Below w.heap.size w h:=by
 have I:=ac D;have J:=ac F;have K:=ac G;have L:=ac H
 clear D F G H
 rcases O with⟨rfl,rfl,rfl⟩|⟨rfl,rfl,rfl⟩|⟨rfl,rfl,rfl⟩|⟨rfl,rfl,rfl⟩|⟨rfl,rfl,rfl⟩|⟨rfl,rfl,rfl⟩|⟨rfl,rfl,rfl⟩|⟨rfl,rfl,rfl⟩
 all_goals
  go_enter Tryz.func143,Tryz.ntmps143
  go_wp2_with fail
  refine(uH I _).mono ?_
  rintro e u ⟨rfl,rfl⟩
  clear I
  go_wp2_with fail
  refine(uH J _).mono ?_
  rintro e u ⟨rfl,rfl⟩
  clear J
  go_wp2_with fail
  refine(uH K _).mono ?_
  rintro e u ⟨rfl,rfl⟩
  clear K
  go_wp2_with fail
  refine(uH L _).mono ?_
  rintro e u ⟨rfl,rfl⟩
  clear L
  go_wp2
  refine bodyPost_ret (v:=.tuple #[.int .i64 _,.bool true]) (by simp[results,Tryz.results143,go_sem];try rfl) rfl ⟨rfl,Below.refl _ _⟩
theorem Dy(a b:Nat)(K L z1 z2 D F o:Int)(w:World)(h4:(K==4)=false)(g4:(L==4)=false)
  (O:∀h,Calls Tryz.prog 89 #[.int .u64 a] h fun r d=>r=.returned (.int .i64 K)∧h=d)
  (Q:∀h,Calls Tryz.prog 89 #[.int .u64 b] h fun r d=>r=.returned (.int .i64 L)∧h=d)
  (U:∀h,Calls Tryz.prog 190 #[.int .u64 a] h fun r d=>r=.returned (.int .i64 0)∧h=d)
  (X:∀h,Calls Tryz.prog 190 #[.int .u64 b] h fun r d=>r=.returned (.int .i64 0)∧h=d)
  (Y:∀h,Calls Tryz.prog 60 #[.int .u64 a] h fun r d=>∃u,r=.returned u∧aC d u z1 D∧Below h.heap.size h d)
  (Z:∀h,Calls Tryz.prog 60 #[.int .u64 b] h fun r d=>∃u,r=.returned u∧aC d u z2 F∧Below h.heap.size h d)
  (C7:∀h v u,aC h v z1 D→aC h u z2 F→Calls Tryz.prog 33 #[v,u] h fun r d=>r=.returned (.int .i64 o)∧Below h.heap.size h d):
  Calls Tryz.prog 143 #[.int .u64 a,.int .u64 b] w fun r h=>r=.returned (.tuple #[.int .i64 o,.bool true])∧Below w.heap.size w h:=by
 have K1:=ac O;have K2:=ac Q;have K3:=ac U;have K4:=ac X;have K5:=ac Y;have K6:=ac Z;have K7:=ac C7
 clear O Q U X Y Z C7
 go_enter Tryz.func143,Tryz.ntmps143
 go_wp2_with fail
 refine(uH K1 _).mono ?_
 rintro e A ⟨rfl,rfl⟩
 clear K1
 go_wp2_with fail
 refine(uH K2 _).mono ?_
 rintro e A ⟨rfl,rfl⟩
 clear K2
 go_wp2_with fail
 refine(uH K3 _).mono ?_
 rintro e A ⟨rfl,rfl⟩
 clear K3
 go_wp2_with fail
 refine(uH K4 _).mono ?_
 rintro e A ⟨rfl,rfl⟩
 clear K4
 go_wp2_with fail
 refine(uH K5 _).mono ?_
 rintro e A ⟨v,rfl,J,z⟩
 obtain⟨n1,a1,c1,L1,rfl,i1⟩:=J
 have HV:=ac (show aC A (.agg #[.bool n1,.slice a1 L1.length c1,.int .i64 D]) z1 D from⟨n1,a1,c1,L1,rfl,i1⟩)
 have G:=ac z
 clear i1 z K5
 go_wp2_with fail
 refine(uH K6 _).mono ?_
 rintro e w2 ⟨v,rfl,J,z⟩
 obtain⟨n2,a2,c2,L2,rfl,i2⟩:=J
 have HU:=ac (show aC w2 (.agg #[.bool n2,.slice a2 L2.length c2,.int .i64 F]) z2 F from⟨n2,a2,c2,L2,rfl,i2⟩)
 have H:=ac ((uH HV).below z)
 have I:=ac ((uH G).trans (z.mono (uH G).size))
 clear i2 z K6 G HV
 go_wp2_with fail
 refine(uH K7 _ _ _ (uH H) (uH HU)).mono ?_
 rintro e w3 ⟨rfl,z⟩
 have B3:=ac ((uH I).trans (z.mono (uH I).size))
 clear z K7 I
 go_wp2
 exact bodyPost_ret (v:=.tuple #[.int .i64 o,.bool true]) (by simp[results,Tryz.results143,go_sem]) rfl ⟨rfl,uH B3⟩
theorem wY{b:Nat}(h:ai b=true):eN b=0:=by unfold eN;rw[if_pos h]
theorem wZ{b:Nat}(h:fK b=3):(eN b= -1∧fZ b= -((2^2098:Nat):Int))∨(eN b=1∧fZ b=((2^2098:Nat):Int)):=by
 have u:ai b=false:=by
  rcases gO b with d|d
  ·exact d.1
  ·omega
 have z:=(ch b).2.1.1 h
 unfold eN fZ pv
 rw[z,Cx,if_neg (by rw[u];decide)]
 cases fS b
 ·exact .inr ⟨rfl,rfl⟩
 ·exact .inl ⟨rfl,rfl⟩
theorem xc(a b:Nat)(w:World)(Y:a<18446744073709551616)(Z:b<18446744073709551616):
  Calls Tryz.prog 143 #[.int .u64 a,.int .u64 b] w fun r d=>r=.returned (.tuple #[.int .i64 (cO a b),.bool (cB a b)])∧Below w.heap.size w d:=by
 have A:=fun d=>jO a d Y
 have F:=fun d=>jO b d Z
 have D:=fun d=>uF a d Y
 have z:=fun d=>uF b d Z
 unfold cO cB
 by_cases I:fK a=4
 ·rw[if_pos (Or.inl I),if_pos (Or.inl I)]
  rw[I]at A
  exact Ao a b w A
 by_cases J:fK b=4
 ·rw[if_pos (Or.inr J),if_pos (Or.inr J)]
  rw[J]at F
  exact Ap a b _ w (by simp[I]) A F
 have h:¬(fK a=4∨fK b=4):=fun h=>h.elim I J
 rw[if_neg h,if_neg h]
 have G:(fK a==4)=false:=by simp[I]
 have H:(fK b==4)=false:=by simp[J]
 have hP:(0:Int)<((2^2098:Nat):Int):=Int.natCast_pos.2 (Nat.two_pow_pos 2098)
 by_cases a3:fK a=3
 ·have za:=wZ a3
  by_cases L:fK b=3
  ·have zb:=wZ L
   rcases za with⟨O,Q⟩|⟨O,Q⟩<;>rcases zb with⟨U,X⟩|⟨U,X⟩<;>rw[O]at D<;>rw[U]at z<;>rw[Q,X]<;>generalize ((2^2098:Nat):Int)=P at*
   ·rw[jz rfl];exact gy a b _ _ _ _ _ w G H (by decide) A F D z
   ·rw[iF (by omega)];exact gy a b _ _ _ _ _ w G H (by decide) A F D z
   ·rw[iG (by omega)];exact gy a b _ _ _ _ _ w G H (by decide) A F D z
   ·rw[jz rfl];exact gy a b _ _ _ _ _ w G H (by decide) A F D z
  ·have K:=et b L J
   have l:=fi b K
   rw[wY K]at z
   rcases za with⟨O,Q⟩|⟨O,Q⟩<;>rw[O]at D<;>rw[Q]<;>generalize (2^2098:Nat)=P at*
   ·rw[iF (by omega)];exact gy a b _ _ _ _ _ w G H (by decide) A F D z
   ·rw[iG (by omega)];exact gy a b _ _ _ _ _ w G H (by decide) A F D z
 ·have fa:=et a a3 I
  have la:=fi a fa
  rw[wY fa]at D
  by_cases L:fK b=3
  ·have zb:=wZ L
   rcases zb with⟨U,X⟩|⟨U,X⟩<;>rw[U]at z<;>rw[X]<;>generalize (2^2098:Nat)=P at*
   ·rw[iG (by omega)];exact gy a b _ _ _ _ _ w G H (by decide) A F D z
   ·rw[iF (by omega)];exact gy a b _ _ _ _ _ w G H (by decide) A F D z
  ·have K:=et b L J
   rw[wY K]at z
   clear la
   obtain⟨d1,d2⟩:=de a Y fa
   obtain⟨d3,d4⟩:=de b Z K
   exact Dy a b _ _ (fD a) (fD b) (fX a) (fX b) _ w G H A F D z (fun d=>iZ a d Y) (fun d=>iZ b d Z)
    (fun d v u hv hu=>Cw (W:=2099) (lo:=-1074) (z1:=fZ a) (z2:=fZ b) (by rw[d1,d2];exact hv) (by rw[d3,d4];exact hu) (mJ a fa) (mJ b K))
theorem Aq(a:Nat)(w:World)(d:a<18446744073709551616):
  Calls Tryz.prog 142 #[.int .u64 a] w fun e u=>e=.returned (.int .u64 (fR a:Nat))∧w=u:=by
 have h:=ac (fun u=>jN a u d)
 have z:=ac (fun u=>tJ a u d)
 cases hs:fS a
 ·rw[hs]at h
  rw[ut a hs d]
  clear hs d z
  go_enter Tryz.func142,Tryz.ntmps142
  go_wp2_with fail
  refine(uH h _).mono ?_
  rintro e A ⟨rfl,rfl⟩
  clear h
  go_wp2
  go_ret
  exact⟨rfl,rfl⟩
 ·rw[hs]at h
  rw[qR a hs d]
  clear hs d
  generalize fN a=q at*
  go_enter Tryz.func142,Tryz.ntmps142
  go_wp2_with fail
  refine(uH h _).mono ?_
  rintro e A ⟨rfl,rfl⟩
  clear h
  go_wp2_with fail
  refine(uH z _).mono ?_
  rintro e D ⟨rfl,rfl⟩
  clear z
  go_wp2
  go_ret
  exact⟨rfl,rfl⟩
end Go.Proofs.YtcbcmlaogehimaaGreatDoor
