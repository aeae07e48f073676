/- Part 18 of the texts. -/
import Derived.Test.YtcbcmlaogehimaaGreatDoorPartt17
set_option maxHeartbeats 4000000
set_option maxRecDepth 20000
namespace Go.Proofs.YtcbcmlaogehimaaGreatDoor
open Go.RowKit
def fc(xs:List Nat)(i:Nat):Rat:=fQ (xs.getD i 0)
theorem Mh:fQ 0=0:=bm 0 (by decide)
theorem Cv:∀(n:Nat) (f:Nat→Rat),sm (n+1) f=f 0+sm n (fun i=>f (i+1)):=by
 intro n
 induction n with
 |zero=>intro f;show(0:Rat)+f 0=f 0+0;grind
 |succ n ih=>
  intro f
  show sm (n+1) f+f (n+1)=f 0+(sm n (fun i=>f (i+1))+f (n+1))
  rw[ih]
  grind
theorem Lq:∀(u d:List Nat),u.length=d.length→dt u.length (fc u) (fc d)=nD u d:=by
 intro u
 induction u with
 |nil=>
  intro d h
  have:d= []:=by cases d with|nil=>rfl|cons y d=>simp at h
  subst this
  rfl
 |cons v u ih=>
  intro d h
  cases d with
  |nil=>simp at h
  |cons y d=>
   have e:=ih d (by simpa using h)
   have z:nD (v::u) (y::d)=fQ v*fQ y+nD u d:=rfl
   rw[z,←e]
   show sm (u.length+1) _=_
   rw[Cv]
   rfl
def aO(s t:Bool):Nat:=if(s&&t)=true then 9223372036854775808 else 0
theorem wl(a b:Nat)(w:World)(z:a<18446744073709551616)(A:b<18446744073709551616):
  Calls Tryz.prog 276 #[.int .u64 a,.int .u64 b] w fun e h=>e=.returned (.int .u64 (aO (fS a) (fS b):Nat))∧Below w.heap.size w h:=by
 have D:=ac (fun h=>eC a h z)
 have F:=ac (fun h=>eC b h A)
 generalize fS a=s at*
 generalize fS b=t at*
 clear z A
 go_enter Tryz.func276,Tryz.ntmps276
 go_wp2_with fail
 refine(uH D _).mono ?_
 rintro e G ⟨rfl,d⟩
 cases s
 ·go_wp2
  go_ret
  exact⟨rfl,d⟩
 ·go_wp2_with fail
  refine(uH F _).mono ?_
  rintro e H ⟨rfl,u⟩
  cases t
  ·go_wp2
   go_ret
   exact⟨rfl,d.trans (u.mono d.size)⟩
  ·go_wp2
   go_ret
   exact⟨rfl,d.trans (u.mono d.size)⟩
theorem Cw{w:World}{n:Bool}{a:Option Addr}{l c:Nat}{e m X:Int}(h:aC w (.agg #[.bool n,.slice a l c,.int .i64 e]) m X):((l:Int)==0)=decide (m=0):=by
 obtain⟨H,I,J,d,A,_,G,_,z,_⟩:=h.parts
 simp only[Value.agg.injEq,Array.mk.injEq,List.cons.injEq,Value.slice.injEq]at A
 have F:=A.2.1.2.1
 by_cases u:m=0
 ·have:d= []:=(aR d G).1 (by rw[z,u];rfl)
  rw[decide_eq_true u,F,this];rfl
 ·have:d.length≠0:=fun D=>by
   have:d= []:=List.length_eq_zero_iff.1 D
   rw[this]at z
   simp[ai]at z
   omega
  rw[decide_eq_false u];simp;omega
theorem tZ(a b:Nat)(z1 z2 D F G:Int)(w:World)(o:Nat)
  (C1:∀z,Below w.heap.size w z→Calls Tryz.prog 168 #[.int .u64 a] z fun r A=>nj A r 0 z1 D∧Below z.heap.size z A)
  (C2:∀z,Below w.heap.size w z→Calls Tryz.prog 168 #[.int .u64 b] z fun r A=>nj A r 0 z2 F∧Below z.heap.size z A)
  (C3:∀z v u,Below w.heap.size w z→aC z v z1 D→aC z u z2 F→Calls Tryz.prog 275 #[v,u] z fun r A=>nj A r 0 0 G∧Below z.heap.size z A)
  (C4:∀z,Calls Tryz.prog 276 #[.int .u64 a,.int .u64 b] z fun r A=>r=.returned (.int .u64 (o:Nat))∧Below z.heap.size z A):
  Calls Tryz.prog 248 #[.int .u64 a,.int .u64 b] w fun r z=>r=.returned (.tuple #[.int .u64 (o:Nat),.int .u8 0])∧Below w.heap.size w z:=by
 have K1:=ac C1;have K2:=ac C2;have K3:=ac C3;have K4:=ac C4
 clear C1 C2 C3 C4
 go_enter Tryz.func248,Tryz.ntmps248
 go_wp2_with fail
 refine(uH K1 _ (Below.refl _ _)).mono ?_
 rintro e J ⟨⟨v,rfl,K⟩,h⟩
 obtain⟨n1,a1,c1,L1,rfl,i1⟩:=K
 have d:Below J.heap.size J (J.alloc (.cells #[.bool n1,.slice a1 L1.length c1,.int .i64 D] 35)):=(Below.refl _ _).alloc (Nat.le_refl _) _
 have HV:=ac ((show aC J (.agg #[.bool n1,.slice a1 L1.length c1,.int .i64 D]) z1 D from⟨n1,a1,c1,L1,rfl,i1⟩).below d)
 have X:=ac (ak.new J (.bool n1) (.slice a1 L1.length c1) (.int .i64 D))
 have O:=ac (h.trans (d.mono h.size))
 clear i1 h d K1
 go_wp2_with fail
 refine(uH K2 _ (uH O)).mono ?_
 rintro e L ⟨⟨v,rfl,K⟩,h⟩
 obtain⟨n2,a2,c2,L2,rfl,i2⟩:=K
 have d:Below L.heap.size L (L.alloc (.cells #[.bool n2,.slice a2 L2.length c2,.int .i64 F] 35)):=(Below.refl _ _).alloc (Nat.le_refl _) _
 have HU:=ac ((show aC L (.agg #[.bool n2,.slice a2 L2.length c2,.int .i64 F]) z2 F from⟨n2,a2,c2,L2,rfl,i2⟩).below d)
 have H:=ac (((uH HV).below h).below d)
 have Q:=((uH X).all h).all d
 have U:=ak.new L (.bool n2) (.slice a2 L2.length c2) (.int .i64 F)
 have Y:=ac ((uH O).trans ((h.trans (d.mono h.size)).mono (uH O).size))
 have y0:=Q.c0;have y1:=Q.c1;have y2:=Q.c2;have u0:=U.c0;have u1:=U.c1;have u2:=U.c2
 clear i2 h d K2 O HV X Q U
 go_wp2_with fail
 refine(uH K3 _ _ _ (uH Y) (uH H) (uH HU)).mono ?_
 rintro e N ⟨⟨v,rfl,K⟩,h⟩
 clear y0 y1 y2 u0 u1 u2
 obtain⟨n3,a3,c3,I,rfl,i3⟩:=K
 have d:Below N.heap.size N (N.alloc (.cells #[.bool n3,.slice a3 I.length c3,.int .i64 G] 35)):=(Below.refl _ _).alloc (Nat.le_refl _) _
 have HX:=ac ((show aC N (.agg #[.bool n3,.slice a3 I.length c3,.int .i64 G]) 0 G from⟨n3,a3,c3,I,rfl,i3⟩).below d)
 have hl:=Cw (uH HX)
 rw[decide_eq_true rfl]at hl
 have B3:=ac ((uH Y).trans ((h.trans (d.mono h.size)).mono (uH Y).size))
 have Z:=ak.new N (.bool n3) (.slice a3 I.length c3) (.int .i64 G)
 have y0:=Z.c0;have y1:=Z.c1;have y2:=Z.c2
 clear i3 h d K3 Y H HU Z
 generalize I.length=l3 at*
 go_wp2_with fail
 refine(uH K4 _).mono ?_
 rintro e w4 ⟨rfl,h⟩
 have B4:=ac ((uH B3).trans (h.mono (uH B3).size))
 clear h K4 B3
 go_wp2
 exact bodyPost_ret (v:=.tuple #[.int .u64 o,.int .u8 0]) (by simp[results,Tryz.results248,go_sem]) rfl ⟨rfl,uH B4⟩
theorem t7(a b:Nat)(z1 z2 O D F G fl:Int)(w:World)(o:Nat)(h0:O≠0)
  (C1:∀z,Below w.heap.size w z→Calls Tryz.prog 168 #[.int .u64 a] z fun r A=>nj A r 0 z1 D∧Below z.heap.size z A)
  (C2:∀z,Below w.heap.size w z→Calls Tryz.prog 168 #[.int .u64 b] z fun r A=>nj A r 0 z2 F∧Below z.heap.size z A)
  (C3:∀z v u,Below w.heap.size w z→aC z v z1 D→aC z u z2 F→Calls Tryz.prog 275 #[v,u] z fun r A=>nj A r 0 O G∧Below z.heap.size z A)
  (C4:∀z v,Below w.heap.size w z→aC z v O G→Calls Tryz.prog 229 #[v] z fun r A=>r=.returned (.tuple #[.int .u64 (o:Nat),.int .u8 fl,.int .i64 0])∧Below z.heap.size z A):
  Calls Tryz.prog 248 #[.int .u64 a,.int .u64 b] w fun r z=>r=.returned (.tuple #[.int .u64 (o:Nat),.int .u8 fl])∧Below w.heap.size w z:=by
 have K1:=ac C1;have K2:=ac C2;have K3:=ac C3;have K4:=ac C4
 clear C1 C2 C3 C4
 go_enter Tryz.func248,Tryz.ntmps248
 go_wp2_with fail
 refine(uH K1 _ (Below.refl _ _)).mono ?_
 rintro e J ⟨⟨v,rfl,K⟩,h⟩
 obtain⟨n1,a1,c1,L1,rfl,i1⟩:=K
 have d:Below J.heap.size J (J.alloc (.cells #[.bool n1,.slice a1 L1.length c1,.int .i64 D] 35)):=(Below.refl _ _).alloc (Nat.le_refl _) _
 have HV:=ac ((show aC J (.agg #[.bool n1,.slice a1 L1.length c1,.int .i64 D]) z1 D from⟨n1,a1,c1,L1,rfl,i1⟩).below d)
 have X:=ac (ak.new J (.bool n1) (.slice a1 L1.length c1) (.int .i64 D))
 have Q:=ac (h.trans (d.mono h.size))
 clear i1 h d K1
 go_wp2_with fail
 refine(uH K2 _ (uH Q)).mono ?_
 rintro e L ⟨⟨v,rfl,K⟩,h⟩
 obtain⟨n2,a2,c2,L2,rfl,i2⟩:=K
 have d:Below L.heap.size L (L.alloc (.cells #[.bool n2,.slice a2 L2.length c2,.int .i64 F] 35)):=(Below.refl _ _).alloc (Nat.le_refl _) _
 have HU:=ac ((show aC L (.agg #[.bool n2,.slice a2 L2.length c2,.int .i64 F]) z2 F from⟨n2,a2,c2,L2,rfl,i2⟩).below d)
 have H:=ac (((uH HV).below h).below d)
 have U:=((uH X).all h).all d
 have Y:=ak.new L (.bool n2) (.slice a2 L2.length c2) (.int .i64 F)
 have Z:=ac ((uH Q).trans ((h.trans (d.mono h.size)).mono (uH Q).size))
 have y0:=U.c0;have y1:=U.c1;have y2:=U.c2;have u0:=Y.c0;have u1:=Y.c1;have u2:=Y.c2
 clear i2 h d K2 Q HV X U Y
 go_wp2_with fail
 refine(uH K3 _ _ _ (uH Z) (uH H) (uH HU)).mono ?_
 rintro e N ⟨⟨v,rfl,K⟩,h⟩
 clear y0 y1 y2 u0 u1 u2
 obtain⟨n3,a3,c3,I,rfl,i3⟩:=K
 have d:Below N.heap.size N (N.alloc (.cells #[.bool n3,.slice a3 I.length c3,.int .i64 G] 35)):=(Below.refl _ _).alloc (Nat.le_refl _) _
 have HX:=ac ((show aC N (.agg #[.bool n3,.slice a3 I.length c3,.int .i64 G]) O G from⟨n3,a3,c3,I,rfl,i3⟩).below d)
 have hl:=Cw (uH HX)
 rw[decide_eq_false h0]at hl
 have B3:=ac ((uH Z).trans ((h.trans (d.mono h.size)).mono (uH Z).size))
 have x3:=ak.new N (.bool n3) (.slice a3 I.length c3) (.int .i64 G)
 have y0:=x3.c0;have y1:=x3.c1;have y2:=x3.c2
 clear i3 h d K3 Z H HU x3
 generalize I.length=l3 at*
 go_wp2_with fail
 refine(uH K4 _ _ (uH B3) (uH HX)).mono ?_
 rintro e w4 ⟨rfl,h⟩
 have B4:=ac ((uH B3).trans (h.mono (uH B3).size))
 clear h K4 B3
 go_wp2
 exact bodyPost_ret (v:=.tuple #[.int .u64 o,.int .u8 fl]) (by simp[results,Tryz.results248,go_sem]) rfl ⟨rfl,uH B4⟩
theorem pR(a b:Nat)(w:World)(G:a<18446744073709551616)(H:b<18446744073709551616)(A:aj a=true)(D:aj b=true)(F:cq w):
  Calls Tryz.prog 248 #[.int .u64 a,.int .u64 b] w fun r d=>r=.returned (.tuple #[.int .u64 (aV a b:Nat),.int .u8 (aF a b)])∧Below w.heap.size w d:=by
 obtain⟨Q,U⟩:fK a≠3∧fK a≠4:=by
  rcases gI a with⟨h,_⟩|⟨_,h⟩
  ·rw[A]at h;cases h
  ·omega
 obtain⟨X,Y⟩:fK b≠3∧fK b≠4:=by
  rcases gI b with⟨h,_⟩|⟨_,h⟩
  ·rw[D]at h;cases h
  ·omega
 obtain⟨d1,d2⟩:=dc a G A
 obtain⟨d3,d4⟩:=dc b H D
 have J:=I6 a b A D
 have L:∀d,Below w.heap.size w d→_:=fun d h=>dE a d G A (F.all h)
 have N:∀d,Below w.heap.size w d→_:=fun d h=>dE b d H D (F.all h)
 have K:∀d v u,Below w.heap.size w d→aC d v (fD a) (fX a)→aC d u (fD b) (fX b)→_:=fun d v u h I Z=>
  Me (W:=2099) (lo:=-1074) (z1:=fZ a) (z2:=fZ b) (by rw[d1,d2];exact I) (by rw[d3,d4];exact Z) (mp a A) (mp b D) J (F.all h)
 rw[(xL a b Q U X Y).1,(xL a b Q U X Y).2]
 by_cases z:aZ a b=0
 ·rw[if_pos z,if_pos z]
  have hz:fZ a+fZ b=0:=z
  rw[hz,aX]at K
  exact tZ a b _ _ _ _ _ w _ L N K (fun d=>wl a b d G H)
 ·rw[if_neg z,if_neg z]
  have O:∀d v,Below w.heap.size w d→aC d v (oM (aZ a b)) (oE (aZ a b) (-1074))→_:=fun d v h I=>jt I J.right.2 J.right.1 (F.all h)
  rw[(jM (aZ a b) (-1074)).1,jL]at O
  exact t7 a b _ _ _ _ _ _ _ w _ (fw _ z).1 L N K O
theorem FY(a b:Nat)(H:Int)(w:World)
  (A:∀d,Calls Tryz.prog 164 #[.int .u64 a] d fun r h=>r=.returned (.int .i64 4)∧Below d.heap.size d h)
  (D:∀d,Calls Tryz.prog 164 #[.int .u64 b] d fun r h=>r=.returned (.int .i64 H)∧Below d.heap.size d h):
  Calls Tryz.prog 215 #[.int .u64 a,.int .u64 b] w fun r d=>r=.returned (.tuple #[.int .u64 9221120237041090560,.int .u8 0])∧Below w.heap.size w d:=by
 have F:=ac A;have G:=ac D
 clear A D
 go_enter Tryz.func215,Tryz.ntmps215
 go_wp2_with fail
 refine(uH F _).mono ?_
 rintro e I ⟨rfl,u⟩
 go_wp2_with fail
 refine(uH G _).mono ?_
 rintro e J ⟨rfl,z⟩
 have B:=ac (u.trans (z.mono u.size))
 clear u z F G
 go_wp2
 exact bodyPost_ret (v:=.tuple #[.int .u64 9221120237041090560,.int .u8 0]) (by simp[results,Tryz.results215,go_sem]) rfl ⟨rfl,uH B⟩
theorem FZ(a b:Nat)(A:Int)(w:World)(I:(A==4)=false)
  (D:∀d,Calls Tryz.prog 164 #[.int .u64 a] d fun r h=>r=.returned (.int .i64 A)∧Below d.heap.size d h)
  (F:∀d,Calls Tryz.prog 164 #[.int .u64 b] d fun r h=>r=.returned (.int .i64 4)∧Below d.heap.size d h):
  Calls Tryz.prog 215 #[.int .u64 a,.int .u64 b] w fun r d=>r=.returned (.tuple #[.int .u64 9221120237041090560,.int .u8 0])∧Below w.heap.size w d:=by
 have G:=ac D;have H:=ac F
 clear D F
 go_enter Tryz.func215,Tryz.ntmps215
 go_wp2_with fail
 refine(uH G _).mono ?_
 rintro e J ⟨rfl,u⟩
 go_wp2_with fail
 refine(uH H _).mono ?_
 rintro e K ⟨rfl,z⟩
 have B:=ac (u.trans (z.mono u.size))
 clear u z G H
 go_wp2
 exact bodyPost_ret (v:=.tuple #[.int .u64 9221120237041090560,.int .u8 0]) (by simp[results,Tryz.results215,go_sem]) rfl ⟨rfl,uH B⟩
theorem F0(a b:Nat)(w:World)(H:((a:Int)==(b:Int))=false)
  (A:∀d,Calls Tryz.prog 164 #[.int .u64 a] d fun r h=>r=.returned (.int .i64 3)∧Below d.heap.size d h)
  (D:∀d,Calls Tryz.prog 164 #[.int .u64 b] d fun r h=>r=.returned (.int .i64 3)∧Below d.heap.size d h):
  Calls Tryz.prog 215 #[.int .u64 a,.int .u64 b] w fun r d=>r=.returned (.tuple #[.int .u64 9221120237041090560,.int .u8 16])∧Below w.heap.size w d:=by
 have F:=ac A;have G:=ac D
 clear A D
 go_enter Tryz.func215,Tryz.ntmps215
 go_wp2_with fail
 refine(uH F _).mono ?_
 rintro e I ⟨rfl,u⟩
 go_wp2_with fail
 refine(uH G _).mono ?_
 rintro e J ⟨rfl,z⟩
 have B:=ac (u.trans (z.mono u.size))
 clear u z F G
 go_wp2
 exact bodyPost_ret (v:=.tuple #[.int .u64 9221120237041090560,.int .u8 16]) (by simp[results,Tryz.results215,go_sem]) rfl ⟨rfl,uH B⟩
theorem F1(a b:Nat)(w:World)(H:((a:Int)==(b:Int))=true)
  (A:∀d,Calls Tryz.prog 164 #[.int .u64 a] d fun r h=>r=.returned (.int .i64 3)∧Below d.heap.size d h)
  (D:∀d,Calls Tryz.prog 164 #[.int .u64 b] d fun r h=>r=.returned (.int .i64 3)∧Below d.heap.size d h):
  Calls Tryz.prog 215 #[.int .u64 a,.int .u64 b] w fun r d=>r=.returned (.tuple #[.int .u64 a,.int .u8 0])∧Below w.heap.size w d:=by
 have F:=ac A;have G:=ac D
 clear A D
 go_enter Tryz.func215,Tryz.ntmps215
 go_wp2_with fail
 refine(uH F _).mono ?_
 rintro e I ⟨rfl,u⟩
 go_wp2_with fail
 refine(uH G _).mono ?_
 rintro e J ⟨rfl,z⟩
 have B:=ac (u.trans (z.mono u.size))
 clear u z F G
 go_wp2
 exact bodyPost_ret (v:=.tuple #[.int .u64 a,.int .u8 0]) (by simp[results,Tryz.results215,go_sem]) rfl ⟨rfl,uH B⟩
theorem Jo(a b:Nat)(A:Int)(w:World)(I:(A==4)=false)(J:(A==3)=false)
  (D:∀d,Calls Tryz.prog 164 #[.int .u64 a] d fun r h=>r=.returned (.int .i64 3)∧Below d.heap.size d h)
  (F:∀d,Calls Tryz.prog 164 #[.int .u64 b] d fun r h=>r=.returned (.int .i64 A)∧Below d.heap.size d h):
  Calls Tryz.prog 215 #[.int .u64 a,.int .u64 b] w fun r d=>r=.returned (.tuple #[.int .u64 a,.int .u8 0])∧Below w.heap.size w d:=by
 have G:=ac D;have H:=ac F
 clear D F
 go_enter Tryz.func215,Tryz.ntmps215
 go_wp2_with fail
 refine(uH G _).mono ?_
 rintro e K ⟨rfl,u⟩
 go_wp2_with fail
 refine(uH H _).mono ?_
 rintro e L ⟨rfl,z⟩
 have B:=ac (u.trans (z.mono u.size))
 clear u z G H
 go_wp2
 exact bodyPost_ret (v:=.tuple #[.int .u64 a,.int .u8 0]) (by simp[results,Tryz.results215,go_sem]) rfl ⟨rfl,uH B⟩
theorem Jp(a b:Nat)(A:Int)(w:World)(I:(A==4)=false)(J:(A==3)=false)
  (D:∀d,Calls Tryz.prog 164 #[.int .u64 a] d fun r h=>r=.returned (.int .i64 A)∧Below d.heap.size d h)
  (F:∀d,Calls Tryz.prog 164 #[.int .u64 b] d fun r h=>r=.returned (.int .i64 3)∧Below d.heap.size d h):
  Calls Tryz.prog 215 #[.int .u64 a,.int .u64 b] w fun r d=>r=.returned (.tuple #[.int .u64 b,.int .u8 0])∧Below w.heap.size w d:=by
 have G:=ac D;have H:=ac F
 clear D F
 go_enter Tryz.func215,Tryz.ntmps215
 go_wp2_with fail
 refine(uH G _).mono ?_
 rintro e K ⟨rfl,u⟩
 go_wp2_with fail
 refine(uH H _).mono ?_
 rintro e L ⟨rfl,z⟩
 have B:=ac (u.trans (z.mono u.size))
 clear u z G H
 go_wp2
 exact bodyPost_ret (v:=.tuple #[.int .u64 b,.int .u8 0]) (by simp[results,Tryz.results215,go_sem]) rfl ⟨rfl,uH B⟩
theorem Jq(a b:Nat)(D F G:Int)(o:Nat)(w:World)(U:(D==4)=false)(X:(D==3)=false)(Y:(F==4)=false)(Z:(F==3)=false)(H:cq w)
  (I:∀d,cq d→Calls Tryz.prog 248 #[.int .u64 a,.int .u64 b] d fun r h=>r=.returned (.tuple #[.int .u64 (o:Nat),.int .u8 G])∧Below d.heap.size d h)
  (J:∀d,Calls Tryz.prog 164 #[.int .u64 a] d fun r h=>r=.returned (.int .i64 D)∧Below d.heap.size d h)
  (K:∀d,Calls Tryz.prog 164 #[.int .u64 b] d fun r h=>r=.returned (.int .i64 F)∧Below d.heap.size d h):
  Calls Tryz.prog 215 #[.int .u64 a,.int .u64 b] w fun r d=>r=.returned (.tuple #[.int .u64 (o:Nat),.int .u8 G])∧Below w.heap.size w d:=by
 have L:=ac J;have N:=ac K
 clear J K
 go_enter Tryz.func215,Tryz.ntmps215
 go_wp2_with fail
 refine(uH L _).mono ?_
 rintro e w1 ⟨rfl,u⟩
 go_wp2_with fail
 refine(uH N _).mono ?_
 rintro e w2 ⟨rfl,z⟩
 have B:=ac (u.trans (z.mono u.size))
 clear u z L N
 have O:=ac I;have Q:=ac (H.all (uH B))
 clear I H
 go_wp2_with fail
 refine(uH O _ (uH Q)).mono ?_
 rintro e w3 ⟨rfl,A⟩
 have B:=ac ((uH B).trans (A.mono (uH B).size))
 clear A O Q
 go_wp2
 exact bodyPost_ret (v:=.tuple #[.int .u64 (o:Nat),.int .u8 G]) (by simp[results,Tryz.results215,go_sem]) rfl ⟨rfl,uH B⟩
theorem t8(a b:Nat)(w:World)(L:a<18446744073709551616)(N:b<18446744073709551616)(O:cq w):
  Calls Tryz.prog 215 #[.int .u64 a,.int .u64 b] w fun r I=>r=.returned (.tuple #[.int .u64 (aV a b:Nat),.int .u8 (aF a b)])∧Below w.heap.size w I:=by
 have z:=fun I=>cY a I L
 have A:=fun I=>cY b I N
 by_cases J:fK a=4
 ·have D:aV a b=9221120237041090560:=by unfold aV;rw[if_pos (Or.inl J)]
  have F:aF a b=0:=by unfold aF;rw[if_pos (Or.inl J)]
  rw[D,F]
  rw[J]at z
  exact FY a b _ w z A
 by_cases K:fK b=4
 ·have D:aV a b=9221120237041090560:=by unfold aV;rw[if_pos (Or.inr K)]
  have F:aF a b=0:=by unfold aF;rw[if_pos (Or.inr K)]
  rw[D,F]
  rw[K]at A
  exact FZ a b _ w (by simp[J]) z A
 have H:¬(fK a=4∨fK b=4):=by omega
 by_cases d:fK a=3
 ·by_cases u:fK b=3
  ·by_cases G:a=b
   ·have D:aV a b=a:=by unfold aV;rw[if_neg H,if_pos d,if_neg (fun h=>h.2 G)]
    have F:aF a b=0:=by unfold aF;rw[if_neg H,if_pos d,if_neg (fun h=>h.2 G)]
    rw[D,F]
    rw[d]at z
    rw[u]at A
    exact F1 a b w (by simp[G]) z A
   ·have D:aV a b=9221120237041090560:=by unfold aV;rw[if_neg H,if_pos d,if_pos ⟨u,G⟩]
    have F:aF a b=16:=by unfold aF;rw[if_neg H,if_pos d,if_pos ⟨u,G⟩]
    rw[D,F]
    rw[d]at z
    rw[u]at A
    exact F0 a b w (by simp;omega) z A
  ·have D:aV a b=a:=by unfold aV;rw[if_neg H,if_pos d,if_neg (fun h=>u h.1)]
   have F:aF a b=0:=by unfold aF;rw[if_neg H,if_pos d,if_neg (fun h=>u h.1)]
   rw[D,F]
   rw[d]at z
   exact Jo a b _ w (by simp[K]) (by simp[u]) z A
 ·by_cases u:fK b=3
  ·have D:aV a b=b:=by unfold aV;rw[if_neg H,if_neg d,if_pos u]
   have F:aF a b=0:=by unfold aF;rw[if_neg H,if_neg d,if_pos u]
   rw[D,F]
   rw[u]at A
   exact Jp a b _ w (by simp[J]) (by simp[d]) z A
  ·exact Jq a b _ _ _ _ w (by simp[J]) (by simp[d]) (by simp[K]) (by simp[u]) O (fun I t=>pR a b I L N (et a d J) (et b u K) t) z A
theorem Cx(a b:Nat)(w:World)(z:a<18446744073709551616)(h:b<18446744073709551616)(A:cq w):
  Calls Tryz.prog 182 #[.int .u64 a,.int .u64 b] w fun r u=>r=.returned (.tuple #[.int .u64 (aV a (fN b):Nat),.int .u8 (aF a (fN b))])∧Below w.heap.size w u:=by
 have D:=ac (fun u=>fH b u h)
 have F:=ac (t8 a (fN b) w z (nQ b h) A)
 clear z h A
 generalize aV a (fN b)=o at*
 generalize aF a (fN b)=G at*
 go_enter Tryz.func182,Tryz.ntmps182
 go_wp2_with fail
 refine(uH D _).mono ?_
 rintro e H ⟨rfl,rfl⟩
 go_wp2_with fail
 refine Calls.mono (uH F) ?_
 rintro e I ⟨rfl,d⟩
 have B:=ac d
 clear d D F
 go_wp2
 exact bodyPost_ret (v:=.tuple #[.int .u64 o,.int .u8 G]) (by simp[results,Tryz.results182,go_sem]) rfl ⟨rfl,uH B⟩
theorem t9{w:World}{v u:Value}{lo:Int}{W:Nat}{z1 z2:Int}(hv:aC w v (oM z1) (oE z1 lo))(hu:aC w u (oM z2) (oE z2 lo))(z:eL lo W z1)(D:eL lo W z2):
  Calls Tryz.prog 19 #[v,u] w fun r H=>∃q,r=.returned q∧aC H q (oM (z1+z2)) (oE (z1+z2) lo)∧Below w.heap.size w H:=by
 obtain⟨K,L,N,A,rfl,O,Q,d,a4,a5⟩:=hv.right z.right.2
 obtain⟨U,X,Y,B,rfl,b1,b2,h,b4,b5⟩:=hu.right D.right.2
 have x1:=oJ z.right.1
 have x2:=oJ D.right.1
 have t1:=z.tops
 have t2:=D.tops
 by_cases I:z1=0∧z2=0
 ·obtain⟨rfl,rfl⟩:=I
  rw[aX]at d h
  rw[bf]at*
  have eZ:cW 0 0 0 0=0:=by decide
  have J:eh 0 0 (bL 0 0 0 0)=0:=dY _ _ _ (by rw[ei];exact iS) (by decide)
  have:=oB K U L X N Y A B 0 0 w O b1 Q b2 (by omega) (by omega) (by rw[d,h];exact J) (by rw[d,h];exact J)
  rw[d,h,eZ,aX,bf]at this
  simpa[aX,bf]using this
 ·obtain⟨k,F,e2,e3,e4,e5⟩:=mo z D I
  have g1:eh (oM z1) (oE z1 lo) (lo+k)=0:=dY _ _ _ (Nat.lt_of_le_of_lt (jN e2) t1) e4
  have g2:eh (oM z2) (oE z2 lo) (lo+k)=0:=dY _ _ _ (Nat.lt_of_le_of_lt (jN e3) t2) e5
  have:=oB K U L X N Y A B _ _ w O b1 Q b2 x1 x2 (by rw[d,h,F];exact g1) (by rw[d,h,F];exact g2)
  rw[d,h,F]at this
  have hZ:cW (oM z1) (oE z1 lo) (oM z2) (oE z2 lo)*2^k=z1+z2:=by
   unfold cW
   rw[F,Int.add_mul,e2,e3]
  generalize cW (oM z1) (oE z1 lo) (oM z2) (oE z2 lo)=Z at*
  have G:=gd Z k lo
  rw[hZ]at G
  rw[G.1,G.2]
  exact this
theorem rB(z a b:Nat)(s t:Bool)(o:Nat)(w:World)
  (D:∀d,Calls Tryz.prog 161 #[.int .u64 a] d fun r h=>r=.returned (.bool s)∧Below d.heap.size d h)
  (F:∀d,Calls Tryz.prog 161 #[.int .u64 b] d fun r h=>r=.returned (.bool t)∧Below d.heap.size d h)
  (G:∀d,Calls Tryz.prog 162 #[.int .u64 z] d fun r h=>r=.returned (.int .u64 (o:Nat))∧d=h):
  Calls Tryz.prog 262 #[.int .u64 z,.int .u64 a,.int .u64 b] w fun r d=>r=.returned (.int .u64 ((if(s^^t)=true then o else z:Nat):Int))∧Below w.heap.size w d:=by
 have H:=ac D;have I:=ac F;have J:=ac G
 clear D F G
 go_enter Tryz.func262,Tryz.ntmps262
 go_wp2_with fail
 refine(uH H _).mono ?_
 rintro e L ⟨rfl,u⟩
 go_wp2_with fail
 refine(uH I _).mono ?_
 rintro e N ⟨rfl,A⟩
 have B:=ac (u.trans (A.mono u.size))
 clear u A H I
 cases s<;>cases t
 ·go_wp2
  go_ret
  exact⟨rfl,uH B⟩
 ·go_wp2_with fail
  refine(uH J _).mono ?_
  rintro e K ⟨rfl,rfl⟩
  go_wp2
  go_ret
  exact⟨rfl,uH B⟩
 ·go_wp2_with fail
  refine(uH J _).mono ?_
  rintro e K ⟨rfl,rfl⟩
  go_wp2
  go_ret
  exact⟨rfl,uH B⟩
 ·go_wp2
  go_ret
  exact⟨rfl,uH B⟩
theorem gf(z a b:Nat)(w:World)(u:a<18446744073709551616)(A:b<18446744073709551616)(D:z<9223372036854775808):
  Calls Tryz.prog 262 #[.int .u64 z,.int .u64 a,.int .u64 b] w fun r d=>r=.returned (.int .u64 (gF (fS a^^fS b) z:Nat))∧Below w.heap.size w d:=by
 have h:=rB z a b (fS a) (fS b) (fN z) w (fun d=>eC a d u) (fun d=>eC b d A) (fun d=>fH z d (by omega))
 have e:(if(fS a^^fS b)=true then fN z else z:Nat)=gF (fS a^^fS b) z:=by
  cases (fS a^^fS b)
  ·rw[bN];rfl
  ·rw[←BJ z D];rfl
 rwa[e]at h
theorem uc(a b:Nat)(z1 z2 z3 D F G fl:Int)(w:World)(o:Nat)
  (C1:∀z,Below w.heap.size w z→Calls Tryz.prog 168 #[.int .u64 a] z fun r A=>nj A r 0 z1 D∧Below z.heap.size z A)
  (C2:∀z,Below w.heap.size w z→Calls Tryz.prog 168 #[.int .u64 b] z fun r A=>nj A r 0 z2 F∧Below z.heap.size z A)
  (C3:∀z v u,Below w.heap.size w z→aC z v z1 D→aC z u z2 F→Calls Tryz.prog 282 #[v,u] z fun r A=>nj A r 0 z3 G∧Below z.heap.size z A)
  (C4:∀z v,Below w.heap.size w z→aC z v z3 G→Calls Tryz.prog 229 #[v] z fun r A=>r=.returned (.tuple #[.int .u64 (o:Nat),.int .u8 fl,.int .i64 0])∧Below z.heap.size z A):
  Calls Tryz.prog 263 #[.int .u64 a,.int .u64 b] w fun r z=>r=.returned (.tuple #[.int .u64 (o:Nat),.int .u8 fl])∧Below w.heap.size w z:=by
 have K1:=ac C1;have K2:=ac C2;have K3:=ac C3;have K4:=ac C4
 clear C1 C2 C3 C4
 go_enter Tryz.func263,Tryz.ntmps263
 go_wp2_with fail
 refine(uH K1 _ (Below.refl _ _)).mono ?_
 rintro e J ⟨⟨v,rfl,K⟩,h⟩
 obtain⟨n1,a1,c1,L1,rfl,i1⟩:=K
 have d:Below J.heap.size J (J.alloc (.cells #[.bool n1,.slice a1 L1.length c1,.int .i64 D] 35)):=(Below.refl _ _).alloc (Nat.le_refl _) _
 have HV:=ac ((show aC J (.agg #[.bool n1,.slice a1 L1.length c1,.int .i64 D]) z1 D from⟨n1,a1,c1,L1,rfl,i1⟩).below d)
 have X:=ac (ak.new J (.bool n1) (.slice a1 L1.length c1) (.int .i64 D))
 have O:=ac (h.trans (d.mono h.size))
 clear i1 h d K1
 go_wp2_with fail
 refine(uH K2 _ (uH O)).mono ?_
 rintro e L ⟨⟨v,rfl,K⟩,h⟩
 obtain⟨n2,a2,c2,L2,rfl,i2⟩:=K
 have d:Below L.heap.size L (L.alloc (.cells #[.bool n2,.slice a2 L2.length c2,.int .i64 F] 35)):=(Below.refl _ _).alloc (Nat.le_refl _) _
 have HU:=ac ((show aC L (.agg #[.bool n2,.slice a2 L2.length c2,.int .i64 F]) z2 F from⟨n2,a2,c2,L2,rfl,i2⟩).below d)
 have H:=ac (((uH HV).below h).below d)
 have Q:=((uH X).all h).all d
 have U:=ak.new L (.bool n2) (.slice a2 L2.length c2) (.int .i64 F)
 have Y:=ac ((uH O).trans ((h.trans (d.mono h.size)).mono (uH O).size))
 have y0:=Q.c0;have y1:=Q.c1;have y2:=Q.c2;have u0:=U.c0;have u1:=U.c1;have u2:=U.c2
 clear i2 h d K2 O HV X Q U
 go_wp2_with fail
 refine(uH K3 _ _ _ (uH Y) (uH H) (uH HU)).mono ?_
 rintro e N ⟨⟨v,rfl,K⟩,h⟩
 clear y0 y1 y2 u0 u1 u2
 obtain⟨n3,a3,c3,I,rfl,i3⟩:=K
 have d:Below N.heap.size N (N.alloc (.cells #[.bool n3,.slice a3 I.length c3,.int .i64 G] 35)):=(Below.refl _ _).alloc (Nat.le_refl _) _
 have HX:=ac ((show aC N (.agg #[.bool n3,.slice a3 I.length c3,.int .i64 G]) z3 G from⟨n3,a3,c3,I,rfl,i3⟩).below d)
 have Z:=ac ((uH Y).trans ((h.trans (d.mono h.size)).mono (uH Y).size))
 have x3:=ak.new N (.bool n3) (.slice a3 I.length c3) (.int .i64 G)
 have y0:=x3.c0;have y1:=x3.c1;have y2:=x3.c2
 clear i3 h d K3 Y H HU x3
 generalize I.length=l3 at*
 go_wp2_with fail
 refine(uH K4 _ _ (uH Z) (uH HX)).mono ?_
 rintro e w4 ⟨rfl,h⟩
 have B4:=ac ((uH Z).trans (h.mono (uH Z).size))
 clear h K4 Z
 go_wp2
 exact bodyPost_ret (v:=.tuple #[.int .u64 o,.int .u8 fl]) (by simp[results,Tryz.results263,go_sem]) rfl ⟨rfl,uH B4⟩
theorem Lr:(2:Nat)^2098*2^2098=2^4196:=by decide+kernel
theorem Jr(a b:Nat)(d:aj a=true)(h:aj b=true):eL (-1074+-1074) 4196 (fZ a*fZ b):=by
 have u:=e9 a d
 have z:=e9 b h
 refine⟨?_,by decide,by decide,by decide⟩
 have A:=Lr
 have D:=Nat.two_pow_pos 2098
 rw[Int.natAbs_mul]
 generalize (2:Nat)^4196=P at*
 generalize (2:Nat)^2098=Q at*
 rw[←A]
 exact Nat.mul_lt_mul_of_lt_of_le u (Nat.le_of_lt z) D
theorem ws(b:Nat)(d:fK b≠0):fZ b≠0∧decide (fZ b<0)=fS b:=by
 have h:rv (fR b)≠0:=fun e=>d ((cr b).2 ((mq _).1 e))
 unfold fZ pv
 cases fS b
 ·simp only[Bool.false_eq_true,if_false]
  exact⟨by omega,decide_eq_false (by omega)⟩
 ·simp only[if_true]
  exact⟨by omega,decide_eq_true (by omega)⟩
theorem Js(a b:Nat)(A:fK a≠0)(D:fK b≠0):fZ a*fZ b≠0∧decide (fZ a*fZ b<0)=(fS a^^fS b):=by
 obtain⟨u,F⟩:=ws a A
 obtain⟨z,G⟩:=ws b D
 refine⟨Int.mul_ne_zero u z,?_⟩
 rw[←F,←G]
 generalize fZ a=x at*
 generalize fZ b=y at*
 rcases Int.lt_or_gt_of_ne u with d|d<;>rcases Int.lt_or_gt_of_ne z with h|h
 ·have:=Int.mul_pos_of_neg_of_neg d h
  rw[decide_eq_true d,decide_eq_true h,decide_eq_false (by omega)];rfl
 ·have:=Int.mul_neg_of_neg_of_pos d h
  rw[decide_eq_true d,decide_eq_false (show¬y<0 by omega),decide_eq_true this];rfl
 ·have:=Int.mul_neg_of_pos_of_neg d h
  rw[decide_eq_false (show¬x<0 by omega),decide_eq_true h,decide_eq_true this];rfl
 ·have:=Int.mul_pos d h
  rw[decide_eq_false (show¬x<0 by omega),decide_eq_false (show¬y<0 by omega),decide_eq_false (show¬x*y<0 by omega)];rfl
theorem pT(a b:Nat)(w:World)(J:a<18446744073709551616)(K:b<18446744073709551616)(z:aj a=true)(A:aj b=true)(F:fK a≠0)(G:fK b≠0)(D:cq w):
  Calls Tryz.prog 263 #[.int .u64 a,.int .u64 b] w fun r d=>r=.returned (.tuple #[.int .u64 (mV a b:Nat),.int .u8 (mF a b)])∧Below w.heap.size w d:=by
 obtain⟨X,Y⟩:=dc a J z
 obtain⟨Z,d4⟩:=dc b K A
 have I:=Jr a b z A
 obtain⟨z0,z1⟩:=Js a b F G
 have O:∀d,Below w.heap.size w d→_:=fun d h=>dE a d J z (D.all h)
 have Q:∀d,Below w.heap.size w d→_:=fun d h=>dE b d K A (D.all h)
 have U:∀d v u,Below w.heap.size w d→aC d v (fD a) (fX a)→aC d u (fD b) (fX b)→_:=fun d v u h H N=>
  Mf (W1:=2099) (W2:=2099) (W:=4196) (lo1:=-1074) (lo2:=-1074) (z1:=fZ a) (z2:=fZ b) (by rw[X,Y];exact H) (by rw[Z,d4];exact N) (mp a z) (mp b A) I (D.all h)
 rw[(vT a b z A F G).1,(vT a b z A F G).2]
 have L:∀d v,Below w.heap.size w d→aC d v (oM (fZ a*fZ b)) (oE (fZ a*fZ b) (-1074+-1074))→_:=fun d v h H=>jt H I.right.2 I.right.1 (D.all h)
 rw[(jM (fZ a*fZ b) (-1074+-1074)).1,jL,z1,Int.natAbs_mul,fU,fU]at L
 exact uc a b _ _ _ _ _ _ _ w _ O Q U L
theorem F3(a b:Nat)(H:Int)(w:World)
  (A:∀d,Calls Tryz.prog 164 #[.int .u64 a] d fun r h=>r=.returned (.int .i64 4)∧Below d.heap.size d h)
  (D:∀d,Calls Tryz.prog 164 #[.int .u64 b] d fun r h=>r=.returned (.int .i64 H)∧Below d.heap.size d h):
  Calls Tryz.prog 232 #[.int .u64 a,.int .u64 b] w fun r d=>r=.returned (.tuple #[.int .u64 9221120237041090560,.int .u8 0])∧Below w.heap.size w d:=by
 have F:=ac A;have G:=ac D
 clear A D
 go_enter Tryz.func232,Tryz.ntmps232
 go_wp2_with fail
 refine(uH F _).mono ?_
 rintro e I ⟨rfl,u⟩
 go_wp2_with fail
 refine(uH G _).mono ?_
 rintro e J ⟨rfl,z⟩
 have B:=ac (u.trans (z.mono u.size))
 clear u z F G
 go_wp2
 exact bodyPost_ret (v:=.tuple #[.int .u64 9221120237041090560,.int .u8 0]) (by simp[results,Tryz.results232,go_sem]) rfl ⟨rfl,uH B⟩
theorem F4(a b:Nat)(A:Int)(w:World)(I:(A==4)=false)
  (D:∀d,Calls Tryz.prog 164 #[.int .u64 a] d fun r h=>r=.returned (.int .i64 A)∧Below d.heap.size d h)
  (F:∀d,Calls Tryz.prog 164 #[.int .u64 b] d fun r h=>r=.returned (.int .i64 4)∧Below d.heap.size d h):
  Calls Tryz.prog 232 #[.int .u64 a,.int .u64 b] w fun r d=>r=.returned (.tuple #[.int .u64 9221120237041090560,.int .u8 0])∧Below w.heap.size w d:=by
 have G:=ac D;have H:=ac F
 clear D F
 go_enter Tryz.func232,Tryz.ntmps232
 go_wp2_with fail
 refine(uH G _).mono ?_
 rintro e J ⟨rfl,u⟩
 go_wp2_with fail
 refine(uH H _).mono ?_
 rintro e K ⟨rfl,z⟩
 have B:=ac (u.trans (z.mono u.size))
 clear u z G H
 go_wp2
 exact bodyPost_ret (v:=.tuple #[.int .u64 9221120237041090560,.int .u8 0]) (by simp[results,Tryz.results232,go_sem]) rfl ⟨rfl,uH B⟩
theorem F5(a b:Nat)(w:World)
  (A:∀d,Calls Tryz.prog 164 #[.int .u64 a] d fun r h=>r=.returned (.int .i64 3)∧Below d.heap.size d h)
  (D:∀d,Calls Tryz.prog 164 #[.int .u64 b] d fun r h=>r=.returned (.int .i64 0)∧Below d.heap.size d h):
  Calls Tryz.prog 232 #[.int .u64 a,.int .u64 b] w fun r d=>r=.returned (.tuple #[.int .u64 9221120237041090560,.int .u8 16])∧Below w.heap.size w d:=by
 have F:=ac A;have G:=ac D
 clear A D
 go_enter Tryz.func232,Tryz.ntmps232
 go_wp2_with fail
 refine(uH F _).mono ?_
 rintro e H ⟨rfl,u⟩
 go_wp2_with fail
 refine(uH G _).mono ?_
 rintro e I ⟨rfl,z⟩
 have B:=ac (u.trans (z.mono u.size))
 clear u z F G
 go_wp2
 exact bodyPost_ret (v:=.tuple #[.int .u64 9221120237041090560,.int .u8 16]) (by simp[results,Tryz.results232,go_sem]) rfl ⟨rfl,uH B⟩
theorem F6(a b:Nat)(w:World)
  (A:∀d,Calls Tryz.prog 164 #[.int .u64 a] d fun r h=>r=.returned (.int .i64 0)∧Below d.heap.size d h)
  (D:∀d,Calls Tryz.prog 164 #[.int .u64 b] d fun r h=>r=.returned (.int .i64 3)∧Below d.heap.size d h):
  Calls Tryz.prog 232 #[.int .u64 a,.int .u64 b] w fun r d=>r=.returned (.tuple #[.int .u64 9221120237041090560,.int .u8 16])∧Below w.heap.size w d:=by
 have F:=ac A;have G:=ac D
 clear A D
 go_enter Tryz.func232,Tryz.ntmps232
 go_wp2_with fail
 refine(uH F _).mono ?_
 rintro e H ⟨rfl,u⟩
 go_wp2_with fail
 refine(uH G _).mono ?_
 rintro e I ⟨rfl,z⟩
 have B:=ac (u.trans (z.mono u.size))
 clear u z F G
 go_wp2
 exact bodyPost_ret (v:=.tuple #[.int .u64 9221120237041090560,.int .u8 16]) (by simp[results,Tryz.results232,go_sem]) rfl ⟨rfl,uH B⟩
theorem Jt(a b:Nat)(D:Int)(o:Nat)(w:World)(L:(D==4)=false)(N:(D==0)=false)
  (F:∀d,Calls Tryz.prog 164 #[.int .u64 a] d fun r h=>r=.returned (.int .i64 3)∧Below d.heap.size d h)
  (G:∀d,Calls Tryz.prog 164 #[.int .u64 b] d fun r h=>r=.returned (.int .i64 D)∧Below d.heap.size d h)
  (H:∀d,Calls Tryz.prog 262 #[.int .u64 9218868437227405312,.int .u64 a,.int .u64 b] d fun r h=>r=.returned (.int .u64 (o:Nat))∧Below d.heap.size d h):
  Calls Tryz.prog 232 #[.int .u64 a,.int .u64 b] w fun r d=>r=.returned (.tuple #[.int .u64 (o:Nat),.int .u8 0])∧Below w.heap.size w d:=by
 have I:=ac F;have J:=ac G
 clear F G
 go_enter Tryz.func232,Tryz.ntmps232
 go_wp2_with fail
 refine(uH I _).mono ?_
 rintro e O ⟨rfl,u⟩
 go_wp2_with fail
 refine(uH J _).mono ?_
 rintro e Q ⟨rfl,z⟩
 have B:=ac (u.trans (z.mono u.size))
 clear u z I J
 have K:=ac H
 clear H
 go_wp2_with fail
 refine(uH K _).mono ?_
 rintro e U ⟨rfl,A⟩
 have B:=ac ((uH B).trans (A.mono (uH B).size))
 clear A K
 go_wp2
 exact bodyPost_ret (v:=.tuple #[.int .u64 (o:Nat),.int .u8 0]) (by simp[results,Tryz.results232,go_sem]) rfl ⟨rfl,uH B⟩
theorem Ju(a b:Nat)(D:Int)(o:Nat)(w:World)(L:(D==4)=false)(N:(D==0)=false)(O:(D==3)=false)
  (F:∀d,Calls Tryz.prog 164 #[.int .u64 a] d fun r h=>r=.returned (.int .i64 D)∧Below d.heap.size d h)
  (G:∀d,Calls Tryz.prog 164 #[.int .u64 b] d fun r h=>r=.returned (.int .i64 3)∧Below d.heap.size d h)
  (H:∀d,Calls Tryz.prog 262 #[.int .u64 9218868437227405312,.int .u64 a,.int .u64 b] d fun r h=>r=.returned (.int .u64 (o:Nat))∧Below d.heap.size d h):
  Calls Tryz.prog 232 #[.int .u64 a,.int .u64 b] w fun r d=>r=.returned (.tuple #[.int .u64 (o:Nat),.int .u8 0])∧Below w.heap.size w d:=by
 have I:=ac F;have J:=ac G
 clear F G
 go_enter Tryz.func232,Tryz.ntmps232
 go_wp2_with fail
 refine(uH I _).mono ?_
 rintro e Q ⟨rfl,u⟩
 go_wp2_with fail
 refine(uH J _).mono ?_
 rintro e U ⟨rfl,z⟩
 have B:=ac (u.trans (z.mono u.size))
 clear u z I J
 have K:=ac H
 clear H
 go_wp2_with fail
 refine(uH K _).mono ?_
 rintro e X ⟨rfl,A⟩
 have B:=ac ((uH B).trans (A.mono (uH B).size))
 clear A K
 go_wp2
 exact bodyPost_ret (v:=.tuple #[.int .u64 (o:Nat),.int .u8 0]) (by simp[results,Tryz.results232,go_sem]) rfl ⟨rfl,uH B⟩
theorem Jv(a b:Nat)(D:Int)(o:Nat)(w:World)(L:(D==4)=false)(N:(D==3)=false)
  (F:∀d,Calls Tryz.prog 164 #[.int .u64 a] d fun r h=>r=.returned (.int .i64 0)∧Below d.heap.size d h)
  (G:∀d,Calls Tryz.prog 164 #[.int .u64 b] d fun r h=>r=.returned (.int .i64 D)∧Below d.heap.size d h)
  (H:∀d,Calls Tryz.prog 262 #[.int .u64 0,.int .u64 a,.int .u64 b] d fun r h=>r=.returned (.int .u64 (o:Nat))∧Below d.heap.size d h):
  Calls Tryz.prog 232 #[.int .u64 a,.int .u64 b] w fun r d=>r=.returned (.tuple #[.int .u64 (o:Nat),.int .u8 0])∧Below w.heap.size w d:=by
 have I:=ac F;have J:=ac G
 clear F G
 go_enter Tryz.func232,Tryz.ntmps232
 go_wp2_with fail
 refine(uH I _).mono ?_
 rintro e O ⟨rfl,u⟩
 go_wp2_with fail
 refine(uH J _).mono ?_
 rintro e Q ⟨rfl,z⟩
 have B:=ac (u.trans (z.mono u.size))
 clear u z I J
 have K:=ac H
 clear H
 go_wp2_with fail
 refine(uH K _).mono ?_
 rintro e U ⟨rfl,A⟩
 have B:=ac ((uH B).trans (A.mono (uH B).size))
 clear A K
 go_wp2
 exact bodyPost_ret (v:=.tuple #[.int .u64 (o:Nat),.int .u8 0]) (by simp[results,Tryz.results232,go_sem]) rfl ⟨rfl,uH B⟩
theorem Jw(a b:Nat)(D:Int)(o:Nat)(w:World)(L:(D==4)=false)(N:(D==3)=false)(O:(D==0)=false)
  (F:∀d,Calls Tryz.prog 164 #[.int .u64 a] d fun r h=>r=.returned (.int .i64 D)∧Below d.heap.size d h)
  (G:∀d,Calls Tryz.prog 164 #[.int .u64 b] d fun r h=>r=.returned (.int .i64 0)∧Below d.heap.size d h)
  (H:∀d,Calls Tryz.prog 262 #[.int .u64 0,.int .u64 a,.int .u64 b] d fun r h=>r=.returned (.int .u64 (o:Nat))∧Below d.heap.size d h):
  Calls Tryz.prog 232 #[.int .u64 a,.int .u64 b] w fun r d=>r=.returned (.tuple #[.int .u64 (o:Nat),.int .u8 0])∧Below w.heap.size w d:=by
 have I:=ac F;have J:=ac G
 clear F G
 go_enter Tryz.func232,Tryz.ntmps232
 go_wp2_with fail
 refine(uH I _).mono ?_
 rintro e Q ⟨rfl,u⟩
 go_wp2_with fail
 refine(uH J _).mono ?_
 rintro e U ⟨rfl,z⟩
 have B:=ac (u.trans (z.mono u.size))
 clear u z I J
 have K:=ac H
 clear H
 go_wp2_with fail
 refine(uH K _).mono ?_
 rintro e X ⟨rfl,A⟩
 have B:=ac ((uH B).trans (A.mono (uH B).size))
 clear A K
 go_wp2
 exact bodyPost_ret (v:=.tuple #[.int .u64 (o:Nat),.int .u8 0]) (by simp[results,Tryz.results232,go_sem]) rfl ⟨rfl,uH B⟩
theorem Jx(a b:Nat)(D F:Int)(G:Int)(o:Nat)(w:World)(U:(D==4)=false)(X:(D==3)=false)(Y:(D==0)=false)(Z:(F==4)=false)(h4:(F==3)=false)(h5:(F==0)=false)(H:cq w)
  (I:∀d,Calls Tryz.prog 164 #[.int .u64 a] d fun r h=>r=.returned (.int .i64 D)∧Below d.heap.size d h)
  (J:∀d,Calls Tryz.prog 164 #[.int .u64 b] d fun r h=>r=.returned (.int .i64 F)∧Below d.heap.size d h)
  (K:∀d,cq d→Calls Tryz.prog 263 #[.int .u64 a,.int .u64 b] d fun r h=>r=.returned (.tuple #[.int .u64 (o:Nat),.int .u8 G])∧Below d.heap.size d h):
  Calls Tryz.prog 232 #[.int .u64 a,.int .u64 b] w fun r d=>r=.returned (.tuple #[.int .u64 (o:Nat),.int .u8 G])∧Below w.heap.size w d:=by
 have L:=ac I;have N:=ac J
 clear I J
 go_enter Tryz.func232,Tryz.ntmps232
 go_wp2_with fail
 refine(uH L _).mono ?_
 rintro e w1 ⟨rfl,u⟩
 go_wp2_with fail
 refine(uH N _).mono ?_
 rintro e w2 ⟨rfl,z⟩
 have B:=ac (u.trans (z.mono u.size))
 clear u z L N
 have O:=ac K;have Q:=ac (H.all (uH B))
 clear K H
 go_wp2_with fail
 refine(uH O _ (uH Q)).mono ?_
 rintro e w3 ⟨rfl,A⟩
 have B:=ac ((uH B).trans (A.mono (uH B).size))
 clear A O Q
 go_wp2
 exact bodyPost_ret (v:=.tuple #[.int .u64 (o:Nat),.int .u8 G]) (by simp[results,Tryz.results232,go_sem]) rfl ⟨rfl,uH B⟩
theorem Cy(a b:Nat)(w:World)(I:a<18446744073709551616)(J:b<18446744073709551616)(X:cq w):
  Calls Tryz.prog 232 #[.int .u64 a,.int .u64 b] w fun r z=>r=.returned (.tuple #[.int .u64 (mV a b:Nat),.int .u8 (mF a b)])∧Below w.heap.size w z:=by
 have d:=fun z=>cY a z I
 have u:=fun z=>cY b z J
 have Q:=fun z=>gf 9218868437227405312 a b z I J (by decide)
 have U:=fun z=>gf 0 a b z I J (by decide)
 by_cases A:fK a=4
 ·rw[show mV a b=9221120237041090560 by unfold mV;rw[if_pos (Or.inl A)],show mF a b=0 by unfold mF;rw[if_pos (Or.inl A)]]
  rw[A]at d
  exact F3 a b _ w d u
 by_cases D:fK b=4
 ·rw[show mV a b=9221120237041090560 by unfold mV;rw[if_pos (Or.inr D)],show mF a b=0 by unfold mF;rw[if_pos (Or.inr D)]]
  rw[D]at u
  exact F4 a b _ w (by simp[A]) d u
 have G:¬(fK a=4∨fK b=4):=by omega
 by_cases H:fK a=3∨fK b=3
 ·by_cases F:fK a=0∨fK b=0
  ·rw[show mV a b=9221120237041090560 by unfold mV;rw[if_neg G,if_pos H,if_pos F],show mF a b=16 by unfold mF;rw[if_neg G,if_pos H,if_pos F]]
   by_cases K:fK a=3
   ·have N:fK b=0:=by omega
    rw[K]at d
    rw[N]at u
    exact F5 a b w d u
   ·have O:fK b=3:=by omega
    have L:fK a=0:=by omega
    rw[L]at d
    rw[O]at u
    exact F6 a b w d u
  ·rw[show mV a b=gF (fS a^^fS b) 9218868437227405312 by unfold mV;rw[if_neg G,if_pos H,if_neg F],show mF a b=0 by unfold mF;rw[if_neg G,if_pos H,if_neg F]]
   by_cases K:fK a=3
   ·rw[K]at d
    exact Jt a b _ _ w (by simp[D]) (by simp;omega) d u Q
   ·have O:fK b=3:=by omega
    rw[O]at u
    exact Ju a b _ _ w (by simp[A]) (by simp;omega) (by simp[K]) d u Q
 ·by_cases F:fK a=0∨fK b=0
  ·have Y:rv (fR a)*rv (fR b)=0:=by
    rcases F with h|h
    ·rw[(mq _).2 ((cr a).1 h),Nat.zero_mul]
    ·rw[(mq _).2 ((cr b).1 h),Nat.mul_zero]
   rw[show mV a b=gF (fS a^^fS b) 0 by unfold mV;rw[if_neg G,if_neg H,Y,tN],show mF a b=0 by unfold mF;rw[if_neg G,if_neg H,if_pos F]]
   by_cases L:fK a=0
   ·rw[L]at d
    exact Jv a b _ _ w (by simp[D]) (by simp;omega) d u U
   ·have N:fK b=0:=by omega
    rw[N]at u
    exact Jw a b _ _ w (by simp[A]) (by simp;omega) (by simp[L]) d u U
  ·exact Jx a b _ _ _ _ w (by simp[A]) (by simp;omega) (by simp;omega) (by simp[D]) (by simp;omega) (by simp;omega) X d u (fun z t=>pT a b z I J (et a (by omega) A) (et b (by omega) D) (by omega) (by omega) t)
theorem Cz(a:Nat)(k:Int)(f:Bool)(w:World)(F:f=false∨(f=true∧k=0))
  (u:∀h,Calls Tryz.prog 88 #[.int .u64 a] h fun r d=>r=.returned (.bool f)∧h=d)
  (z:∀h,Calls Tryz.prog 89 #[.int .u64 a] h fun r d=>r=.returned (.int .i64 k)∧h=d):
  Calls Tryz.prog 90 #[.int .u64 a] w fun r h=>r=.returned (.int .i64 0)∧Below w.heap.size w h:=by
 have A:=ac u;have G:=ac z
 clear u z
 rcases F with rfl|⟨rfl,rfl⟩
 ·go_enter Tryz.func90,Tryz.ntmps90
  go_wp2_with fail
  refine(uH A _).mono ?_
  rintro e D ⟨rfl,rfl⟩
  go_wp2
  go_ret
  exact⟨rfl,Below.refl _ _⟩
 ·go_enter Tryz.func90,Tryz.ntmps90
  go_wp2_with fail
  refine(uH A _).mono ?_
  rintro e D ⟨rfl,rfl⟩
  go_wp2_with fail
  refine(uH G _).mono ?_
  rintro e D ⟨rfl,rfl⟩
  go_wp2
  go_ret
  exact⟨rfl,Below.refl _ _⟩
theorem CD(a:Nat)(k D X t:Int)(w:World)(h0:(k==0)=false)(ht:-2000≤t∧t≤2000)
  (H:∀h,Calls Tryz.prog 88 #[.int .u64 a] h fun r d=>r=.returned (.bool true)∧h=d)
  (I:∀h,Calls Tryz.prog 89 #[.int .u64 a] h fun r d=>r=.returned (.int .i64 k)∧h=d)
  (J:∀h,Calls Tryz.prog 60 #[.int .u64 a] h fun r d=>∃u,r=.returned u∧aC d u D X∧Below h.heap.size h d)
  (K:∀h v,aC h v D X→Calls Tryz.prog 69 #[v] h fun r d=>r=.returned (.int .i64 t)∧Below h.heap.size h d):
  Calls Tryz.prog 90 #[.int .u64 a] w fun r h=>r=.returned (.int .i64 (t-1))∧Below w.heap.size w h:=by
 have L:=ac H;have N:=ac I;have O:=ac J;have Q:=ac K
 clear H I J K
 have hw:=a8 (t-1) (by omega)
 go_enter Tryz.func90,Tryz.ntmps90
 go_wp2_with fail
 refine(uH L _).mono ?_
 rintro e G ⟨rfl,rfl⟩
 go_wp2_with fail
 refine(uH N _).mono ?_
 rintro e G ⟨rfl,rfl⟩
 go_wp2_with fail
 refine(uH O _).mono ?_
 rintro e G ⟨v,rfl,hv,z⟩
 obtain⟨Y,Z,c1,F,rfl,i1⟩:=hv
 have U:=ac (show aC G (.agg #[.bool Y,.slice Z F.length c1,.int .i64 X]) D X from⟨Y,Z,c1,F,rfl,i1⟩)
 have A:=ac z
 clear i1 z L N O
 generalize F.length=l1 at*
 go_wp2_with fail
 refine(uH Q _ _ (uH U)).mono ?_
 rintro e w2 ⟨rfl,z⟩
 have B2:=ac ((uH A).trans (z.mono (uH A).size))
 clear z A U Q
 go_wp2
 go_ret
 exact⟨rfl,uH B2⟩
theorem Ls{w:World}{v:Value}{D X:Int}(d:aC w v D X)(N:D%2=1)(O:D.natAbs<9007199254740992)(Q:-1074≤X∧X≤1024):
  Calls Tryz.prog 69 #[v] w fun r F=>r=.returned (.int .i64 ((bl D.natAbs:Int)+X))∧Below w.heap.size w F:=by
 obtain⟨I,J,K,A,rfl,u,z,L,U,Y⟩:=d.right (cw _ (by omega))
 have:=ow I J K A X w u (by omega) (by omega)
 have d:ai A=D.natAbs:=by rw[←L,aM]
 have G:=iX u.2.1 z
 have H:A.length≠0:=fun h=>by
  have:=(aP z).2 h
  omega
 unfold ic at this
 rw[if_neg H,G,d]at this
 exact this
theorem zK(a:Nat)(w:World)(u:a<18446744073709551616):
  Calls Tryz.prog 90 #[.int .u64 a] w fun r d=>r=.returned (.int .i64 (eX a))∧Below w.heap.size w d:=by
 have z:=fun d=>gX a d u
 have D:=fun d=>jG a d u
 unfold eX
 by_cases h:fK a=4∨fK a=3∨fK a=0
 ·rw[if_pos h]
  refine Cz a _ _ w ?_ z D
  rcases gI a with⟨A,_⟩|⟨A,Q⟩
  ·exact .inl A
  ·exact .inr ⟨A,by omega⟩
 ·rw[if_neg h]
  have F:=et a (by omega) (by omega)
  obtain⟨z1,z2,H,I,J,K,L,N,O⟩:=ee a u F (by omega)
  rw[F]at z
  exact CD a _ (fD a) (fX a) _ w (by simp;omega) (by omega) z D (fun d=>iW a d u) (fun d v G=>Ls G z1 z2 (by omega))
def eN(b:Nat):Int:=if aj b=true then 0 else if fS b=true then-1 else 1
theorem F7(b:Nat)(f s:Bool)(w:World)
  (A:∀h,Calls Tryz.prog 88 #[.int .u64 b] h fun r d=>r=.returned (.bool f)∧h=d)
  (D:∀h,Calls Tryz.prog 115 #[.int .u64 b] h fun r d=>r=.returned (.bool s)∧h=d):
  Calls Tryz.prog 190 #[.int .u64 b] w fun e h=>e=.returned (.int .i64 (if f=true then 0 else if s=true then-1 else 1))∧w=h:=by
 have z:=ac A;have F:=ac D
 clear A D
 cases f
 ·cases s
  ·go_enter Tryz.func190,Tryz.ntmps190
   go_wp2_with fail
   refine(uH z _).mono ?_
   rintro e u ⟨rfl,rfl⟩
   go_wp2_with fail
   refine(uH F _).mono ?_
   rintro e u ⟨rfl,rfl⟩
   go_wp2
   go_ret
   exact⟨rfl,rfl⟩
  ·go_enter Tryz.func190,Tryz.ntmps190
   go_wp2_with fail
   refine(uH z _).mono ?_
   rintro e u ⟨rfl,rfl⟩
   go_wp2_with fail
   refine(uH F _).mono ?_
   rintro e u ⟨rfl,rfl⟩
   go_wp2
   go_ret
   exact⟨rfl,rfl⟩
 ·go_enter Tryz.func190,Tryz.ntmps190
  go_wp2_with fail
  refine(uH z _).mono ?_
  rintro e u ⟨rfl,rfl⟩
  go_wp2
  go_ret
  exact⟨rfl,rfl⟩
theorem ud(b:Nat)(w:World)(h:b<18446744073709551616):
  Calls Tryz.prog 190 #[.int .u64 b] w fun e d=>e=.returned (.int .i64 (eN b))∧w=d:=
 F7 b (aj b) (fS b) w (fun d=>gX b d h) (fun d=>jF b d h)
theorem zL(a b:Nat)(w:World)
  (u:∀d,Calls Tryz.prog 89 #[.int .u64 a] d fun r h=>r=.returned (.int .i64 4)∧d=h):
  Calls Tryz.prog 143 #[.int .u64 a,.int .u64 b] w fun r d=>r=.returned (.tuple #[.int .i64 0,.bool false])∧Below w.heap.size w d:=by
 have z:=ac u
 clear u
 go_enter Tryz.func143,Tryz.ntmps143
 go_wp2_with fail
 refine(uH z _).mono ?_
 rintro e A ⟨rfl,rfl⟩
 clear z
 go_wp2
 exact bodyPost_ret (v:=.tuple #[.int .i64 0,.bool false]) (by simp[results,Tryz.results143,go_sem]) rfl ⟨rfl,Below.refl _ _⟩
theorem zM(a b:Nat)(u:Int)(w:World)(H:(u==4)=false)
  (z:∀h,Calls Tryz.prog 89 #[.int .u64 a] h fun r d=>r=.returned (.int .i64 u)∧h=d)
  (A:∀h,Calls Tryz.prog 89 #[.int .u64 b] h fun r d=>r=.returned (.int .i64 4)∧h=d):
  Calls Tryz.prog 143 #[.int .u64 a,.int .u64 b] w fun r h=>r=.returned (.tuple #[.int .i64 0,.bool false])∧Below w.heap.size w h:=by
 have D:=ac z;have F:=ac A
 clear z A
 go_enter Tryz.func143,Tryz.ntmps143
 go_wp2_with fail
 refine(uH D _).mono ?_
 rintro e G ⟨rfl,rfl⟩
 clear D
 go_wp2_with fail
 refine(uH F _).mono ?_
 rintro e G ⟨rfl,rfl⟩
 clear F
 go_wp2
 exact bodyPost_ret (v:=.tuple #[.int .i64 0,.bool false]) (by simp[results,Tryz.results143,go_sem]) rfl ⟨rfl,Below.refl _ _⟩
theorem gi(a b:Nat)(z A x y o:Int)(w:World)(O:(z==4)=false)(Q:(A==4)=false)
  (N:(x=0∧y= -1∧o=1)∨(x=0∧y=1∧o= -1)∨(x= -1∧y=0∧o= -1)∨(x=1∧y=0∧o=1)∨(x= -1∧y= -1∧o=0)∨(x=1∧y=1∧o=0)∨(x= -1∧y=1∧o= -1)∨(x=1∧y= -1∧o=1))
  (D:∀h,Calls Tryz.prog 89 #[.int .u64 a] h fun r d=>r=.returned (.int .i64 z)∧h=d)
  (F:∀h,Calls Tryz.prog 89 #[.int .u64 b] h fun r d=>r=.returned (.int .i64 A)∧h=d)
  (G:∀h,Calls Tryz.prog 190 #[.int .u64 a] h fun r d=>r=.returned (.int .i64 x)∧h=d)
  (H:∀h,Calls Tryz.prog 190 #[.int .u64 b] h fun r d=>r=.returned (.int .i64 y)∧h=d):
  Calls Tryz.prog 143 #[.int .u64 a,.int .u64 b] w fun r h=>r=.returned (.tuple #[.int .i64 o,.bool true])∧Below w.heap.size w h:=by
 have I:=ac D;have J:=ac F;have K:=ac G;have L:=ac H
 clear D F G H
 rcases N with⟨rfl,rfl,rfl⟩|⟨rfl,rfl,rfl⟩|⟨rfl,rfl,rfl⟩|⟨rfl,rfl,rfl⟩|⟨rfl,rfl,rfl⟩|⟨rfl,rfl,rfl⟩|⟨rfl,rfl,rfl⟩|⟨rfl,rfl,rfl⟩
 all_goals
  go_enter Tryz.func143,Tryz.ntmps143
  go_wp2_with fail
  refine(uH I _).mono ?_
  rintro e u ⟨rfl,rfl⟩
  clear I
  go_wp2_with fail
  refine(uH J _).mono ?_
  rintro e u ⟨rfl,rfl⟩
  clear J
  go_wp2_with fail
  refine(uH K _).mono ?_
  rintro e u ⟨rfl,rfl⟩
  clear K
  go_wp2_with fail
  refine(uH L _).mono ?_
  rintro e u ⟨rfl,rfl⟩
  clear L
  go_wp2
  refine bodyPost_ret (v:=.tuple #[.int .i64 _,.bool true]) (by simp[results,Tryz.results143,go_sem];try rfl) rfl ⟨rfl,Below.refl _ _⟩
theorem CE(a b:Nat)(K L z1 z2 D F o:Int)(w:World)(h4:(K==4)=false)(g4:(L==4)=false)
  (N:∀h,Calls Tryz.prog 89 #[.int .u64 a] h fun r d=>r=.returned (.int .i64 K)∧h=d)
  (O:∀h,Calls Tryz.prog 89 #[.int .u64 b] h fun r d=>r=.returned (.int .i64 L)∧h=d)
  (Q:∀h,Calls Tryz.prog 190 #[.int .u64 a] h fun r d=>r=.returned (.int .i64 0)∧h=d)
  (U:∀h,Calls Tryz.prog 190 #[.int .u64 b] h fun r d=>r=.returned (.int .i64 0)∧h=d)
  (X:∀h,Calls Tryz.prog 60 #[.int .u64 a] h fun r d=>∃u,r=.returned u∧aC d u z1 D∧Below h.heap.size h d)
  (Y:∀h,Calls Tryz.prog 60 #[.int .u64 b] h fun r d=>∃u,r=.returned u∧aC d u z2 F∧Below h.heap.size h d)
  (Z:∀h v u,aC h v z1 D→aC h u z2 F→Calls Tryz.prog 33 #[v,u] h fun r d=>r=.returned (.int .i64 o)∧Below h.heap.size h d):
  Calls Tryz.prog 143 #[.int .u64 a,.int .u64 b] w fun r h=>r=.returned (.tuple #[.int .i64 o,.bool true])∧Below w.heap.size w h:=by
 have K1:=ac N;have K2:=ac O;have K3:=ac Q;have K4:=ac U;have K5:=ac X;have K6:=ac Y;have K7:=ac Z
 clear N O Q U X Y Z
 go_enter Tryz.func143,Tryz.ntmps143
 go_wp2_with fail
 refine(uH K1 _).mono ?_
 rintro e A ⟨rfl,rfl⟩
 clear K1
 go_wp2_with fail
 refine(uH K2 _).mono ?_
 rintro e A ⟨rfl,rfl⟩
 clear K2
 go_wp2_with fail
 refine(uH K3 _).mono ?_
 rintro e A ⟨rfl,rfl⟩
 clear K3
 go_wp2_with fail
 refine(uH K4 _).mono ?_
 rintro e A ⟨rfl,rfl⟩
 clear K4
 go_wp2_with fail
 refine(uH K5 _).mono ?_
 rintro e A ⟨v,rfl,J,z⟩
 obtain⟨n1,a1,c1,L1,rfl,i1⟩:=J
 have HV:=ac (show aC A (.agg #[.bool n1,.slice a1 L1.length c1,.int .i64 D]) z1 D from⟨n1,a1,c1,L1,rfl,i1⟩)
 have G:=ac z
 clear i1 z K5
 go_wp2_with fail
 refine(uH K6 _).mono ?_
 rintro e w2 ⟨v,rfl,J,z⟩
 obtain⟨n2,a2,c2,L2,rfl,i2⟩:=J
 have HU:=ac (show aC w2 (.agg #[.bool n2,.slice a2 L2.length c2,.int .i64 F]) z2 F from⟨n2,a2,c2,L2,rfl,i2⟩)
 have H:=ac ((uH HV).below z)
 have I:=ac ((uH G).trans (z.mono (uH G).size))
 clear i2 z K6 G HV
 go_wp2_with fail
 refine(uH K7 _ _ _ (uH H) (uH HU)).mono ?_
 rintro e w3 ⟨rfl,z⟩
 have B3:=ac ((uH I).trans (z.mono (uH I).size))
 clear z K7 I
 go_wp2
 exact bodyPost_ret (v:=.tuple #[.int .i64 o,.bool true]) (by simp[results,Tryz.results143,go_sem]) rfl ⟨rfl,uH B3⟩
theorem wt{b:Nat}(h:aj b=true):eN b=0:=by unfold eN;rw[if_pos h]
theorem wu{b:Nat}(h:fK b=3):(eN b= -1∧fZ b= -((2^2098:Nat):Int))∨(eN b=1∧fZ b=((2^2098:Nat):Int)):=by
 have u:aj b=false:=by
  rcases gI b with d|d
  ·exact d.1
  ·omega
 have z:=(cf b).2.1.1 h
 unfold eN fZ pv
 rw[z,BM,if_neg (by rw[u];decide)]
 cases fS b
 ·exact .inr ⟨rfl,rfl⟩
 ·exact .inl ⟨rfl,rfl⟩
theorem ww(a b:Nat)(w:World)(X:a<18446744073709551616)(Y:b<18446744073709551616):
  Calls Tryz.prog 143 #[.int .u64 a,.int .u64 b] w fun r d=>r=.returned (.tuple #[.int .i64 (cO a b),.bool (cB a b)])∧Below w.heap.size w d:=by
 have A:=fun d=>jG a d X
 have F:=fun d=>jG b d Y
 have D:=fun d=>ud a d X
 have z:=fun d=>ud b d Y
 unfold cO cB
 by_cases I:fK a=4
 ·rw[if_pos (Or.inl I),if_pos (Or.inl I)]
  rw[I]at A
  exact zL a b w A
 by_cases J:fK b=4
 ·rw[if_pos (Or.inr J),if_pos (Or.inr J)]
  rw[J]at F
  exact zM a b _ w (by simp[I]) A F
 have h:¬(fK a=4∨fK b=4):=fun h=>h.elim I J
 rw[if_neg h,if_neg h]
 have G:(fK a==4)=false:=by simp[I]
 have H:(fK b==4)=false:=by simp[J]
 have hP:(0:Int)<((2^2098:Nat):Int):=Int.natCast_pos.2 (Nat.two_pow_pos 2098)
 by_cases a3:fK a=3
 ·have za:=wu a3
  by_cases L:fK b=3
  ·have zb:=wu L
   rcases za with⟨N,O⟩|⟨N,O⟩<;>rcases zb with⟨Q,U⟩|⟨Q,U⟩<;>rw[N]at D<;>rw[Q]at z<;>rw[O,U]<;>generalize ((2^2098:Nat):Int)=P at*
   ·rw[jw rfl];exact gi a b _ _ _ _ _ w G H (by decide) A F D z
   ·rw[iA (by omega)];exact gi a b _ _ _ _ _ w G H (by decide) A F D z
   ·rw[iB (by omega)];exact gi a b _ _ _ _ _ w G H (by decide) A F D z
   ·rw[jw rfl];exact gi a b _ _ _ _ _ w G H (by decide) A F D z
  ·have K:=et b L J
   have l:=e9 b K
   rw[wt K]at z
   rcases za with⟨N,O⟩|⟨N,O⟩<;>rw[N]at D<;>rw[O]<;>generalize (2^2098:Nat)=P at*
   ·rw[iA (by omega)];exact gi a b _ _ _ _ _ w G H (by decide) A F D z
   ·rw[iB (by omega)];exact gi a b _ _ _ _ _ w G H (by decide) A F D z
 ·have Z:=et a a3 I
  have la:=e9 a Z
  rw[wt Z]at D
  by_cases L:fK b=3
  ·have zb:=wu L
   rcases zb with⟨Q,U⟩|⟨Q,U⟩<;>rw[Q]at z<;>rw[U]<;>generalize (2^2098:Nat)=P at*
   ·rw[iB (by omega)];exact gi a b _ _ _ _ _ w G H (by decide) A F D z
   ·rw[iA (by omega)];exact gi a b _ _ _ _ _ w G H (by decide) A F D z
  ·have K:=et b L J
   rw[wt K]at z
   clear la
   obtain⟨d1,d2⟩:=dc a X Z
   obtain⟨d3,d4⟩:=dc b Y K
   exact CE a b _ _ (fD a) (fD b) (fX a) (fX b) _ w G H A F D z (fun d=>iW a d X) (fun d=>iW b d Y)
    (fun d v u hv hu=>Hv (W:=2099) (lo:=-1074) (z1:=fZ a) (z2:=fZ b) (by rw[d1,d2];exact hv) (by rw[d3,d4];exact hu) (mp a Z) (mp b K))
theorem zN(a:Nat)(w:World)(d:a<18446744073709551616):
  Calls Tryz.prog 142 #[.int .u64 a] w fun e u=>e=.returned (.int .u64 (fR a:Nat))∧w=u:=by
 have h:=ac (fun u=>jF a u d)
 have z:=ac (fun u=>sY a u d)
 cases hs:fS a
 ·rw[hs]at h
  rw[tR a hs d]
  clear hs d z
  go_enter Tryz.func142,Tryz.ntmps142
  go_wp2_with fail
  refine(uH h _).mono ?_
  rintro e A ⟨rfl,rfl⟩
  clear h
  go_wp2
  go_ret
  exact⟨rfl,rfl⟩
 ·rw[hs]at h
  rw[qw a hs d]
  clear hs d
  generalize fN a=q at*
  go_enter Tryz.func142,Tryz.ntmps142
  go_wp2_with fail
  refine(uH h _).mono ?_
  rintro e A ⟨rfl,rfl⟩
  clear h
  go_wp2_with fail
  refine(uH z _).mono ?_
  rintro e D ⟨rfl,rfl⟩
  clear z
  go_wp2
  go_ret
  exact⟨rfl,rfl⟩
end Go.Proofs.YtcbcmlaogehimaaGreatDoor
