/- Part 21 of the texts. -/
import Derived.Test.YtnnfjeieennffaaGreatDoorPartc20
set_option maxHeartbeats 4000000
set_option maxRecDepth 20000
namespace Go.Proofs.YtnnfjeieennffaaGreatDoor
open Go.RowKit
theorem qP(z a b:Nat)(s t:Bool)(o:Nat)(w:World)
  (l:∀w',Calls Tryz.prog 131 #[.int .u64 a] w' fun r d=>r=.returned (.bool s)∧Below w'.heap.size w' d)
  (m:∀w',Calls Tryz.prog 131 #[.int .u64 b] w' fun r d=>r=.returned (.bool t)∧Below w'.heap.size w' d)
  (A:∀w',Calls Tryz.prog 132 #[.int .u64 z] w' fun r d=>r=.returned (.int .u64 (o:Nat))∧w'=d):
  Calls Tryz.prog 191 #[.int .u64 z,.int .u64 a,.int .u64 b] w fun r w'=>r=.returned (.int .u64 ((if(s^^t)=true then o else z:Nat):Int))∧Below w.heap.size w w':=by
 have D:=aa l;have F:=aa m;have G:=aa A
 clear l m A
 go_enter Tryz.func191,Tryz.ntmps191
 go_wp2_with fail
 refine(uH D _).mono ?_
 rintro e K ⟨rfl,f⟩
 go_wp2_with fail
 refine(uH F _).mono ?_
 rintro e L ⟨rfl,h⟩
 have B:=aa (f.trans (h.mono f.size))
 clear f h D F
 cases s<;>cases t
 ·go_wp2
  go_ret
  exact⟨rfl,uH B⟩
 ·go_wp2_with fail
  refine(uH G _).mono ?_
  rintro e H ⟨rfl,rfl⟩
  go_wp2
  go_ret
  exact⟨rfl,uH B⟩
 ·go_wp2_with fail
  refine(uH G _).mono ?_
  rintro e H ⟨rfl,rfl⟩
  go_wp2
  go_ret
  exact⟨rfl,uH B⟩
 ·go_wp2
  go_ret
  exact⟨rfl,uH B⟩
theorem fk(z a b:Nat)(w:World)(d:a<18446744073709551616)(f:b<18446744073709551616)(l:z<9223372036854775808):
  Calls Tryz.prog 191 #[.int .u64 z,.int .u64 a,.int .u64 b] w fun r w'=>r=.returned (.int .u64 (bZ (fS a^^fS b) z:Nat))∧Below w.heap.size w w':=by
 have h:=qP z a b (fS a) (fS b) (fN z) w (fun w'=>d6 a w' d) (fun w'=>d6 b w' f) (fun w'=>gg z w' (by omega))
 have e:(if(fS a^^fS b)=true then fN z else z:Nat)=bZ (fS a^^fS b) z:=by
  cases (fS a^^fS b)
  ·rw[aU];rfl
  ·rw[←Ao z l];rfl
 rwa[e]at h
theorem sX(a b:Nat)(z1 z2 z3 l m t fl:Int)(w:World)(o:Nat)
  (C1:∀w',Below w.heap.size w w'→Calls Tryz.prog 156 #[.int .u64 a] w' fun r h=>mu h r 0 z1 l∧Below w'.heap.size w' h)
  (C2:∀w',Below w.heap.size w w'→Calls Tryz.prog 156 #[.int .u64 b] w' fun r h=>mu h r 0 z2 m∧Below w'.heap.size w' h)
  (C3:∀w' v u,Below w.heap.size w w'→aG w' v z1 l→aG w' u z2 m→Calls Tryz.prog 216 #[v,u] w' fun r h=>mu h r 0 z3 t∧Below w'.heap.size w' h)
  (C4:∀w' v,Below w.heap.size w w'→aG w' v z3 t→Calls Tryz.prog 158 #[v] w' fun r h=>r=.returned (.tuple #[.int .u64 (o:Nat),.int .u8 fl,.int .i64 0])∧Below w'.heap.size w' h):
  Calls Tryz.prog 206 #[.int .u64 a,.int .u64 b] w fun r w'=>r=.returned (.tuple #[.int .u64 (o:Nat),.int .u8 fl])∧Below w.heap.size w w':=by
 have K1:=aa C1;have K2:=aa C2;have K3:=aa C3;have K4:=aa C4
 clear C1 C2 C3 C4
 go_enter Tryz.func206,Tryz.ntmps206
 go_wp2_with fail
 refine(uH K1 _ (Below.refl _ _)).mono ?_
 rintro e D ⟨⟨v,rfl,F⟩,f⟩
 obtain⟨U,V,Y,Z,rfl,i1⟩:=F
 have d:Below D.heap.size D (D.alloc (.cells #[.bool U,.slice V Z.length Y,.int .i64 l] 52)):=(Below.refl _ _).alloc (Nat.le_refl _) _
 have HV:=aa ((show aG D (.agg #[.bool U,.slice V Z.length Y,.int .i64 l]) z1 l from⟨U,V,Y,Z,rfl,i1⟩).below d)
 have X:=aa (aB.new D (.bool U) (.slice V Z.length Y) (.int .i64 l))
 have K:=aa (f.trans (d.mono f.size))
 clear i1 f d K1
 go_wp2_with fail
 refine(uH K2 _ (uH K)).mono ?_
 rintro e G ⟨⟨v,rfl,F⟩,f⟩
 obtain⟨n2,a2,c2,L2,rfl,i2⟩:=F
 have d:Below G.heap.size G (G.alloc (.cells #[.bool n2,.slice a2 L2.length c2,.int .i64 m] 52)):=(Below.refl _ _).alloc (Nat.le_refl _) _
 have HU:=aa ((show aG G (.agg #[.bool n2,.slice a2 L2.length c2,.int .i64 m]) z2 m from⟨n2,a2,c2,L2,rfl,i2⟩).below d)
 have z:=aa (((uH HV).below f).below d)
 have L:=((uH X).all f).all d
 have M:=aB.new G (.bool n2) (.slice a2 L2.length c2) (.int .i64 m)
 have N:=aa ((uH K).trans ((f.trans (d.mono f.size)).mono (uH K).size))
 have y0:=L.c0;have y1:=L.c1;have y2:=L.c2;have u0:=M.c0;have u1:=M.c1;have u2:=M.c2
 clear i2 f d K2 K HV X L M
 go_wp2_with fail
 refine(uH K3 _ _ _ (uH N) (uH z) (uH HU)).mono ?_
 rintro e H ⟨⟨v,rfl,F⟩,f⟩
 clear y0 y1 y2 u0 u1 u2
 obtain⟨n3,a3,c3,A,rfl,i3⟩:=F
 have d:Below H.heap.size H (H.alloc (.cells #[.bool n3,.slice a3 A.length c3,.int .i64 t] 52)):=(Below.refl _ _).alloc (Nat.le_refl _) _
 have HX:=aa ((show aG H (.agg #[.bool n3,.slice a3 A.length c3,.int .i64 t]) z3 t from⟨n3,a3,c3,A,rfl,i3⟩).below d)
 have O:=aa ((uH N).trans ((f.trans (d.mono f.size)).mono (uH N).size))
 have Q:=aB.new H (.bool n3) (.slice a3 A.length c3) (.int .i64 t)
 have y0:=Q.c0;have y1:=Q.c1;have y2:=Q.c2
 clear i3 f d K3 N z HU Q
 generalize A.length=l3 at*
 go_wp2_with fail
 refine(uH K4 _ _ (uH O) (uH HX)).mono ?_
 rintro e w4 ⟨rfl,f⟩
 have B4:=aa ((uH O).trans (f.mono (uH O).size))
 clear f K4 O
 go_wp2
 exact bodyPost_ret (v:=.tuple #[.int .u64 o,.int .u8 fl]) (by simp[results,Tryz.results206,go_sem]) rfl ⟨rfl,uH B4⟩
theorem I9:(2:Nat)^2098*2^2098=2^4196:=by decide+kernel
theorem Hb(a b:Nat)(d:ap a=true)(f:ap b=true):ma (-1074+-1074) 4196 (fZ a*fZ b):=by
 have h:=jG a d
 have l:=jG b f
 refine⟨?_,by decide,by decide,by decide⟩
 have m:=I9
 have t:=Nat.two_pow_pos 2098
 rw[Int.natAbs_mul]
 generalize (2:Nat)^4196=P at*
 generalize (2:Nat)^2098=Q at*
 rw[←m]
 exact Nat.mul_lt_mul_of_lt_of_le h (Nat.le_of_lt l) t
theorem uV(b:Nat)(d:fK b≠0):fZ b≠0∧decide (fZ b<0)=fS b:=by
 have f:rv (fR b)≠0:=fun e=>d ((aS b).2 ((jU _).1 e))
 unfold fZ pv
 cases fS b
 ·simp only[Bool.false_eq_true,if_false]
  exact⟨by omega,decide_eq_false (by omega)⟩
 ·simp only[if_true]
  exact⟨by omega,decide_eq_true (by omega)⟩
theorem Hc(a b:Nat)(m:fK a≠0)(t:fK b≠0):fZ a*fZ b≠0∧decide (fZ a*fZ b<0)=(fS a^^fS b):=by
 obtain⟨h,z⟩:=uV a m
 obtain⟨l,A⟩:=uV b t
 refine⟨Int.mul_ne_zero h l,?_⟩
 rw[←z,←A]
 generalize fZ a=x at*
 generalize fZ b=y at*
 rcases Int.lt_or_gt_of_ne h with d|d<;>rcases Int.lt_or_gt_of_ne l with f|f
 ·have:=Int.mul_pos_of_neg_of_neg d f
  rw[decide_eq_true d,decide_eq_true f,decide_eq_false (by omega)];rfl
 ·have:=Int.mul_neg_of_neg_of_pos d f
  rw[decide_eq_true d,decide_eq_false (show¬y<0 by omega),decide_eq_true this];rfl
 ·have:=Int.mul_neg_of_pos_of_neg d f
  rw[decide_eq_false (show¬x<0 by omega),decide_eq_true f,decide_eq_true this];rfl
 ·have:=Int.mul_pos d f
  rw[decide_eq_false (show¬x<0 by omega),decide_eq_false (show¬y<0 by omega),decide_eq_false (show¬x*y<0 by omega)];rfl
theorem o9(a b:Nat)(w:World)(D:a<18446744073709551616)(F:b<18446744073709551616)(d:ap a=true)(f:ap b=true)(m:fK a≠0)(t:fK b≠0)(l:cC w):
  Calls Tryz.prog 206 #[.int .u64 a,.int .u64 b] w fun r w'=>r=.returned (.tuple #[.int .u64 (mV a b:Nat),.int .u8 (mF a b)])∧Below w.heap.size w w':=by
 obtain⟨N,O⟩:=dK a D d
 obtain⟨Q,U⟩:=dK b F f
 have A:=Hb a b d f
 obtain⟨V,z1⟩:=Hc a b m t
 have K:∀w',Below w.heap.size w w'→_:=fun w' h=>dl a w' D d (l.all h)
 have L:∀w',Below w.heap.size w w'→_:=fun w' h=>dl b w' F f (l.all h)
 have M:∀w' v u,Below w.heap.size w w'→aG w' v (fD a) (fX a)→aG w' u (fD b) (fX b)→_:=fun w' v u h z H=>
  JH (W1:=2099) (W2:=2099) (W:=4196) (lo1:=-1074) (lo2:=-1074) (z1:=fZ a) (z2:=fZ b) (by rw[N,O];exact z) (by rw[Q,U];exact H) (lf a d) (lf b f) A (l.all h)
 rw[(li a b d f m t).1,(li a b d f m t).2]
 have G:∀w' v,Below w.heap.size w w'→aG w' v (oM (fZ a*fZ b)) (oE (fZ a*fZ b) (-1074+-1074))→_:=fun w' v h z=>iW z A.right.2 A.right.1 (l.all h)
 rw[(jl (fZ a*fZ b) (-1074+-1074)).1,jk,z1,Int.natAbs_mul,gu,gu]at G
 exact sX a b _ _ _ _ _ _ _ w _ K L M G
theorem EF(a b:Nat)(A:Int)(w:World)
  (l:∀w',Calls Tryz.prog 113 #[.int .u64 a] w' fun r d=>r=.returned (.int .i64 4)∧Below w'.heap.size w' d)
  (m:∀w',Calls Tryz.prog 113 #[.int .u64 b] w' fun r d=>r=.returned (.int .i64 A)∧Below w'.heap.size w' d):
  Calls Tryz.prog 194 #[.int .u64 a,.int .u64 b] w fun r w'=>r=.returned (.tuple #[.int .u64 9221120237041090560,.int .u8 0])∧Below w.heap.size w w':=by
 have t:=aa l;have z:=aa m
 clear l m
 go_enter Tryz.func194,Tryz.ntmps194
 go_wp2_with fail
 refine(uH t _).mono ?_
 rintro e D ⟨rfl,f⟩
 go_wp2_with fail
 refine(uH z _).mono ?_
 rintro e F ⟨rfl,h⟩
 have B:=aa (f.trans (h.mono f.size))
 clear f h t z
 go_wp2
 exact bodyPost_ret (v:=.tuple #[.int .u64 9221120237041090560,.int .u8 0]) (by simp[results,Tryz.results194,go_sem]) rfl ⟨rfl,uH B⟩
theorem EG(a b:Nat)(l:Int)(w:World)(D:(l==4)=false)
  (m:∀w',Calls Tryz.prog 113 #[.int .u64 a] w' fun r d=>r=.returned (.int .i64 l)∧Below w'.heap.size w' d)
  (t:∀w',Calls Tryz.prog 113 #[.int .u64 b] w' fun r d=>r=.returned (.int .i64 4)∧Below w'.heap.size w' d):
  Calls Tryz.prog 194 #[.int .u64 a,.int .u64 b] w fun r w'=>r=.returned (.tuple #[.int .u64 9221120237041090560,.int .u8 0])∧Below w.heap.size w w':=by
 have z:=aa m;have A:=aa t
 clear m t
 go_enter Tryz.func194,Tryz.ntmps194
 go_wp2_with fail
 refine(uH z _).mono ?_
 rintro e F ⟨rfl,f⟩
 go_wp2_with fail
 refine(uH A _).mono ?_
 rintro e G ⟨rfl,h⟩
 have B:=aa (f.trans (h.mono f.size))
 clear f h z A
 go_wp2
 exact bodyPost_ret (v:=.tuple #[.int .u64 9221120237041090560,.int .u8 0]) (by simp[results,Tryz.results194,go_sem]) rfl ⟨rfl,uH B⟩
theorem EH(a b:Nat)(w:World)
  (l:∀w',Calls Tryz.prog 113 #[.int .u64 a] w' fun r d=>r=.returned (.int .i64 3)∧Below w'.heap.size w' d)
  (m:∀w',Calls Tryz.prog 113 #[.int .u64 b] w' fun r d=>r=.returned (.int .i64 0)∧Below w'.heap.size w' d):
  Calls Tryz.prog 194 #[.int .u64 a,.int .u64 b] w fun r w'=>r=.returned (.tuple #[.int .u64 9221120237041090560,.int .u8 16])∧Below w.heap.size w w':=by
 have t:=aa l;have z:=aa m
 clear l m
 go_enter Tryz.func194,Tryz.ntmps194
 go_wp2_with fail
 refine(uH t _).mono ?_
 rintro e A ⟨rfl,f⟩
 go_wp2_with fail
 refine(uH z _).mono ?_
 rintro e D ⟨rfl,h⟩
 have B:=aa (f.trans (h.mono f.size))
 clear f h t z
 go_wp2
 exact bodyPost_ret (v:=.tuple #[.int .u64 9221120237041090560,.int .u8 16]) (by simp[results,Tryz.results194,go_sem]) rfl ⟨rfl,uH B⟩
theorem EI(a b:Nat)(w:World)
  (l:∀w',Calls Tryz.prog 113 #[.int .u64 a] w' fun r d=>r=.returned (.int .i64 0)∧Below w'.heap.size w' d)
  (m:∀w',Calls Tryz.prog 113 #[.int .u64 b] w' fun r d=>r=.returned (.int .i64 3)∧Below w'.heap.size w' d):
  Calls Tryz.prog 194 #[.int .u64 a,.int .u64 b] w fun r w'=>r=.returned (.tuple #[.int .u64 9221120237041090560,.int .u8 16])∧Below w.heap.size w w':=by
 have t:=aa l;have z:=aa m
 clear l m
 go_enter Tryz.func194,Tryz.ntmps194
 go_wp2_with fail
 refine(uH t _).mono ?_
 rintro e A ⟨rfl,f⟩
 go_wp2_with fail
 refine(uH z _).mono ?_
 rintro e D ⟨rfl,h⟩
 have B:=aa (f.trans (h.mono f.size))
 clear f h t z
 go_wp2
 exact bodyPost_ret (v:=.tuple #[.int .u64 9221120237041090560,.int .u8 16]) (by simp[results,Tryz.results194,go_sem]) rfl ⟨rfl,uH B⟩
theorem Hd(a b:Nat)(m:Int)(o:Nat)(w:World)(H:(m==4)=false)(K:(m==0)=false)
  (t:∀w',Calls Tryz.prog 113 #[.int .u64 a] w' fun r d=>r=.returned (.int .i64 3)∧Below w'.heap.size w' d)
  (z:∀w',Calls Tryz.prog 113 #[.int .u64 b] w' fun r d=>r=.returned (.int .i64 m)∧Below w'.heap.size w' d)
  (A:∀w',Calls Tryz.prog 191 #[.int .u64 9218868437227405312,.int .u64 a,.int .u64 b] w' fun r d=>r=.returned (.int .u64 (o:Nat))∧Below w'.heap.size w' d):
  Calls Tryz.prog 194 #[.int .u64 a,.int .u64 b] w fun r w'=>r=.returned (.tuple #[.int .u64 (o:Nat),.int .u8 0])∧Below w.heap.size w w':=by
 have D:=aa t;have F:=aa z
 clear t z
 go_enter Tryz.func194,Tryz.ntmps194
 go_wp2_with fail
 refine(uH D _).mono ?_
 rintro e L ⟨rfl,f⟩
 go_wp2_with fail
 refine(uH F _).mono ?_
 rintro e M ⟨rfl,h⟩
 have B:=aa (f.trans (h.mono f.size))
 clear f h D F
 have G:=aa A
 clear A
 go_wp2_with fail
 refine(uH G _).mono ?_
 rintro e N ⟨rfl,l⟩
 have B:=aa ((uH B).trans (l.mono (uH B).size))
 clear l G
 go_wp2
 exact bodyPost_ret (v:=.tuple #[.int .u64 (o:Nat),.int .u8 0]) (by simp[results,Tryz.results194,go_sem]) rfl ⟨rfl,uH B⟩
theorem He(a b:Nat)(m:Int)(o:Nat)(w:World)(H:(m==4)=false)(K:(m==0)=false)(L:(m==3)=false)
  (t:∀w',Calls Tryz.prog 113 #[.int .u64 a] w' fun r d=>r=.returned (.int .i64 m)∧Below w'.heap.size w' d)
  (z:∀w',Calls Tryz.prog 113 #[.int .u64 b] w' fun r d=>r=.returned (.int .i64 3)∧Below w'.heap.size w' d)
  (A:∀w',Calls Tryz.prog 191 #[.int .u64 9218868437227405312,.int .u64 a,.int .u64 b] w' fun r d=>r=.returned (.int .u64 (o:Nat))∧Below w'.heap.size w' d):
  Calls Tryz.prog 194 #[.int .u64 a,.int .u64 b] w fun r w'=>r=.returned (.tuple #[.int .u64 (o:Nat),.int .u8 0])∧Below w.heap.size w w':=by
 have D:=aa t;have F:=aa z
 clear t z
 go_enter Tryz.func194,Tryz.ntmps194
 go_wp2_with fail
 refine(uH D _).mono ?_
 rintro e M ⟨rfl,f⟩
 go_wp2_with fail
 refine(uH F _).mono ?_
 rintro e N ⟨rfl,h⟩
 have B:=aa (f.trans (h.mono f.size))
 clear f h D F
 have G:=aa A
 clear A
 go_wp2_with fail
 refine(uH G _).mono ?_
 rintro e O ⟨rfl,l⟩
 have B:=aa ((uH B).trans (l.mono (uH B).size))
 clear l G
 go_wp2
 exact bodyPost_ret (v:=.tuple #[.int .u64 (o:Nat),.int .u8 0]) (by simp[results,Tryz.results194,go_sem]) rfl ⟨rfl,uH B⟩
theorem Hf(a b:Nat)(m:Int)(o:Nat)(w:World)(H:(m==4)=false)(K:(m==3)=false)
  (t:∀w',Calls Tryz.prog 113 #[.int .u64 a] w' fun r d=>r=.returned (.int .i64 0)∧Below w'.heap.size w' d)
  (z:∀w',Calls Tryz.prog 113 #[.int .u64 b] w' fun r d=>r=.returned (.int .i64 m)∧Below w'.heap.size w' d)
  (A:∀w',Calls Tryz.prog 191 #[.int .u64 0,.int .u64 a,.int .u64 b] w' fun r d=>r=.returned (.int .u64 (o:Nat))∧Below w'.heap.size w' d):
  Calls Tryz.prog 194 #[.int .u64 a,.int .u64 b] w fun r w'=>r=.returned (.tuple #[.int .u64 (o:Nat),.int .u8 0])∧Below w.heap.size w w':=by
 have D:=aa t;have F:=aa z
 clear t z
 go_enter Tryz.func194,Tryz.ntmps194
 go_wp2_with fail
 refine(uH D _).mono ?_
 rintro e L ⟨rfl,f⟩
 go_wp2_with fail
 refine(uH F _).mono ?_
 rintro e M ⟨rfl,h⟩
 have B:=aa (f.trans (h.mono f.size))
 clear f h D F
 have G:=aa A
 clear A
 go_wp2_with fail
 refine(uH G _).mono ?_
 rintro e N ⟨rfl,l⟩
 have B:=aa ((uH B).trans (l.mono (uH B).size))
 clear l G
 go_wp2
 exact bodyPost_ret (v:=.tuple #[.int .u64 (o:Nat),.int .u8 0]) (by simp[results,Tryz.results194,go_sem]) rfl ⟨rfl,uH B⟩
theorem Hg(a b:Nat)(m:Int)(o:Nat)(w:World)(H:(m==4)=false)(K:(m==3)=false)(L:(m==0)=false)
  (t:∀w',Calls Tryz.prog 113 #[.int .u64 a] w' fun r d=>r=.returned (.int .i64 m)∧Below w'.heap.size w' d)
  (z:∀w',Calls Tryz.prog 113 #[.int .u64 b] w' fun r d=>r=.returned (.int .i64 0)∧Below w'.heap.size w' d)
  (A:∀w',Calls Tryz.prog 191 #[.int .u64 0,.int .u64 a,.int .u64 b] w' fun r d=>r=.returned (.int .u64 (o:Nat))∧Below w'.heap.size w' d):
  Calls Tryz.prog 194 #[.int .u64 a,.int .u64 b] w fun r w'=>r=.returned (.tuple #[.int .u64 (o:Nat),.int .u8 0])∧Below w.heap.size w w':=by
 have D:=aa t;have F:=aa z
 clear t z
 go_enter Tryz.func194,Tryz.ntmps194
 go_wp2_with fail
 refine(uH D _).mono ?_
 rintro e M ⟨rfl,f⟩
 go_wp2_with fail
 refine(uH F _).mono ?_
 rintro e N ⟨rfl,h⟩
 have B:=aa (f.trans (h.mono f.size))
 clear f h D F
 have G:=aa A
 clear A
 go_wp2_with fail
 refine(uH G _).mono ?_
 rintro e O ⟨rfl,l⟩
 have B:=aa ((uH B).trans (l.mono (uH B).size))
 clear l G
 go_wp2
 exact bodyPost_ret (v:=.tuple #[.int .u64 (o:Nat),.int .u8 0]) (by simp[results,Tryz.results194,go_sem]) rfl ⟨rfl,uH B⟩
theorem Hh(a b:Nat)(m t:Int)(z:Int)(o:Nat)(w:World)(N:(m==4)=false)(O:(m==3)=false)(Q:(m==0)=false)(U:(t==4)=false)(V:(t==3)=false)(X:(t==0)=false)(A:cC w)
  (D:∀w',Calls Tryz.prog 113 #[.int .u64 a] w' fun r d=>r=.returned (.int .i64 m)∧Below w'.heap.size w' d)
  (F:∀w',Calls Tryz.prog 113 #[.int .u64 b] w' fun r d=>r=.returned (.int .i64 t)∧Below w'.heap.size w' d)
  (G:∀w',cC w'→Calls Tryz.prog 206 #[.int .u64 a,.int .u64 b] w' fun r d=>r=.returned (.tuple #[.int .u64 (o:Nat),.int .u8 z])∧Below w'.heap.size w' d):
  Calls Tryz.prog 194 #[.int .u64 a,.int .u64 b] w fun r w'=>r=.returned (.tuple #[.int .u64 (o:Nat),.int .u8 z])∧Below w.heap.size w w':=by
 have H:=aa D;have K:=aa F
 clear D F
 go_enter Tryz.func194,Tryz.ntmps194
 go_wp2_with fail
 refine(uH H _).mono ?_
 rintro e Y ⟨rfl,f⟩
 go_wp2_with fail
 refine(uH K _).mono ?_
 rintro e Z ⟨rfl,h⟩
 have B:=aa (f.trans (h.mono f.size))
 clear f h H K
 have L:=aa G;have M:=aa (A.all (uH B))
 clear G A
 go_wp2_with fail
 refine(uH L _ (uH M)).mono ?_
 rintro e w3 ⟨rfl,l⟩
 have B:=aa ((uH B).trans (l.mono (uH B).size))
 clear l L M
 go_wp2
 exact bodyPost_ret (v:=.tuple #[.int .u64 (o:Nat),.int .u8 z]) (by simp[results,Tryz.results194,go_sem]) rfl ⟨rfl,uH B⟩
theorem AQ(a b:Nat)(w:World)(F:a<18446744073709551616)(G:b<18446744073709551616)(Q:cC w):
  Calls Tryz.prog 194 #[.int .u64 a,.int .u64 b] w fun r w'=>r=.returned (.tuple #[.int .u64 (mV a b:Nat),.int .u8 (mF a b)])∧Below w.heap.size w w':=by
 have d:=fun w'=>cF a w' F
 have f:=fun w'=>cF b w' G
 have N:=fun w'=>fk 9218868437227405312 a b w' F G (by decide)
 have O:=fun w'=>fk 0 a b w' F G (by decide)
 by_cases l:fK a=4
 ·rw[show mV a b=9221120237041090560 by unfold mV;rw[if_pos (Or.inl l)],show mF a b=0 by unfold mF;rw[if_pos (Or.inl l)]]
  rw[l]at d
  exact EF a b _ w d f
 by_cases m:fK b=4
 ·rw[show mV a b=9221120237041090560 by unfold mV;rw[if_pos (Or.inr m)],show mF a b=0 by unfold mF;rw[if_pos (Or.inr m)]]
  rw[m]at f
  exact EG a b _ w (by simp[l]) d f
 have A:¬(fK a=4∨fK b=4):=by omega
 by_cases D:fK a=3∨fK b=3
 ·by_cases z:fK a=0∨fK b=0
  ·rw[show mV a b=9221120237041090560 by unfold mV;rw[if_neg A,if_pos D,if_pos z],show mF a b=16 by unfold mF;rw[if_neg A,if_pos D,if_pos z]]
   by_cases H:fK a=3
   ·have L:fK b=0:=by omega
    rw[H]at d
    rw[L]at f
    exact EH a b w d f
   ·have M:fK b=3:=by omega
    have K:fK a=0:=by omega
    rw[K]at d
    rw[M]at f
    exact EI a b w d f
  ·rw[show mV a b=bZ (fS a^^fS b) 9218868437227405312 by unfold mV;rw[if_neg A,if_pos D,if_neg z],show mF a b=0 by unfold mF;rw[if_neg A,if_pos D,if_neg z]]
   by_cases H:fK a=3
   ·rw[H]at d
    exact Hd a b _ _ w (by simp[m]) (by simp;omega) d f N
   ·have M:fK b=3:=by omega
    rw[M]at f
    exact He a b _ _ w (by simp[l]) (by simp;omega) (by simp[H]) d f N
 ·by_cases z:fK a=0∨fK b=0
  ·have U:rv (fR a)*rv (fR b)=0:=by
    rcases z with h|h
    ·rw[(jU _).2 ((aS a).1 h),Nat.zero_mul]
    ·rw[(jU _).2 ((aS b).1 h),Nat.mul_zero]
   rw[show mV a b=bZ (fS a^^fS b) 0 by unfold mV;rw[if_neg A,if_neg D,U,kv],show mF a b=0 by unfold mF;rw[if_neg A,if_neg D,if_pos z]]
   by_cases K:fK a=0
   ·rw[K]at d
    exact Hf a b _ _ w (by simp[m]) (by simp;omega) d f O
   ·have L:fK b=0:=by omega
    rw[L]at f
    exact Hg a b _ _ w (by simp[l]) (by simp;omega) (by simp[K]) d f O
  ·exact Hh a b _ _ _ _ w (by simp[l]) (by simp;omega) (by simp;omega) (by simp[m]) (by simp;omega) (by simp;omega) Q d f (fun w' t=>o9 a b w' F G (bf a (by omega) l) (bf b (by omega) m) (by omega) (by omega) t)
theorem AR(a:Nat)(k:Int)(f:Bool)(w:World)(z:f=false∨(f=true∧k=0))
  (h:∀w',Calls Tryz.prog 66 #[.int .u64 a] w' fun r d=>r=.returned (.bool f)∧w'=d)
  (l:∀w',Calls Tryz.prog 67 #[.int .u64 a] w' fun r d=>r=.returned (.int .i64 k)∧w'=d):
  Calls Tryz.prog 29 #[.int .u64 a] w fun r w'=>r=.returned (.int .i64 0)∧Below w.heap.size w w':=by
 have m:=aa h;have A:=aa l
 clear h l
 rcases z with rfl|⟨rfl,rfl⟩
 ·go_enter Tryz.func29,Tryz.ntmps29
  go_wp2_with fail
  refine(uH m _).mono ?_
  rintro e t ⟨rfl,rfl⟩
  go_wp2
  go_ret
  exact⟨rfl,Below.refl _ _⟩
 ·go_enter Tryz.func29,Tryz.ntmps29
  go_wp2_with fail
  refine(uH m _).mono ?_
  rintro e t ⟨rfl,rfl⟩
  go_wp2_with fail
  refine(uH A _).mono ?_
  rintro e t ⟨rfl,rfl⟩
  go_wp2
  go_ret
  exact⟨rfl,Below.refl _ _⟩
theorem AU(a:Nat)(k D X t:Int)(w:World)(h0:(k==0)=false)(ht:-2000≤t∧t≤2000)
  (z:∀w',Calls Tryz.prog 66 #[.int .u64 a] w' fun r d=>r=.returned (.bool true)∧w'=d)
  (A:∀w',Calls Tryz.prog 67 #[.int .u64 a] w' fun r d=>r=.returned (.int .i64 k)∧w'=d)
  (F:∀w',Calls Tryz.prog 58 #[.int .u64 a] w' fun r d=>∃u,r=.returned u∧aG d u D X∧Below w'.heap.size w' d)
  (G:∀w' v,aG w' v D X→Calls Tryz.prog 61 #[v] w' fun r d=>r=.returned (.int .i64 t)∧Below w'.heap.size w' d):
  Calls Tryz.prog 29 #[.int .u64 a] w fun r w'=>r=.returned (.int .i64 (t-1))∧Below w.heap.size w w':=by
 have H:=aa z;have K:=aa A;have L:=aa F;have M:=aa G
 clear z A F G
 have hw:=a8 (t-1) (by omega)
 go_enter Tryz.func29,Tryz.ntmps29
 go_wp2_with fail
 refine(uH H _).mono ?_
 rintro e m ⟨rfl,rfl⟩
 go_wp2_with fail
 refine(uH K _).mono ?_
 rintro e m ⟨rfl,rfl⟩
 go_wp2_with fail
 refine(uH L _).mono ?_
 rintro e m ⟨v,rfl,Z,f⟩
 obtain⟨O,Q,U,l,rfl,V⟩:=Z
 have N:=aa (show aG m (.agg #[.bool O,.slice Q l.length U,.int .i64 X]) D X from⟨O,Q,U,l,rfl,V⟩)
 have h:=aa f
 clear V f H K L
 generalize l.length=l1 at*
 go_wp2_with fail
 refine(uH M _ _ (uH N)).mono ?_
 rintro e w2 ⟨rfl,f⟩
 have Y:=aa ((uH h).trans (f.mono (uH h).size))
 clear f h N M
 go_wp2
 go_ret
 exact⟨rfl,uH Y⟩
theorem Ja{w:World}{v:Value}{D X:Int}(d:aG w v D X)(K:D%2=1)(L:D.natAbs<9007199254740992)(M:-1074≤X∧X≤1024):
  Calls Tryz.prog 61 #[v] w fun r w'=>r=.returned (.int .i64 ((bl D.natAbs:Int)+X))∧Below w.heap.size w w':=by
 obtain⟨z,F,G,A,rfl,f,l,H,N,O⟩:=d.right (cW _ (by omega))
 have:=ny z F G A X w f (by omega) (by omega)
 have d:ak A=D.natAbs:=by rw[←H,aP]
 have m:=iy f.2.1 l
 have t:A.length≠0:=fun h=>by
  have:=(aJ l).2 h
  omega
 unfold gO at this
 rw[if_neg t,m,d]at this
 exact this
theorem yk(a:Nat)(w:World)(d:a<18446744073709551616):
  Calls Tryz.prog 29 #[.int .u64 a] w fun r w'=>r=.returned (.int .i64 (eX a))∧Below w.heap.size w w':=by
 have f:=fun w'=>cr a w' d
 have m:=fun w'=>f8 a w' d
 unfold eX
 by_cases h:fK a=4∨fK a=3∨fK a=0
 ·rw[if_pos h]
  refine AR a _ _ w ?_ f m
  rcases gi a with⟨l,_⟩|⟨l,M⟩
  ·exact .inl l
  ·exact .inr ⟨l,by omega⟩
 ·rw[if_neg h]
  have t:=bf a (by omega) (by omega)
  obtain⟨z1,z2,A,D,F,G,H,K,L⟩:=gv a d t (by omega)
  rw[t]at f
  exact AU a _ (fD a) (fX a) _ w (by simp;omega) (by omega) f m (fun w'=>jR a w' d) (fun w' v z=>Ja z z1 z2 (by omega))
def eN(b:Nat):Int:=if ap b=true then 0 else if fS b=true then-1 else 1
theorem EJ(b:Nat)(f s:Bool)(w:World)
  (m:∀w',Calls Tryz.prog 66 #[.int .u64 b] w' fun r d=>r=.returned (.bool f)∧w'=d)
  (t:∀w',Calls Tryz.prog 81 #[.int .u64 b] w' fun r d=>r=.returned (.bool s)∧w'=d):
  Calls Tryz.prog 133 #[.int .u64 b] w fun e w'=>e=.returned (.int .i64 (if f=true then 0 else if s=true then-1 else 1))∧w=w':=by
 have l:=aa m;have z:=aa t
 clear m t
 cases f
 ·cases s
  ·go_enter Tryz.func133,Tryz.ntmps133
   go_wp2_with fail
   refine(uH l _).mono ?_
   rintro e h ⟨rfl,rfl⟩
   go_wp2_with fail
   refine(uH z _).mono ?_
   rintro e h ⟨rfl,rfl⟩
   go_wp2
   go_ret
   exact⟨rfl,rfl⟩
  ·go_enter Tryz.func133,Tryz.ntmps133
   go_wp2_with fail
   refine(uH l _).mono ?_
   rintro e h ⟨rfl,rfl⟩
   go_wp2_with fail
   refine(uH z _).mono ?_
   rintro e h ⟨rfl,rfl⟩
   go_wp2
   go_ret
   exact⟨rfl,rfl⟩
 ·go_enter Tryz.func133,Tryz.ntmps133
  go_wp2_with fail
  refine(uH l _).mono ?_
  rintro e h ⟨rfl,rfl⟩
  go_wp2
  go_ret
  exact⟨rfl,rfl⟩
theorem sY(b:Nat)(w:World)(d:b<18446744073709551616):
  Calls Tryz.prog 133 #[.int .u64 b] w fun e w'=>e=.returned (.int .i64 (eN b))∧w=w':=
 EJ b (ap b) (fS b) w (fun w'=>cr b w' d) (fun w'=>fY b w' d)
theorem yl(a b:Nat)(w:World)
  (f:∀w',Calls Tryz.prog 67 #[.int .u64 a] w' fun r d=>r=.returned (.int .i64 4)∧w'=d):
  Calls Tryz.prog 91 #[.int .u64 a,.int .u64 b] w fun r w'=>r=.returned (.tuple #[.int .i64 0,.bool false])∧Below w.heap.size w w':=by
 have h:=aa f
 clear f
 go_enter Tryz.func91,Tryz.ntmps91
 go_wp2_with fail
 refine(uH h _).mono ?_
 rintro e l ⟨rfl,rfl⟩
 clear h
 go_wp2
 exact bodyPost_ret (v:=.tuple #[.int .i64 0,.bool false]) (by simp[results,Tryz.results91,go_sem]) rfl ⟨rfl,Below.refl _ _⟩
theorem ym(a b:Nat)(f:Int)(w:World)(A:(f==4)=false)
  (h:∀w',Calls Tryz.prog 67 #[.int .u64 a] w' fun r d=>r=.returned (.int .i64 f)∧w'=d)
  (l:∀w',Calls Tryz.prog 67 #[.int .u64 b] w' fun r d=>r=.returned (.int .i64 4)∧w'=d):
  Calls Tryz.prog 91 #[.int .u64 a,.int .u64 b] w fun r w'=>r=.returned (.tuple #[.int .i64 0,.bool false])∧Below w.heap.size w w':=by
 have m:=aa h;have t:=aa l
 clear h l
 go_enter Tryz.func91,Tryz.ntmps91
 go_wp2_with fail
 refine(uH m _).mono ?_
 rintro e z ⟨rfl,rfl⟩
 clear m
 go_wp2_with fail
 refine(uH t _).mono ?_
 rintro e z ⟨rfl,rfl⟩
 clear t
 go_wp2
 exact bodyPost_ret (v:=.tuple #[.int .i64 0,.bool false]) (by simp[results,Tryz.results91,go_sem]) rfl ⟨rfl,Below.refl _ _⟩
theorem fm(a b:Nat)(h l x y o:Int)(w:World)(L:(h==4)=false)(M:(l==4)=false)
  (K:(x=0∧y= -1∧o=1)∨(x=0∧y=1∧o= -1)∨(x= -1∧y=0∧o= -1)∨(x=1∧y=0∧o=1)∨(x= -1∧y= -1∧o=0)∨(x=1∧y=1∧o=0)∨(x= -1∧y=1∧o= -1)∨(x=1∧y= -1∧o=1))
  (m:∀w',Calls Tryz.prog 67 #[.int .u64 a] w' fun r d=>r=.returned (.int .i64 h)∧w'=d)
  (t:∀w',Calls Tryz.prog 67 #[.int .u64 b] w' fun r d=>r=.returned (.int .i64 l)∧w'=d)
  (z:∀w',Calls Tryz.prog 133 #[.int .u64 a] w' fun r d=>r=.returned (.int .i64 x)∧w'=d)
  (A:∀w',Calls Tryz.prog 133 #[.int .u64 b] w' fun r d=>r=.returned (.int .i64 y)∧w'=d):
  Calls Tryz.prog 91 #[.int .u64 a,.int .u64 b] w fun r w'=>r=.returned (.tuple #[.int .i64 o,.bool true])∧Below w.heap.size w w':=by
 have D:=aa m;have F:=aa t;have G:=aa z;have H:=aa A
 clear m t z A
 rcases K with⟨rfl,rfl,rfl⟩|⟨rfl,rfl,rfl⟩|⟨rfl,rfl,rfl⟩|⟨rfl,rfl,rfl⟩|⟨rfl,rfl,rfl⟩|⟨rfl,rfl,rfl⟩|⟨rfl,rfl,rfl⟩|⟨rfl,rfl,rfl⟩
 all_goals
  go_enter Tryz.func91,Tryz.ntmps91
  go_wp2_with fail
  refine(uH D _).mono ?_
  rintro e f ⟨rfl,rfl⟩
  clear D
  go_wp2_with fail
  refine(uH F _).mono ?_
  rintro e f ⟨rfl,rfl⟩
  clear F
  go_wp2_with fail
  refine(uH G _).mono ?_
  rintro e f ⟨rfl,rfl⟩
  clear G
  go_wp2_with fail
  refine(uH H _).mono ?_
  rintro e f ⟨rfl,rfl⟩
  clear H
  go_wp2
  refine bodyPost_ret (v:=.tuple #[.int .i64 _,.bool true]) (by simp[results,Tryz.results91,go_sem];try rfl) rfl ⟨rfl,Below.refl _ _⟩
theorem AV(a b:Nat)(F G z1 z2 l m o:Int)(w:World)(h4:(F==4)=false)(g4:(G==4)=false)
  (H:∀w',Calls Tryz.prog 67 #[.int .u64 a] w' fun r d=>r=.returned (.int .i64 F)∧w'=d)
  (K:∀w',Calls Tryz.prog 67 #[.int .u64 b] w' fun r d=>r=.returned (.int .i64 G)∧w'=d)
  (L:∀w',Calls Tryz.prog 133 #[.int .u64 a] w' fun r d=>r=.returned (.int .i64 0)∧w'=d)
  (M:∀w',Calls Tryz.prog 133 #[.int .u64 b] w' fun r d=>r=.returned (.int .i64 0)∧w'=d)
  (N:∀w',Calls Tryz.prog 58 #[.int .u64 a] w' fun r d=>∃u,r=.returned u∧aG d u z1 l∧Below w'.heap.size w' d)
  (O:∀w',Calls Tryz.prog 58 #[.int .u64 b] w' fun r d=>∃u,r=.returned u∧aG d u z2 m∧Below w'.heap.size w' d)
  (Q:∀w' v u,aG w' v z1 l→aG w' u z2 m→Calls Tryz.prog 25 #[v,u] w' fun r d=>r=.returned (.int .i64 o)∧Below w'.heap.size w' d):
  Calls Tryz.prog 91 #[.int .u64 a,.int .u64 b] w fun r w'=>r=.returned (.tuple #[.int .i64 o,.bool true])∧Below w.heap.size w w':=by
 have U:=aa H;have V:=aa K;have X:=aa L;have Y:=aa M;have Z:=aa N;have K6:=aa O;have K7:=aa Q
 clear H K L M N O Q
 go_enter Tryz.func91,Tryz.ntmps91
 go_wp2_with fail
 refine(uH U _).mono ?_
 rintro e h ⟨rfl,rfl⟩
 clear U
 go_wp2_with fail
 refine(uH V _).mono ?_
 rintro e h ⟨rfl,rfl⟩
 clear V
 go_wp2_with fail
 refine(uH X _).mono ?_
 rintro e h ⟨rfl,rfl⟩
 clear X
 go_wp2_with fail
 refine(uH Y _).mono ?_
 rintro e h ⟨rfl,rfl⟩
 clear Y
 go_wp2_with fail
 refine(uH Z _).mono ?_
 rintro e h ⟨v,rfl,D,f⟩
 obtain⟨n1,a1,c1,L1,rfl,i1⟩:=D
 have HV:=aa (show aG h (.agg #[.bool n1,.slice a1 L1.length c1,.int .i64 l]) z1 l from⟨n1,a1,c1,L1,rfl,i1⟩)
 have t:=aa f
 clear i1 f Z
 go_wp2_with fail
 refine(uH K6 _).mono ?_
 rintro e w2 ⟨v,rfl,D,f⟩
 obtain⟨n2,a2,c2,L2,rfl,i2⟩:=D
 have HU:=aa (show aG w2 (.agg #[.bool n2,.slice a2 L2.length c2,.int .i64 m]) z2 m from⟨n2,a2,c2,L2,rfl,i2⟩)
 have z:=aa ((uH HV).below f)
 have A:=aa ((uH t).trans (f.mono (uH t).size))
 clear i2 f K6 t HV
 go_wp2_with fail
 refine(uH K7 _ _ _ (uH z) (uH HU)).mono ?_
 rintro e w3 ⟨rfl,f⟩
 have B3:=aa ((uH A).trans (f.mono (uH A).size))
 clear f K7 A
 go_wp2
 exact bodyPost_ret (v:=.tuple #[.int .i64 o,.bool true]) (by simp[results,Tryz.results91,go_sem]) rfl ⟨rfl,uH B3⟩
theorem uW{b:Nat}(h:ap b=true):eN b=0:=by unfold eN;rw[if_pos h]
theorem uX{b:Nat}(h:fK b=3):(eN b= -1∧fZ b= -((2^2098:Nat):Int))∨(eN b=1∧fZ b=((2^2098:Nat):Int)):=by
 have f:ap b=false:=by
  rcases gi b with d|d
  ·exact d.1
  ·omega
 have l:=(aQ b).2.1.1 h
 unfold eN fZ pv
 rw[l,Ar,if_neg (by rw[f];decide)]
 cases fS b
 ·exact .inr ⟨rfl,rfl⟩
 ·exact .inl ⟨rfl,rfl⟩
theorem nU(a b:Nat)(w:World)(O:a<18446744073709551616)(Q:b<18446744073709551616):
  Calls Tryz.prog 91 #[.int .u64 a,.int .u64 b] w fun r w'=>r=.returned (.tuple #[.int .i64 (cO a b),.bool (cB a b)])∧Below w.heap.size w w':=by
 have f:=fun w'=>f8 a w' O
 have t:=fun w'=>f8 b w' Q
 have m:=fun w'=>sY a w' O
 have d:=fun w'=>sY b w' Q
 unfold cO cB
 by_cases D:fK a=4
 ·rw[if_pos (Or.inl D),if_pos (Or.inl D)]
  rw[D]at f
  exact yl a b w f
 by_cases F:fK b=4
 ·rw[if_pos (Or.inr F),if_pos (Or.inr F)]
  rw[F]at t
  exact ym a b _ w (by simp[D]) f t
 have h:¬(fK a=4∨fK b=4):=fun h=>h.elim D F
 rw[if_neg h,if_neg h]
 have z:(fK a==4)=false:=by simp[D]
 have A:(fK b==4)=false:=by simp[F]
 have hP:(0:Int)<((2^2098:Nat):Int):=Int.natCast_pos.2 (Nat.two_pow_pos 2098)
 by_cases X:fK a=3
 ·have Y:=uX X
  by_cases H:fK b=3
  ·have V:=uX H
   rcases Y with⟨K,L⟩|⟨K,L⟩<;>rcases V with⟨M,N⟩|⟨M,N⟩<;>rw[K]at m<;>rw[M]at d<;>rw[L,N]<;>generalize ((2^2098:Nat):Int)=P at*
   ·rw[iY rfl];exact fm a b _ _ _ _ _ w z A (by decide) f t m d
   ·rw[g9 (by omega)];exact fm a b _ _ _ _ _ w z A (by decide) f t m d
   ·rw[ia (by omega)];exact fm a b _ _ _ _ _ w z A (by decide) f t m d
   ·rw[iY rfl];exact fm a b _ _ _ _ _ w z A (by decide) f t m d
  ·have G:=bf b H F
   have l:=jG b G
   rw[uW G]at d
   rcases Y with⟨K,L⟩|⟨K,L⟩<;>rw[K]at m<;>rw[L]<;>generalize (2^2098:Nat)=P at*
   ·rw[g9 (by omega)];exact fm a b _ _ _ _ _ w z A (by decide) f t m d
   ·rw[ia (by omega)];exact fm a b _ _ _ _ _ w z A (by decide) f t m d
 ·have U:=bf a X D
  have la:=jG a U
  rw[uW U]at m
  by_cases H:fK b=3
  ·have V:=uX H
   rcases V with⟨M,N⟩|⟨M,N⟩<;>rw[M]at d<;>rw[N]<;>generalize (2^2098:Nat)=P at*
   ·rw[ia (by omega)];exact fm a b _ _ _ _ _ w z A (by decide) f t m d
   ·rw[g9 (by omega)];exact fm a b _ _ _ _ _ w z A (by decide) f t m d
  ·have G:=bf b H F
   rw[uW G]at d
   clear la
   obtain⟨d1,d2⟩:=dK a O U
   obtain⟨d3,d4⟩:=dK b Q G
   exact AV a b _ _ (fD a) (fD b) (fX a) (fX b) _ w z A f t m d (fun w'=>jR a w' O) (fun w'=>jR b w' Q)
    (fun w' v u Z hu=>IX (W:=2099) (lo:=-1074) (z1:=fZ a) (z2:=fZ b) (by rw[d1,d2];exact Z) (by rw[d3,d4];exact hu) (lf a U) (lf b G))
theorem yn(a:Nat)(w:World)(d:a<18446744073709551616):
  Calls Tryz.prog 49 #[.int .u64 a] w fun e w'=>e=.returned (.int .u64 (fR a:Nat))∧w=w':=by
 have f:=aa (fun w'=>fY a w' d)
 have h:=aa (fun w'=>iR a w' d)
 cases hs:fS a
 ·rw[hs]at f
  rw[sL a hs d]
  clear hs d h
  go_enter Tryz.func49,Tryz.ntmps49
  go_wp2_with fail
  refine(uH f _).mono ?_
  rintro e l ⟨rfl,rfl⟩
  clear f
  go_wp2
  go_ret
  exact⟨rfl,rfl⟩
 ·rw[hs]at f
  rw[pU a hs d]
  clear hs d
  generalize fN a=q at*
  go_enter Tryz.func49,Tryz.ntmps49
  go_wp2_with fail
  refine(uH f _).mono ?_
  rintro e l ⟨rfl,rfl⟩
  clear f
  go_wp2_with fail
  refine(uH h _).mono ?_
  rintro e m ⟨rfl,rfl⟩
  clear h
  go_wp2
  go_ret
  exact⟨rfl,rfl⟩
theorem d9(R:Nat)(W:World):(callFunc 136 #[.int .u64 R]).run Tryz.prog W=.ok (.value (.float .f64 R)) W:=by
 rw[run_callFunc_extern (e:=Extern.MathFloatBits.float64frombits) Tryz.func136 (by kernel_rfl) (by kernel_rfl) (by kernel_rfl) (by kernel_rfl)]
 show((pure (.float .f64 ((R:Int).toNat)):Sem Value).run Tryz.prog W).andThen (fun v w'=>.ok (Next.value v) w')=_
 simp
def fC(o:Option Nat)(x y:Nat)(w:World):Nat:=
 match o with
 |some r=>r
 |none=>(Question.nanBits .f64 x y).cut (w.tape w.drawn (.nanBits .f64 x y))
def lj(o:Option Nat)(w:World):World:=
 match o with
 |some _=>w
 |none=>{w with drawn:=w.drawn+1}
theorem AW(t:TypeId)(x y:Nat)(w:World):(binOp .add t (.float .f64 x) (.float .f64 y)).run Tryz.prog w=.ok (.float .f64 (fC (Ieee.double.add x y) x y w)) (lj (Ieee.double.add x y) w):=by
 have d:FloatKind.f64.format=Ieee.double:=rfl
 cases h:Ieee.double.add x y with
 |some r=>exact run_float_arith w .add t .f64 x y r (by unfold floatBits;rw[d];exact h)
 |none=>
  simp only[binOp,Op.floatArith,d,h]
  rfl
theorem AX(t:TypeId)(x y:Nat)(w:World):(binOp .sub t (.float .f64 x) (.float .f64 y)).run Tryz.prog w=.ok (.float .f64 (fC (Ieee.double.sub x y) x y w)) (lj (Ieee.double.sub x y) w):=by
 have d:FloatKind.f64.format=Ieee.double:=rfl
 cases h:Ieee.double.sub x y with
 |some r=>exact run_float_arith w .sub t .f64 x y r (by unfold floatBits;rw[d];exact h)
 |none=>
  simp only[binOp,Op.floatArith,d,h]
  rfl
theorem gy(o:Option Nat)(w:World):Below w.heap.size w (lj o w):=by
 cases o
 ·exact(Below.refl _ _).drew
 ·exact Below.refl _ _
theorem lu(x y:Nat)(w:World):fC none x y w<18446744073709551616∧fK (fC none x y w)=4:=by
 have h:fC none x y w=(w.tape w.drawn (.nanBits .f64 x y)%2)*9223372036854775808+9218868437227405312+1+(w.tape w.drawn (.nanBits .f64 x y)/2)%4503599627370495:=rfl
 rw[h]
 clear h
 generalize w.tape w.drawn (.nanBits .f64 x y)=t
 have d:=Nat.mod_lt t (show 0<2 by decide)
 have f:=Nat.mod_lt (t/2) (show 0<4503599627370495 by decide)
 generalize t/2%4503599627370495=u at*
 generalize t%2=v at*
 refine⟨by omega,(aQ _).1.2 ?_⟩
 unfold fR
 obtain rfl|rfl:v=0∨v=1:=by omega
 ·omega
 ·omega
theorem kz(R:Nat)(W:World):(callFunc 64 #[.float .f64 R]).run Tryz.prog W=.ok (.value (.int .u64 R)) W:=by
 rw[run_callFunc_extern (e:=Extern.MathFloatBits.float64bits) Tryz.func64 (by kernel_rfl) (by kernel_rfl) (by kernel_rfl) (by kernel_rfl)]
 show((pure (.int .u64 (R:Int)):Sem Value).run Tryz.prog W).andThen (fun v w'=>.ok (Next.value v) w')=_
 simp
theorem eY(b:Nat)(w:World)(h:b<18446744073709551616):
  Calls Tryz.prog 63 #[.int .u64 b] w fun r w'=>r=.returned (.int .u64 ((if fK b=4 then 9221120237041090560 else b:Nat):Int))∧w=w':=by
 have K:=aa (fun w'=>f8 b w' h)
 have l:IntKind.u64.wrap (b:Int)=(b:Int):=by simp only[IntKind.wrap_u64];omega
 by_cases d:fK b=4
 ·rw[if_pos d]
  rw[d]at K
  clear d h
  go_enter Tryz.func63,Tryz.ntmps63
  go_wp2_with fail
  refine(uH K _).mono ?_
  rintro e f ⟨rfl,rfl⟩
  go_wp2
  go_ret
  exact⟨rfl,rfl⟩
 ·rw[if_neg d]
  have m:(fK b==4)=false:=by simp[d]
  generalize fK b=k at*
  clear d h
  go_enter Tryz.func63,Tryz.ntmps63
  go_wp2_with fail
  refine(uH K _).mono ?_
  rintro e f ⟨rfl,rfl⟩
  go_wp2
  go_ret
  exact⟨rfl,rfl⟩
theorem p5(a b:Nat)(w w':World)(m:a<18446744073709551616)(t:b<18446744073709551616):
  Calls Tryz.prog 63 #[.int .u64 (fC (Ieee.double.add a b) a b w:Nat)] w' fun r z=>r=.returned (.int .u64 (aV a b:Nat))∧w'=z:=by
 cases h:aN a b with
 |true=>
  obtain⟨G,H⟩:=pR a b m t h
  rw[G,H]
  obtain⟨K,d⟩:=lu a b w
  have:=eY _ w' K
  rw[if_pos d]at this
  exact this
 |false=>
  rw[pT a b m t h]
  have:=eY (aV a b) w' (nI a b m t)
  by_cases d:fK (aV a b)=4
  ·exfalso
   have A:=of_decide_eq_false h
   have D:¬(fK a=4∨fK b=4):=fun e=>A (Or.inl e)
   unfold aV at d
   rw[if_neg D]at d
   by_cases f:fK a=3
   ·rw[if_pos f,if_neg (fun h=>A (Or.inr ⟨f,h.1,h.2⟩))]at d
    omega
   ·rw[if_neg f]at d
    by_cases l:fK b=3
    ·rw[if_pos l]at d;omega
    ·rw[if_neg l]at d
     have L:=(qI a b (bf a f (by omega)) (bf b l (by omega))).1
     have F:=cN (aZ a b).natAbs (-1074)
     have e:=(sJ a b f (by omega) l (by omega)).1
     rw[←e]at d
     have:=(aQ _).1.1 d
     omega
  ·rw[if_neg d]at this
   exact this
end Go.Proofs.YtnnfjeieennffaaGreatDoor
