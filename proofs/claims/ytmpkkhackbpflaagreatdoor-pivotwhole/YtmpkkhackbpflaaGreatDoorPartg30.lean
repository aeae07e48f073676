/- Part 30 of the texts. -/
import Derived.Test.YtmpkkhackbpflaaGreatDoorPartg29
set_option maxHeartbeats 4000000
set_option maxRecDepth 20000
namespace Go.Proofs.YtmpkkhackbpflaaGreatDoor
open Go.RowKit
theorem GZ(a b:Nat)(H:Int)(w:World)
  (z:∀d,Calls Tryz.prog 122 #[.int .u64 a] d fun r h=>r=.returned (.int .i64 4)∧Below d.heap.size d h)
  (D:∀d,Calls Tryz.prog 122 #[.int .u64 b] d fun r h=>r=.returned (.int .i64 H)∧Below d.heap.size d h):
  Calls Tryz.prog 223 #[.int .u64 a,.int .u64 b] w fun r d=>r=.returned (.tuple #[.int .u64 9221120237041090560,.int .u8 0])∧Below w.heap.size w d:=by
 have F:=ac z;have G:=ac D
 clear z D
 go_enter Tryz.func223,Tryz.ntmps223
 go_wp2_with fail
 refine(uH F _).mono ?_
 rintro e I ⟨rfl,l⟩
 go_wp2_with fail
 refine(uH G _).mono ?_
 rintro e J ⟨rfl,t⟩
 have B:=ac (l.trans (t.mono l.size))
 clear l t F G
 go_wp2
 exact bodyPost_ret (v:=.tuple #[.int .u64 9221120237041090560,.int .u8 0]) (by simp[results,Tryz.results223,go_sem]) rfl ⟨rfl,uH B⟩
theorem G6(a b:Nat)(z:Int)(w:World)(I:(z==4)=false)
  (D:∀d,Calls Tryz.prog 122 #[.int .u64 a] d fun r h=>r=.returned (.int .i64 z)∧Below d.heap.size d h)
  (F:∀d,Calls Tryz.prog 122 #[.int .u64 b] d fun r h=>r=.returned (.int .i64 4)∧Below d.heap.size d h):
  Calls Tryz.prog 223 #[.int .u64 a,.int .u64 b] w fun r d=>r=.returned (.tuple #[.int .u64 9221120237041090560,.int .u8 0])∧Below w.heap.size w d:=by
 have G:=ac D;have H:=ac F
 clear D F
 go_enter Tryz.func223,Tryz.ntmps223
 go_wp2_with fail
 refine(uH G _).mono ?_
 rintro e J ⟨rfl,l⟩
 go_wp2_with fail
 refine(uH H _).mono ?_
 rintro e L ⟨rfl,t⟩
 have B:=ac (l.trans (t.mono l.size))
 clear l t G H
 go_wp2
 exact bodyPost_ret (v:=.tuple #[.int .u64 9221120237041090560,.int .u8 0]) (by simp[results,Tryz.results223,go_sem]) rfl ⟨rfl,uH B⟩
theorem G7(a b:Nat)(w:World)(H:((a:Int)==(b:Int))=false)
  (z:∀d,Calls Tryz.prog 122 #[.int .u64 a] d fun r h=>r=.returned (.int .i64 3)∧Below d.heap.size d h)
  (D:∀d,Calls Tryz.prog 122 #[.int .u64 b] d fun r h=>r=.returned (.int .i64 3)∧Below d.heap.size d h):
  Calls Tryz.prog 223 #[.int .u64 a,.int .u64 b] w fun r d=>r=.returned (.tuple #[.int .u64 9221120237041090560,.int .u8 16])∧Below w.heap.size w d:=by
 have F:=ac z;have G:=ac D
 clear z D
 go_enter Tryz.func223,Tryz.ntmps223
 go_wp2_with fail
 refine(uH F _).mono ?_
 rintro e I ⟨rfl,l⟩
 go_wp2_with fail
 refine(uH G _).mono ?_
 rintro e J ⟨rfl,t⟩
 have B:=ac (l.trans (t.mono l.size))
 clear l t F G
 go_wp2
 exact bodyPost_ret (v:=.tuple #[.int .u64 9221120237041090560,.int .u8 16]) (by simp[results,Tryz.results223,go_sem]) rfl ⟨rfl,uH B⟩
theorem G8(a b:Nat)(w:World)(H:((a:Int)==(b:Int))=true)
  (z:∀d,Calls Tryz.prog 122 #[.int .u64 a] d fun r h=>r=.returned (.int .i64 3)∧Below d.heap.size d h)
  (D:∀d,Calls Tryz.prog 122 #[.int .u64 b] d fun r h=>r=.returned (.int .i64 3)∧Below d.heap.size d h):
  Calls Tryz.prog 223 #[.int .u64 a,.int .u64 b] w fun r d=>r=.returned (.tuple #[.int .u64 a,.int .u8 0])∧Below w.heap.size w d:=by
 have F:=ac z;have G:=ac D
 clear z D
 go_enter Tryz.func223,Tryz.ntmps223
 go_wp2_with fail
 refine(uH F _).mono ?_
 rintro e I ⟨rfl,l⟩
 go_wp2_with fail
 refine(uH G _).mono ?_
 rintro e J ⟨rfl,t⟩
 have B:=ac (l.trans (t.mono l.size))
 clear l t F G
 go_wp2
 exact bodyPost_ret (v:=.tuple #[.int .u64 a,.int .u8 0]) (by simp[results,Tryz.results223,go_sem]) rfl ⟨rfl,uH B⟩
theorem KM(a b:Nat)(z:Int)(w:World)(I:(z==4)=false)(J:(z==3)=false)
  (D:∀d,Calls Tryz.prog 122 #[.int .u64 a] d fun r h=>r=.returned (.int .i64 3)∧Below d.heap.size d h)
  (F:∀d,Calls Tryz.prog 122 #[.int .u64 b] d fun r h=>r=.returned (.int .i64 z)∧Below d.heap.size d h):
  Calls Tryz.prog 223 #[.int .u64 a,.int .u64 b] w fun r d=>r=.returned (.tuple #[.int .u64 a,.int .u8 0])∧Below w.heap.size w d:=by
 have G:=ac D;have H:=ac F
 clear D F
 go_enter Tryz.func223,Tryz.ntmps223
 go_wp2_with fail
 refine(uH G _).mono ?_
 rintro e L ⟨rfl,l⟩
 go_wp2_with fail
 refine(uH H _).mono ?_
 rintro e M ⟨rfl,t⟩
 have B:=ac (l.trans (t.mono l.size))
 clear l t G H
 go_wp2
 exact bodyPost_ret (v:=.tuple #[.int .u64 a,.int .u8 0]) (by simp[results,Tryz.results223,go_sem]) rfl ⟨rfl,uH B⟩
theorem KQ(a b:Nat)(z:Int)(w:World)(I:(z==4)=false)(J:(z==3)=false)
  (D:∀d,Calls Tryz.prog 122 #[.int .u64 a] d fun r h=>r=.returned (.int .i64 z)∧Below d.heap.size d h)
  (F:∀d,Calls Tryz.prog 122 #[.int .u64 b] d fun r h=>r=.returned (.int .i64 3)∧Below d.heap.size d h):
  Calls Tryz.prog 223 #[.int .u64 a,.int .u64 b] w fun r d=>r=.returned (.tuple #[.int .u64 b,.int .u8 0])∧Below w.heap.size w d:=by
 have G:=ac D;have H:=ac F
 clear D F
 go_enter Tryz.func223,Tryz.ntmps223
 go_wp2_with fail
 refine(uH G _).mono ?_
 rintro e L ⟨rfl,l⟩
 go_wp2_with fail
 refine(uH H _).mono ?_
 rintro e M ⟨rfl,t⟩
 have B:=ac (l.trans (t.mono l.size))
 clear l t G H
 go_wp2
 exact bodyPost_ret (v:=.tuple #[.int .u64 b,.int .u8 0]) (by simp[results,Tryz.results223,go_sem]) rfl ⟨rfl,uH B⟩
theorem KU(a b:Nat)(D F G:Int)(o:Nat)(w:World)(T:(D==4)=false)(U:(D==3)=false)(V:(F==4)=false)(X:(F==3)=false)(H:c8 w)
  (I:∀d,c8 d→Calls Tryz.prog 240 #[.int .u64 a,.int .u64 b] d fun r h=>r=.returned (.tuple #[.int .u64 (o:Nat),.int .u8 G])∧Below d.heap.size d h)
  (J:∀d,Calls Tryz.prog 122 #[.int .u64 a] d fun r h=>r=.returned (.int .i64 D)∧Below d.heap.size d h)
  (L:∀d,Calls Tryz.prog 122 #[.int .u64 b] d fun r h=>r=.returned (.int .i64 F)∧Below d.heap.size d h):
  Calls Tryz.prog 223 #[.int .u64 a,.int .u64 b] w fun r d=>r=.returned (.tuple #[.int .u64 (o:Nat),.int .u8 G])∧Below w.heap.size w d:=by
 have M:=ac J;have N:=ac L
 clear J L
 go_enter Tryz.func223,Tryz.ntmps223
 go_wp2_with fail
 refine(uH M _).mono ?_
 rintro e Y ⟨rfl,l⟩
 go_wp2_with fail
 refine(uH N _).mono ?_
 rintro e Z ⟨rfl,t⟩
 have B:=ac (l.trans (t.mono l.size))
 clear l t M N
 have O:=ac I;have Q:=ac (H.all (uH B))
 clear I H
 go_wp2_with fail
 refine(uH O _ (uH Q)).mono ?_
 rintro e w3 ⟨rfl,z⟩
 have B:=ac ((uH B).trans (z.mono (uH B).size))
 clear z O Q
 go_wp2
 exact bodyPost_ret (v:=.tuple #[.int .u64 (o:Nat),.int .u8 G]) (by simp[results,Tryz.results223,go_sem]) rfl ⟨rfl,uH B⟩
theorem vG(a b:Nat)(w:World)(N:a<18446744073709551616)(O:b<18446744073709551616)(Q:c8 w):
  Calls Tryz.prog 223 #[.int .u64 a,.int .u64 b] w fun r J=>r=.returned (.tuple #[.int .u64 (aV a b:Nat),.int .u8 (aF a b)])∧Below w.heap.size w J:=by
 have z:=fun J=>dj a J N
 have D:=fun J=>dj b J O
 by_cases L:fK a=4
 ·have F:aV a b=9221120237041090560:=by unfold aV;rw[if_pos (Or.inl L)]
  have G:aF a b=0:=by unfold aF;rw[if_pos (Or.inl L)]
  rw[F,G]
  rw[L]at z
  exact GZ a b _ w z D
 by_cases M:fK b=4
 ·have F:aV a b=9221120237041090560:=by unfold aV;rw[if_pos (Or.inr M)]
  have G:aF a b=0:=by unfold aF;rw[if_pos (Or.inr M)]
  rw[F,G]
  rw[M]at D
  exact G6 a b _ w (by simp[L]) z D
 have I:¬(fK a=4∨fK b=4):=by omega
 by_cases d:fK a=3
 ·by_cases l:fK b=3
  ·by_cases H:a=b
   ·have F:aV a b=a:=by unfold aV;rw[if_neg I,if_pos d,if_neg (fun h=>h.2 H)]
    have G:aF a b=0:=by unfold aF;rw[if_neg I,if_pos d,if_neg (fun h=>h.2 H)]
    rw[F,G]
    rw[d]at z
    rw[l]at D
    exact G8 a b w (by simp[H]) z D
   ·have F:aV a b=9221120237041090560:=by unfold aV;rw[if_neg I,if_pos d,if_pos ⟨l,H⟩]
    have G:aF a b=16:=by unfold aF;rw[if_neg I,if_pos d,if_pos ⟨l,H⟩]
    rw[F,G]
    rw[d]at z
    rw[l]at D
    exact G7 a b w (by simp;omega) z D
  ·have F:aV a b=a:=by unfold aV;rw[if_neg I,if_pos d,if_neg (fun h=>l h.1)]
   have G:aF a b=0:=by unfold aF;rw[if_neg I,if_pos d,if_neg (fun h=>l h.1)]
   rw[F,G]
   rw[d]at z
   exact KM a b _ w (by simp[M]) (by simp[l]) z D
 ·by_cases l:fK b=3
  ·have F:aV a b=b:=by unfold aV;rw[if_neg I,if_neg d,if_pos l]
   have G:aF a b=0:=by unfold aF;rw[if_neg I,if_neg d,if_pos l]
   rw[F,G]
   rw[l]at D
   exact KQ a b _ w (by simp[L]) (by simp[d]) z D
  ·exact KU a b _ _ _ _ w (by simp[L]) (by simp[d]) (by simp[M]) (by simp[l]) Q (fun J t=>qT a b J N O (gt a d L) (gt b l M) t) z D
theorem Eg(a b:Nat)(w:World)(t:a<18446744073709551616)(h:b<18446744073709551616)(z:c8 w):
  Calls Tryz.prog 197 #[.int .u64 a,.int .u64 b] w fun r l=>r=.returned (.tuple #[.int .u64 (aV a (fN b):Nat),.int .u8 (aF a (fN b))])∧Below w.heap.size w l:=by
 have D:=ac (fun l=>ig b l h)
 have F:=ac (vG a (fN b) w t (jF b h) z)
 clear t h z
 generalize aV a (fN b)=o at*
 generalize aF a (fN b)=G at*
 go_enter Tryz.func197,Tryz.ntmps197
 go_wp2_with fail
 refine(uH D _).mono ?_
 rintro e H ⟨rfl,rfl⟩
 go_wp2_with fail
 refine Calls.mono (uH F) ?_
 rintro e I ⟨rfl,d⟩
 have B:=ac d
 clear d D F
 go_wp2
 exact bodyPost_ret (v:=.tuple #[.int .u64 o,.int .u8 G]) (by simp[results,Tryz.results197,go_sem]) rfl ⟨rfl,uH B⟩
theorem tq(z a b:Nat)(s t:Bool)(o:Nat)(w:World)
  (F:∀d,Calls Tryz.prog 129 #[.int .u64 a] d fun r h=>r=.returned (.bool s)∧Below d.heap.size d h)
  (G:∀d,Calls Tryz.prog 129 #[.int .u64 b] d fun r h=>r=.returned (.bool t)∧Below d.heap.size d h)
  (H:∀d,Calls Tryz.prog 130 #[.int .u64 z] d fun r h=>r=.returned (.int .u64 (o:Nat))∧d=h):
  Calls Tryz.prog 224 #[.int .u64 z,.int .u64 a,.int .u64 b] w fun r d=>r=.returned (.int .u64 ((if(s^^t)=true then o else z:Nat):Int))∧Below w.heap.size w d:=by
 have I:=ac F;have J:=ac G;have L:=ac H
 clear F G H
 go_enter Tryz.func224,Tryz.ntmps224
 go_wp2_with fail
 refine(uH I _).mono ?_
 rintro e N ⟨rfl,l⟩
 go_wp2_with fail
 refine(uH J _).mono ?_
 rintro e O ⟨rfl,D⟩
 have B:=ac (l.trans (D.mono l.size))
 clear l D I J
 cases s<;>cases t
 ·go_wp2
  go_ret
  exact⟨rfl,uH B⟩
 ·go_wp2_with fail
  refine(uH L _).mono ?_
  rintro e M ⟨rfl,rfl⟩
  go_wp2
  go_ret
  exact⟨rfl,uH B⟩
 ·go_wp2_with fail
  refine(uH L _).mono ?_
  rintro e M ⟨rfl,rfl⟩
  go_wp2
  go_ret
  exact⟨rfl,uH B⟩
 ·go_wp2
  go_ret
  exact⟨rfl,uH B⟩
theorem gK(z a b:Nat)(w:World)(l:a<18446744073709551616)(t:b<18446744073709551616)(D:z<9223372036854775808):
  Calls Tryz.prog 224 #[.int .u64 z,.int .u64 a,.int .u64 b] w fun r d=>r=.returned (.int .u64 (gc (fS a^^fS b) z:Nat))∧Below w.heap.size w d:=by
 have h:=tq z a b (fS a) (fS b) (fN z) w (fun d=>fh a d l) (fun d=>fh b d t) (fun d=>ig z d (by omega))
 have e:(if(fS a^^fS b)=true then fN z else z:Nat)=gc (fS a^^fS b) z:=by
  cases (fS a^^fS b)
  ·rw[cn];rfl
  ·rw[←Dt z D];rfl
 rwa[e]at h
theorem vH(a b:Nat)(z1 z2 z3 z D F fl:Int)(w:World)(o:Nat)
  (C1:∀l,Below w.heap.size w l→Calls Tryz.prog 193 #[.int .u64 a] l fun r t=>ow t r 0 z1 z∧Below l.heap.size l t)
  (C2:∀l,Below w.heap.size w l→Calls Tryz.prog 193 #[.int .u64 b] l fun r t=>ow t r 0 z2 D∧Below l.heap.size l t)
  (C3:∀l v u,Below w.heap.size w l→bc l v z1 z→bc l u z2 D→Calls Tryz.prog 241 #[v,u] l fun r t=>ow t r 0 z3 F∧Below l.heap.size l t)
  (C4:∀l v,Below w.heap.size w l→bc l v z3 F→Calls Tryz.prog 195 #[v] l fun r t=>r=.returned (.tuple #[.int .u64 (o:Nat),.int .u8 fl,.int .i64 0])∧Below l.heap.size l t):
  Calls Tryz.prog 225 #[.int .u64 a,.int .u64 b] w fun r l=>r=.returned (.tuple #[.int .u64 (o:Nat),.int .u8 fl])∧Below w.heap.size w l:=by
 have K1:=ac C1;have K2:=ac C2;have K3:=ac C3;have K4:=ac C4
 clear C1 C2 C3 C4
 go_enter Tryz.func225,Tryz.ntmps225
 go_wp2_with fail
 refine(uH K1 _ (Below.refl _ _)).mono ?_
 rintro e I ⟨⟨v,rfl,J⟩,h⟩
 obtain⟨Y,Z,c1,L1,rfl,i1⟩:=J
 have d:Below I.heap.size I (I.alloc (.cells #[.bool Y,.slice Z L1.length c1,.int .i64 z] 57)):=(Below.refl _ _).alloc (Nat.le_refl _) _
 have HV:=ac ((show bc I (.agg #[.bool Y,.slice Z L1.length c1,.int .i64 z]) z1 z from⟨Y,Z,c1,L1,rfl,i1⟩).below d)
 have X:=ac (a8.new I (.bool Y) (.slice Z L1.length c1) (.int .i64 z))
 have N:=ac (h.trans (d.mono h.size))
 clear i1 h d K1
 go_wp2_with fail
 refine(uH K2 _ (uH N)).mono ?_
 rintro e L ⟨⟨v,rfl,J⟩,h⟩
 obtain⟨n2,a2,c2,L2,rfl,i2⟩:=J
 have d:Below L.heap.size L (L.alloc (.cells #[.bool n2,.slice a2 L2.length c2,.int .i64 D] 57)):=(Below.refl _ _).alloc (Nat.le_refl _) _
 have HU:=ac ((show bc L (.agg #[.bool n2,.slice a2 L2.length c2,.int .i64 D]) z2 D from⟨n2,a2,c2,L2,rfl,i2⟩).below d)
 have G:=ac (((uH HV).below h).below d)
 have O:=((uH X).all h).all d
 have Q:=a8.new L (.bool n2) (.slice a2 L2.length c2) (.int .i64 D)
 have T:=ac ((uH N).trans ((h.trans (d.mono h.size)).mono (uH N).size))
 have y0:=O.c0;have y1:=O.c1;have y2:=O.c2;have u0:=Q.c0;have u1:=Q.c1;have u2:=Q.c2
 clear i2 h d K2 N HV X O Q
 go_wp2_with fail
 refine(uH K3 _ _ _ (uH T) (uH G) (uH HU)).mono ?_
 rintro e M ⟨⟨v,rfl,J⟩,h⟩
 clear y0 y1 y2 u0 u1 u2
 obtain⟨n3,a3,c3,H,rfl,i3⟩:=J
 have d:Below M.heap.size M (M.alloc (.cells #[.bool n3,.slice a3 H.length c3,.int .i64 F] 57)):=(Below.refl _ _).alloc (Nat.le_refl _) _
 have HX:=ac ((show bc M (.agg #[.bool n3,.slice a3 H.length c3,.int .i64 F]) z3 F from⟨n3,a3,c3,H,rfl,i3⟩).below d)
 have U:=ac ((uH T).trans ((h.trans (d.mono h.size)).mono (uH T).size))
 have V:=a8.new M (.bool n3) (.slice a3 H.length c3) (.int .i64 F)
 have y0:=V.c0;have y1:=V.c1;have y2:=V.c2
 clear i3 h d K3 T G HU V
 generalize H.length=l3 at*
 go_wp2_with fail
 refine(uH K4 _ _ (uH U) (uH HX)).mono ?_
 rintro e w4 ⟨rfl,h⟩
 have B4:=ac ((uH U).trans (h.mono (uH U).size))
 clear h K4 U
 go_wp2
 exact bodyPost_ret (v:=.tuple #[.int .u64 o,.int .u8 fl]) (by simp[results,Tryz.results225,go_sem]) rfl ⟨rfl,uH B4⟩
theorem M6:(2:Nat)^2098*2^2098=2^4196:=by decide+kernel
theorem KW(a b:Nat)(d:ah a=true)(h:ah b=true):qQ (-1074+-1074) 4196 (fZ a*fZ b):=by
 have l:=jR a d
 have t:=jR b h
 refine⟨?_,by decide,by decide,by decide⟩
 have z:=M6
 have D:=Nat.two_pow_pos 2098
 rw[Int.natAbs_mul]
 generalize (2:Nat)^4196=P at*
 generalize (2:Nat)^2098=Q at*
 rw[←z]
 exact Nat.mul_lt_mul_of_lt_of_le l (Nat.le_of_lt t) D
theorem xO(b:Nat)(d:fK b≠0):fZ b≠0∧decide (fZ b<0)=fS b:=by
 have h:rv (fR b)≠0:=fun e=>d ((cP b).2 ((nG _).1 e))
 unfold fZ pv
 cases fS b
 ·simp only[Bool.false_eq_true,if_false]
  exact⟨by omega,decide_eq_false (by omega)⟩
 ·simp only[if_true]
  exact⟨by omega,decide_eq_true (by omega)⟩
theorem KY(a b:Nat)(z:fK a≠0)(D:fK b≠0):fZ a*fZ b≠0∧decide (fZ a*fZ b<0)=(fS a^^fS b):=by
 obtain⟨l,F⟩:=xO a z
 obtain⟨t,G⟩:=xO b D
 refine⟨Int.mul_ne_zero l t,?_⟩
 rw[←F,←G]
 generalize fZ a=x at*
 generalize fZ b=y at*
 rcases Int.lt_or_gt_of_ne l with d|d<;>rcases Int.lt_or_gt_of_ne t with h|h
 ·have:=Int.mul_pos_of_neg_of_neg d h
  rw[decide_eq_true d,decide_eq_true h,decide_eq_false (by omega)];rfl
 ·have:=Int.mul_neg_of_neg_of_pos d h
  rw[decide_eq_true d,decide_eq_false (show¬y<0 by omega),decide_eq_true this];rfl
 ·have:=Int.mul_neg_of_pos_of_neg d h
  rw[decide_eq_false (show¬x<0 by omega),decide_eq_true h,decide_eq_true this];rfl
 ·have:=Int.mul_pos d h
  rw[decide_eq_false (show¬x<0 by omega),decide_eq_false (show¬y<0 by omega),decide_eq_false (show¬x*y<0 by omega)];rfl
theorem qU(a b:Nat)(w:World)(I:a<18446744073709551616)(J:b<18446744073709551616)(l:ah a=true)(t:ah b=true)(D:fK a≠0)(F:fK b≠0)(z:c8 w):
  Calls Tryz.prog 225 #[.int .u64 a,.int .u64 b] w fun r d=>r=.returned (.tuple #[.int .u64 (mV a b:Nat),.int .u8 (mF a b)])∧Below w.heap.size w d:=by
 obtain⟨T,U⟩:=fJ a I l
 obtain⟨V,X⟩:=fJ b J t
 have H:=KW a b l t
 obtain⟨Y,z1⟩:=KY a b D F
 have N:∀d,Below w.heap.size w d→_:=fun d h=>ef a d I l (z.all h)
 have O:∀d,Below w.heap.size w d→_:=fun d h=>ef b d J t (z.all h)
 have Q:∀d v u,Below w.heap.size w d→bc d v (fD a) (fX a)→bc d u (fD b) (fX b)→_:=fun d v u h G M=>
  NA (W1:=2099) (W2:=2099) (W:=4196) (lo1:=-1074) (lo2:=-1074) (z1:=fZ a) (z2:=fZ b) (by rw[T,U];exact G) (by rw[V,X];exact M) (sR a l) (sR b t) H (z.all h)
 rw[(xq a b l t D F).1,(xq a b l t D F).2]
 have L:∀d v,Below w.heap.size w d→bc d v (oM (fZ a*fZ b)) (oE (fZ a*fZ b) (-1074+-1074))→_:=fun d v h G=>jQ G H.right.2 H.right.1 (z.all h)
 rw[(jr (fZ a*fZ b) (-1074+-1074)).1,km,z1,Int.natAbs_mul,gR,gR]at L
 exact vH a b _ _ _ _ _ _ _ w _ N O Q L
theorem G9(a b:Nat)(H:Int)(w:World)
  (z:∀d,Calls Tryz.prog 122 #[.int .u64 a] d fun r h=>r=.returned (.int .i64 4)∧Below d.heap.size d h)
  (D:∀d,Calls Tryz.prog 122 #[.int .u64 b] d fun r h=>r=.returned (.int .i64 H)∧Below d.heap.size d h):
  Calls Tryz.prog 198 #[.int .u64 a,.int .u64 b] w fun r d=>r=.returned (.tuple #[.int .u64 9221120237041090560,.int .u8 0])∧Below w.heap.size w d:=by
 have F:=ac z;have G:=ac D
 clear z D
 go_enter Tryz.func198,Tryz.ntmps198
 go_wp2_with fail
 refine(uH F _).mono ?_
 rintro e I ⟨rfl,l⟩
 go_wp2_with fail
 refine(uH G _).mono ?_
 rintro e J ⟨rfl,t⟩
 have B:=ac (l.trans (t.mono l.size))
 clear l t F G
 go_wp2
 exact bodyPost_ret (v:=.tuple #[.int .u64 9221120237041090560,.int .u8 0]) (by simp[results,Tryz.results198,go_sem]) rfl ⟨rfl,uH B⟩
theorem Ha(a b:Nat)(z:Int)(w:World)(I:(z==4)=false)
  (D:∀d,Calls Tryz.prog 122 #[.int .u64 a] d fun r h=>r=.returned (.int .i64 z)∧Below d.heap.size d h)
  (F:∀d,Calls Tryz.prog 122 #[.int .u64 b] d fun r h=>r=.returned (.int .i64 4)∧Below d.heap.size d h):
  Calls Tryz.prog 198 #[.int .u64 a,.int .u64 b] w fun r d=>r=.returned (.tuple #[.int .u64 9221120237041090560,.int .u8 0])∧Below w.heap.size w d:=by
 have G:=ac D;have H:=ac F
 clear D F
 go_enter Tryz.func198,Tryz.ntmps198
 go_wp2_with fail
 refine(uH G _).mono ?_
 rintro e J ⟨rfl,l⟩
 go_wp2_with fail
 refine(uH H _).mono ?_
 rintro e L ⟨rfl,t⟩
 have B:=ac (l.trans (t.mono l.size))
 clear l t G H
 go_wp2
 exact bodyPost_ret (v:=.tuple #[.int .u64 9221120237041090560,.int .u8 0]) (by simp[results,Tryz.results198,go_sem]) rfl ⟨rfl,uH B⟩
theorem Hb(a b:Nat)(w:World)
  (z:∀d,Calls Tryz.prog 122 #[.int .u64 a] d fun r h=>r=.returned (.int .i64 3)∧Below d.heap.size d h)
  (D:∀d,Calls Tryz.prog 122 #[.int .u64 b] d fun r h=>r=.returned (.int .i64 0)∧Below d.heap.size d h):
  Calls Tryz.prog 198 #[.int .u64 a,.int .u64 b] w fun r d=>r=.returned (.tuple #[.int .u64 9221120237041090560,.int .u8 16])∧Below w.heap.size w d:=by
 have F:=ac z;have G:=ac D
 clear z D
 go_enter Tryz.func198,Tryz.ntmps198
 go_wp2_with fail
 refine(uH F _).mono ?_
 rintro e H ⟨rfl,l⟩
 go_wp2_with fail
 refine(uH G _).mono ?_
 rintro e I ⟨rfl,t⟩
 have B:=ac (l.trans (t.mono l.size))
 clear l t F G
 go_wp2
 exact bodyPost_ret (v:=.tuple #[.int .u64 9221120237041090560,.int .u8 16]) (by simp[results,Tryz.results198,go_sem]) rfl ⟨rfl,uH B⟩
theorem Hc(a b:Nat)(w:World)
  (z:∀d,Calls Tryz.prog 122 #[.int .u64 a] d fun r h=>r=.returned (.int .i64 0)∧Below d.heap.size d h)
  (D:∀d,Calls Tryz.prog 122 #[.int .u64 b] d fun r h=>r=.returned (.int .i64 3)∧Below d.heap.size d h):
  Calls Tryz.prog 198 #[.int .u64 a,.int .u64 b] w fun r d=>r=.returned (.tuple #[.int .u64 9221120237041090560,.int .u8 16])∧Below w.heap.size w d:=by
 have F:=ac z;have G:=ac D
 clear z D
 go_enter Tryz.func198,Tryz.ntmps198
 go_wp2_with fail
 refine(uH F _).mono ?_
 rintro e H ⟨rfl,l⟩
 go_wp2_with fail
 refine(uH G _).mono ?_
 rintro e I ⟨rfl,t⟩
 have B:=ac (l.trans (t.mono l.size))
 clear l t F G
 go_wp2
 exact bodyPost_ret (v:=.tuple #[.int .u64 9221120237041090560,.int .u8 16]) (by simp[results,Tryz.results198,go_sem]) rfl ⟨rfl,uH B⟩
theorem La(a b:Nat)(D:Int)(o:Nat)(w:World)(M:(D==4)=false)(N:(D==0)=false)
  (F:∀d,Calls Tryz.prog 122 #[.int .u64 a] d fun r h=>r=.returned (.int .i64 3)∧Below d.heap.size d h)
  (G:∀d,Calls Tryz.prog 122 #[.int .u64 b] d fun r h=>r=.returned (.int .i64 D)∧Below d.heap.size d h)
  (H:∀d,Calls Tryz.prog 224 #[.int .u64 9218868437227405312,.int .u64 a,.int .u64 b] d fun r h=>r=.returned (.int .u64 (o:Nat))∧Below d.heap.size d h):
  Calls Tryz.prog 198 #[.int .u64 a,.int .u64 b] w fun r d=>r=.returned (.tuple #[.int .u64 (o:Nat),.int .u8 0])∧Below w.heap.size w d:=by
 have I:=ac F;have J:=ac G
 clear F G
 go_enter Tryz.func198,Tryz.ntmps198
 go_wp2_with fail
 refine(uH I _).mono ?_
 rintro e O ⟨rfl,l⟩
 go_wp2_with fail
 refine(uH J _).mono ?_
 rintro e Q ⟨rfl,t⟩
 have B:=ac (l.trans (t.mono l.size))
 clear l t I J
 have L:=ac H
 clear H
 go_wp2_with fail
 refine(uH L _).mono ?_
 rintro e T ⟨rfl,z⟩
 have B:=ac ((uH B).trans (z.mono (uH B).size))
 clear z L
 go_wp2
 exact bodyPost_ret (v:=.tuple #[.int .u64 (o:Nat),.int .u8 0]) (by simp[results,Tryz.results198,go_sem]) rfl ⟨rfl,uH B⟩
theorem Lb(a b:Nat)(D:Int)(o:Nat)(w:World)(M:(D==4)=false)(N:(D==0)=false)(O:(D==3)=false)
  (F:∀d,Calls Tryz.prog 122 #[.int .u64 a] d fun r h=>r=.returned (.int .i64 D)∧Below d.heap.size d h)
  (G:∀d,Calls Tryz.prog 122 #[.int .u64 b] d fun r h=>r=.returned (.int .i64 3)∧Below d.heap.size d h)
  (H:∀d,Calls Tryz.prog 224 #[.int .u64 9218868437227405312,.int .u64 a,.int .u64 b] d fun r h=>r=.returned (.int .u64 (o:Nat))∧Below d.heap.size d h):
  Calls Tryz.prog 198 #[.int .u64 a,.int .u64 b] w fun r d=>r=.returned (.tuple #[.int .u64 (o:Nat),.int .u8 0])∧Below w.heap.size w d:=by
 have I:=ac F;have J:=ac G
 clear F G
 go_enter Tryz.func198,Tryz.ntmps198
 go_wp2_with fail
 refine(uH I _).mono ?_
 rintro e Q ⟨rfl,l⟩
 go_wp2_with fail
 refine(uH J _).mono ?_
 rintro e T ⟨rfl,t⟩
 have B:=ac (l.trans (t.mono l.size))
 clear l t I J
 have L:=ac H
 clear H
 go_wp2_with fail
 refine(uH L _).mono ?_
 rintro e U ⟨rfl,z⟩
 have B:=ac ((uH B).trans (z.mono (uH B).size))
 clear z L
 go_wp2
 exact bodyPost_ret (v:=.tuple #[.int .u64 (o:Nat),.int .u8 0]) (by simp[results,Tryz.results198,go_sem]) rfl ⟨rfl,uH B⟩
theorem Lc(a b:Nat)(D:Int)(o:Nat)(w:World)(M:(D==4)=false)(N:(D==3)=false)
  (F:∀d,Calls Tryz.prog 122 #[.int .u64 a] d fun r h=>r=.returned (.int .i64 0)∧Below d.heap.size d h)
  (G:∀d,Calls Tryz.prog 122 #[.int .u64 b] d fun r h=>r=.returned (.int .i64 D)∧Below d.heap.size d h)
  (H:∀d,Calls Tryz.prog 224 #[.int .u64 0,.int .u64 a,.int .u64 b] d fun r h=>r=.returned (.int .u64 (o:Nat))∧Below d.heap.size d h):
  Calls Tryz.prog 198 #[.int .u64 a,.int .u64 b] w fun r d=>r=.returned (.tuple #[.int .u64 (o:Nat),.int .u8 0])∧Below w.heap.size w d:=by
 have I:=ac F;have J:=ac G
 clear F G
 go_enter Tryz.func198,Tryz.ntmps198
 go_wp2_with fail
 refine(uH I _).mono ?_
 rintro e O ⟨rfl,l⟩
 go_wp2_with fail
 refine(uH J _).mono ?_
 rintro e Q ⟨rfl,t⟩
 have B:=ac (l.trans (t.mono l.size))
 clear l t I J
 have L:=ac H
 clear H
 go_wp2_with fail
 refine(uH L _).mono ?_
 rintro e T ⟨rfl,z⟩
 have B:=ac ((uH B).trans (z.mono (uH B).size))
 clear z L
 go_wp2
 exact bodyPost_ret (v:=.tuple #[.int .u64 (o:Nat),.int .u8 0]) (by simp[results,Tryz.results198,go_sem]) rfl ⟨rfl,uH B⟩
theorem Le(a b:Nat)(D:Int)(o:Nat)(w:World)(M:(D==4)=false)(N:(D==3)=false)(O:(D==0)=false)
  (F:∀d,Calls Tryz.prog 122 #[.int .u64 a] d fun r h=>r=.returned (.int .i64 D)∧Below d.heap.size d h)
  (G:∀d,Calls Tryz.prog 122 #[.int .u64 b] d fun r h=>r=.returned (.int .i64 0)∧Below d.heap.size d h)
  (H:∀d,Calls Tryz.prog 224 #[.int .u64 0,.int .u64 a,.int .u64 b] d fun r h=>r=.returned (.int .u64 (o:Nat))∧Below d.heap.size d h):
  Calls Tryz.prog 198 #[.int .u64 a,.int .u64 b] w fun r d=>r=.returned (.tuple #[.int .u64 (o:Nat),.int .u8 0])∧Below w.heap.size w d:=by
 have I:=ac F;have J:=ac G
 clear F G
 go_enter Tryz.func198,Tryz.ntmps198
 go_wp2_with fail
 refine(uH I _).mono ?_
 rintro e Q ⟨rfl,l⟩
 go_wp2_with fail
 refine(uH J _).mono ?_
 rintro e T ⟨rfl,t⟩
 have B:=ac (l.trans (t.mono l.size))
 clear l t I J
 have L:=ac H
 clear H
 go_wp2_with fail
 refine(uH L _).mono ?_
 rintro e U ⟨rfl,z⟩
 have B:=ac ((uH B).trans (z.mono (uH B).size))
 clear z L
 go_wp2
 exact bodyPost_ret (v:=.tuple #[.int .u64 (o:Nat),.int .u8 0]) (by simp[results,Tryz.results198,go_sem]) rfl ⟨rfl,uH B⟩
theorem Lf(a b:Nat)(D F:Int)(G:Int)(o:Nat)(w:World)(T:(D==4)=false)(U:(D==3)=false)(V:(D==0)=false)(X:(F==4)=false)(Y:(F==3)=false)(Z:(F==0)=false)(H:c8 w)
  (I:∀d,Calls Tryz.prog 122 #[.int .u64 a] d fun r h=>r=.returned (.int .i64 D)∧Below d.heap.size d h)
  (J:∀d,Calls Tryz.prog 122 #[.int .u64 b] d fun r h=>r=.returned (.int .i64 F)∧Below d.heap.size d h)
  (L:∀d,c8 d→Calls Tryz.prog 225 #[.int .u64 a,.int .u64 b] d fun r h=>r=.returned (.tuple #[.int .u64 (o:Nat),.int .u8 G])∧Below d.heap.size d h):
  Calls Tryz.prog 198 #[.int .u64 a,.int .u64 b] w fun r d=>r=.returned (.tuple #[.int .u64 (o:Nat),.int .u8 G])∧Below w.heap.size w d:=by
 have M:=ac I;have N:=ac J
 clear I J
 go_enter Tryz.func198,Tryz.ntmps198
 go_wp2_with fail
 refine(uH M _).mono ?_
 rintro e w1 ⟨rfl,l⟩
 go_wp2_with fail
 refine(uH N _).mono ?_
 rintro e w2 ⟨rfl,t⟩
 have B:=ac (l.trans (t.mono l.size))
 clear l t M N
 have O:=ac L;have Q:=ac (H.all (uH B))
 clear L H
 go_wp2_with fail
 refine(uH O _ (uH Q)).mono ?_
 rintro e w3 ⟨rfl,z⟩
 have B:=ac ((uH B).trans (z.mono (uH B).size))
 clear z O Q
 go_wp2
 exact bodyPost_ret (v:=.tuple #[.int .u64 (o:Nat),.int .u8 G]) (by simp[results,Tryz.results198,go_sem]) rfl ⟨rfl,uH B⟩
theorem Eh(a b:Nat)(w:World)(J:a<18446744073709551616)(L:b<18446744073709551616)(V:c8 w):
  Calls Tryz.prog 198 #[.int .u64 a,.int .u64 b] w fun r z=>r=.returned (.tuple #[.int .u64 (mV a b:Nat),.int .u8 (mF a b)])∧Below w.heap.size w z:=by
 have d:=fun z=>dj a z J
 have l:=fun z=>dj b z L
 have T:=fun z=>gK 9218868437227405312 a b z J L (by decide)
 have U:=fun z=>gK 0 a b z J L (by decide)
 by_cases D:fK a=4
 ·rw[show mV a b=9221120237041090560 by unfold mV;rw[if_pos (Or.inl D)],show mF a b=0 by unfold mF;rw[if_pos (Or.inl D)]]
  rw[D]at d
  exact G9 a b _ w d l
 by_cases F:fK b=4
 ·rw[show mV a b=9221120237041090560 by unfold mV;rw[if_pos (Or.inr F)],show mF a b=0 by unfold mF;rw[if_pos (Or.inr F)]]
  rw[F]at l
  exact Ha a b _ w (by simp[D]) d l
 have H:¬(fK a=4∨fK b=4):=by omega
 by_cases I:fK a=3∨fK b=3
 ·by_cases G:fK a=0∨fK b=0
  ·rw[show mV a b=9221120237041090560 by unfold mV;rw[if_neg H,if_pos I,if_pos G],show mF a b=16 by unfold mF;rw[if_neg H,if_pos I,if_pos G]]
   by_cases M:fK a=3
   ·have O:fK b=0:=by omega
    rw[M]at d
    rw[O]at l
    exact Hb a b w d l
   ·have Q:fK b=3:=by omega
    have N:fK a=0:=by omega
    rw[N]at d
    rw[Q]at l
    exact Hc a b w d l
  ·rw[show mV a b=gc (fS a^^fS b) 9218868437227405312 by unfold mV;rw[if_neg H,if_pos I,if_neg G],show mF a b=0 by unfold mF;rw[if_neg H,if_pos I,if_neg G]]
   by_cases M:fK a=3
   ·rw[M]at d
    exact La a b _ _ w (by simp[F]) (by simp;omega) d l T
   ·have Q:fK b=3:=by omega
    rw[Q]at l
    exact Lb a b _ _ w (by simp[D]) (by simp;omega) (by simp[M]) d l T
 ·by_cases G:fK a=0∨fK b=0
  ·have X:rv (fR a)*rv (fR b)=0:=by
    rcases G with h|h
    ·rw[(nG _).2 ((cP a).1 h),Nat.zero_mul]
    ·rw[(nG _).2 ((cP b).1 h),Nat.mul_zero]
   rw[show mV a b=gc (fS a^^fS b) 0 by unfold mV;rw[if_neg H,if_neg I,X,uX],show mF a b=0 by unfold mF;rw[if_neg H,if_neg I,if_pos G]]
   by_cases N:fK a=0
   ·rw[N]at d
    exact Lc a b _ _ w (by simp[F]) (by simp;omega) d l U
   ·have O:fK b=0:=by omega
    rw[O]at l
    exact Le a b _ _ w (by simp[D]) (by simp;omega) (by simp[N]) d l U
  ·exact Lf a b _ _ _ _ w (by simp[D]) (by simp;omega) (by simp;omega) (by simp[F]) (by simp;omega) (by simp;omega) V d l (fun z t=>qU a b z J L (gt a (by omega) D) (gt b (by omega) F) (by omega) (by omega) t)
theorem Ei(a:Nat)(k:Int)(f:Bool)(w:World)(F:f=false∨(f=true∧k=0))
  (l:∀h,Calls Tryz.prog 52 #[.int .u64 a] h fun r d=>r=.returned (.bool f)∧h=d)
  (t:∀h,Calls Tryz.prog 53 #[.int .u64 a] h fun r d=>r=.returned (.int .i64 k)∧h=d):
  Calls Tryz.prog 14 #[.int .u64 a] w fun r h=>r=.returned (.int .i64 0)∧Below w.heap.size w h:=by
 have z:=ac l;have G:=ac t
 clear l t
 rcases F with rfl|⟨rfl,rfl⟩
 ·go_enter Tryz.func14,Tryz.ntmps14
  go_wp2_with fail
  refine(uH z _).mono ?_
  rintro e D ⟨rfl,rfl⟩
  go_wp2
  go_ret
  exact⟨rfl,Below.refl _ _⟩
 ·go_enter Tryz.func14,Tryz.ntmps14
  go_wp2_with fail
  refine(uH z _).mono ?_
  rintro e D ⟨rfl,rfl⟩
  go_wp2_with fail
  refine(uH G _).mono ?_
  rintro e D ⟨rfl,rfl⟩
  go_wp2
  go_ret
  exact⟨rfl,Below.refl _ _⟩
theorem Ej(a:Nat)(k D X t:Int)(w:World)(h0:(k==0)=false)(ht:-2000≤t∧t≤2000)
  (H:∀h,Calls Tryz.prog 52 #[.int .u64 a] h fun r d=>r=.returned (.bool true)∧h=d)
  (I:∀h,Calls Tryz.prog 53 #[.int .u64 a] h fun r d=>r=.returned (.int .i64 k)∧h=d)
  (J:∀h,Calls Tryz.prog 49 #[.int .u64 a] h fun r d=>∃u,r=.returned u∧bc d u D X∧Below h.heap.size h d)
  (L:∀h v,bc h v D X→Calls Tryz.prog 54 #[v] h fun r d=>r=.returned (.int .i64 t)∧Below h.heap.size h d):
  Calls Tryz.prog 14 #[.int .u64 a] w fun r h=>r=.returned (.int .i64 (t-1))∧Below w.heap.size w h:=by
 have M:=ac H;have N:=ac I;have O:=ac J;have Q:=ac L
 clear H I J L
 have hw:=bF (t-1) (by omega)
 go_enter Tryz.func14,Tryz.ntmps14
 go_wp2_with fail
 refine(uH M _).mono ?_
 rintro e G ⟨rfl,rfl⟩
 go_wp2_with fail
 refine(uH N _).mono ?_
 rintro e G ⟨rfl,rfl⟩
 go_wp2_with fail
 refine(uH O _).mono ?_
 rintro e G ⟨v,rfl,hv,l⟩
 obtain⟨U,V,Y,F,rfl,Z⟩:=hv
 have T:=ac (show bc G (.agg #[.bool U,.slice V F.length Y,.int .i64 X]) D X from⟨U,V,Y,F,rfl,Z⟩)
 have z:=ac l
 clear Z l M N O
 generalize F.length=l1 at*
 go_wp2_with fail
 refine(uH Q _ _ (uH T)).mono ?_
 rintro e w2 ⟨rfl,l⟩
 have B2:=ac ((uH z).trans (l.mono (uH z).size))
 clear l z T Q
 go_wp2
 go_ret
 exact⟨rfl,uH B2⟩
theorem M7{w:World}{v:Value}{D X:Int}(d:bc w v D X)(M:D%2=1)(N:D.natAbs<9007199254740992)(O:-1074≤X∧X≤1024):
  Calls Tryz.prog 54 #[v] w fun r z=>r=.returned (.int .i64 ((bl D.natAbs:Int)+X))∧Below w.heap.size w z:=by
 obtain⟨H,I,J,A,rfl,l,t,L,Q,T⟩:=d.right (dK _ (by omega))
 have:=Dm H I J A X w l (by omega) (by omega)
 have d:val A=D.natAbs:=by rw[←L,bh]
 have F:=jq l.2.1 t
 have G:A.length≠0:=fun h=>by
  have:=(cT t).2 h
  omega
 unfold AD at this
 rw[if_neg G,F,d]at this
 exact this
theorem Bc(a:Nat)(w:World)(l:a<18446744073709551616):
  Calls Tryz.prog 14 #[.int .u64 a] w fun r d=>r=.returned (.int .i64 (eX a))∧Below w.heap.size w d:=by
 have t:=fun d=>uy a d l
 have D:=fun d=>rF a d l
 unfold eX
 by_cases h:fK a=4∨fK a=3∨fK a=0
 ·rw[if_pos h]
  refine Ei a _ _ w ?_ t D
  rcases iS a with⟨z,_⟩|⟨z,Q⟩
  ·exact .inl z
  ·exact .inr ⟨z,by omega⟩
 ·rw[if_neg h]
  have F:=gt a (by omega) (by omega)
  obtain⟨z1,z2,H,I,J,L,M,N,O⟩:=fL a l F (by omega)
  rw[F]at t
  exact Ej a _ (fD a) (fX a) _ w (by simp;omega) (by omega) t D (fun d=>pu a d l) (fun d v G=>M7 G z1 z2 (by omega))
theorem Hd(R:Nat)(W:World):(callFunc 40 #[.float .f64 R]).run Tryz.prog W=.ok (.value (.int .u64 R)) W:=by
 rw[run_callFunc_extern (e:=Extern.MathFloatBits.float64bits) Tryz.func40 (by kernel_rfl) (by kernel_rfl) (by kernel_rfl) (by kernel_rfl)]
 show((pure (.int .u64 (R:Int)):Sem Value).run Tryz.prog W).andThen (fun v d=>.ok (Next.value v) d)=_
 simp
theorem Be(b:Nat)(w:World)(h:b<18446744073709551616):
  Calls Tryz.prog 39 #[.int .u64 b] w fun r l=>r=.returned (.int .u64 ((if fK b=4 then 9221120237041090560 else b:Nat):Int))∧w=l:=by
 have K:=ac (fun l=>rF b l h)
 have z:IntKind.u64.wrap (b:Int)=(b:Int):=by simp only[IntKind.wrap_u64];omega
 by_cases d:fK b=4
 ·rw[if_pos d]
  rw[d]at K
  clear d h
  go_enter Tryz.func39,Tryz.ntmps39
  go_wp2_with fail
  refine(uH K _).mono ?_
  rintro e t ⟨rfl,rfl⟩
  go_wp2
  go_ret
  exact⟨rfl,rfl⟩
 ·rw[if_neg d]
  have D:(fK b==4)=false:=by simp[d]
  generalize fK b=k at*
  clear d h
  go_enter Tryz.func39,Tryz.ntmps39
  go_wp2_with fail
  refine(uH K _).mono ?_
  rintro e t ⟨rfl,rfl⟩
  go_wp2
  go_ret
  exact⟨rfl,rfl⟩
theorem qW(x y S:Nat)(Q R:Nat→Nat)(w:World)(hy:y<9007199254740992)(T:Q 0=0∧R 0=x)
  (U:∀i,Q (i+1)=2*Q i+(if y≤R i then 1 else 0)∧R (i+1)=2*(R i-(if y≤R i then y else 0)))
  (D:∀i,R i<2*y) (F:∀i,i<55→Q i<18014398509481984) (h5:Q 55<36028797018963968) (V:S=2*Q 55+(if 0<R 55 then 1 else 0)):
  Calls Tryz.prog 243 #[.int .i64 x,.int .i64 y] w fun r Z=>r=.returned (.int .i64 (S:Nat))∧w=Z:=by
 have h:=ac T;have G:=ac U;have l:=ac D;have H:=ac F;have d:=ac V
 clear T U D F V
 go_enter Tryz.func243,Tryz.ntmps243
 go_wp2
 go_loop [0,5,6] (fun p q i=>∃k:Nat,k≤55∧i=.int .i64 k∧p=.int .i64 (R k:Nat)∧q=.int .i64 (Q k:Nat)) (fun _ _ i=>55-(intOf i).toNat)
 case atStart=>exact⟨0,by omega,rfl,by rw[(uH h).2],by rw[(uH h).1];rfl⟩
 case round=>
  obtain⟨k,hk,rfl,rfl,rfl⟩:=hrel
  by_cases I:k<55
  ·have s1:=uH G k
   have r1:=uH l k
   have q3:=uH H k I
   obtain⟨X,Y⟩:=s1
   have t:=ac X;have z:=ac Y
   clear X Y h G l H d
   generalize D:R k=r at*
   generalize F:Q k=q at*
   by_cases c:y≤r
   ·have J:(r:Int)≥(y:Int):=by omega
    have L:=ac (show Q (k+1)=2*q+1 by rw[uH t,if_pos c])
    have N:=ac (show R (k+1)=2*(r-y) by rw[uH z,if_pos c])
    clear t z
    go_wp2
    go_round
    case rel=>exact⟨k+1,by omega,by go_num,dg (by rw[uH N];omega),dg (by rw[uH L];omega)⟩
    case measure=>simp[intOf];omega
   ·have J:¬(r:Int)≥(y:Int):=by omega
    have L:=ac (show Q (k+1)=2*q by rw[uH t,if_neg c];rfl)
    have N:=ac (show R (k+1)=2*r by rw[uH z,if_neg c];rfl)
    clear t z
    go_wp2
    go_round
    case rel=>exact⟨k+1,by omega,by go_num,dg (by rw[uH N];omega),dg (by rw[uH L];omega)⟩
    case measure=>simp[intOf];omega
  ·have O:k=55:=by omega
   subst O
   have r1:=uH l 55
   clear h G l H
   generalize R 55=r at*
   generalize Q 55=q at*
   by_cases c:0<r
   ·have M:=ac (show S=2*q+1 by rw[uH d,if_pos c])
    have J:(r:Int)>0:=by omega
    clear d
    go_wp2
    go_ret
    exact⟨bj (by rw[uH M];omega),rfl⟩
   ·have M:=ac (show S=2*q by rw[uH d,if_neg c];rfl)
    have J:¬(r:Int)>0:=by omega
    clear d
    go_wp2
    go_ret
    exact⟨bj (by rw[uH M];omega),rfl⟩
theorem M8(x y i:Nat)(h:x<2*y)(t:i<55):lQ x y i<18014398509481984:=by
 have l:=DP x y i h
 have d:(2:Nat)^i≤2^54:=Nat.pow_le_pow_right (by decide) (by omega)
 rw[show(2:Nat)^54=18014398509481984 by decide]at d
 exact Nat.lt_of_lt_of_le l d
theorem M9(x y:Nat)(d:x<2*y):lQ x y 55<36028797018963968:=by
 have h:=DP x y 55 d
 rwa[show(2:Nat)^55=36028797018963968 by decide]at h
theorem tr(x y:Nat)(w:World)(h:y<9007199254740992)(d:x<2*y):
  Calls Tryz.prog 243 #[.int .i64 x,.int .i64 y] w fun r l=>r=.returned (.int .i64 (db (x*2^54) y:Nat))∧w=l:=
 qW x y _ (lQ x y) (lR x y) w h (Kj x y d) (fun i=>Kk x y i (by omega)) (fun i=>MR x y i (by omega)) (fun i t=>M8 x y i d t) (M9 x y d) (Jn x y)
end Go.Proofs.YtmpkkhackbpflaaGreatDoor
