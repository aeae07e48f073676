/- Part 43 of the texts. -/
import Derived.Test.YtenpggicmfhhdaaGreatDoorParte42
set_option maxHeartbeats 8000000
set_option maxRecDepth 20000
namespace Go.Proofs.YtenpggicmfhhdaaGreatDoor
open Go.RowKit
theorem DN(a b:Nat)(h:aD (aV a b)=true):aD a=true:=by
 by_cases d:fK a=4
 ·unfold aV at h
  rw[if_pos (.inl d)]at h
  exact absurd h (by decide+kernel)
 by_cases f:fK a=3
 ·unfold aV at h
  by_cases l:fK b=4
  ·rw[if_pos (.inr l)]at h
   exact absurd h (by decide+kernel)
  ·rw[if_neg (fun e=>e.elim d l),if_pos f]at h
   split at h
   ·exact absurd h (by decide+kernel)
   ·exact h
 exact bf a f d
theorem nB(d:List Nat):bB d=true↔∀k,k<d.length→aD (d.getD k 0)=true:=by
 unfold bB
 rw[p6]
 exact⟨fun h k f=>by have:=h k f;rwa[fc]at this,fun h k f=>by rw[fc];exact h k f⟩
theorem DO{r c:Nat}{S:List Nat}(y:S.length=r*c)(i k:Nat)(l:List Nat)(d:Nat)(h:bB (km r c S i k l d)=true):bB S=true:=by
 rw[nB]at h⊢
 intro x m
 rw[gg]at h
 rw[y]at m
 obtain⟨z,A,t⟩:=gP m
 have f:aD (dJ c (km r c S i k l d) (x/c) (x%c))=true:=by
  have:=h x m
  unfold dJ
  rwa[t]
 rw[Gj r c S i k l d z A]at f
 have e:S.getD x 0=dJ c S (x/c) (x%c):=by unfold dJ;rw[t]
 rw[e]
 split at f
 ·rename_i g
  rw[pR c S i (x%c) l d (j:=x/c-i) (by omega)]at f
  have:=DN _ _ f
  rwa[show i+(x/c-i)=x/c by omega]at this
 ·exact f
theorem AF(r c:Nat)(S:List Nat)(K:Nat):∀t d,bB (wO r c S K (t+d))=true→bB (wO r c S K t)=true:=by
 intro t d
 induction d with
 |zero=>exact fun h=>h
 |succ d ih=>exact fun h=>ih (DO (cQ r c S K (t+d)) _ _ _ _ h)
theorem DP(r c:Nat)(S:List Nat)(h:S.length=r*c):FO c S 0 0 r c=S:=by
 conv=>rhs;rw[←jz r c S h]
 unfold FO
 refine bC (fun p q _ _=>?_)
 rw[Nat.zero_add,Nat.zero_add]
 rfl
theorem p9(r c z:Nat)(N:Option Addr)(S:List Nat)(w:World)(h:Mx w N z r c S)(T:cd w):
  Calls Tryz.prog 35 #[.agg #[.int .i64 r,.int .i64 c,.slice N S.length z]] w fun e l=>tZ w l (Ec r c S (gT r c)) r c S.length (gT r c) (iM r c S) (fun j=>je (dk r c S j)) (fun j=>kJ (dk r c S j)) e∧Below w.heap.size w l:=by
 have G:=h.2.1
 have O:=h.2.2.1
 have Q:=h.2.2.2
 have lR:=fun j=>(eE r c S G j).trans G.symm
 have t:∀j,(dk r c S j).length=r-j:=pU r c S
 have lV:∀j,(je (dk r c S j)).length=r-j:=fun j=>by rw[pO,t]
 have Y:∀j,(km r c (rN r c S j) j j (je (dk r c S j)) (kJ (dk r c S j))).length=S.length:=fun j=>by rw[gg,G]
 refine rW r c S.length z (gT r c) (min (c:Int) ((r:Int)-1)) N (rN r c S) (fun j=>km r c (rN r c S j) j j (je (dk r c S j)) (kJ (dk r c S j))) (dk r c S) (fun j=>je (dk r c S j)) (fun j=>kJ (dk r c S j)) (fun j=>xn (dk r c S j)) (fun j=>bB (dk r c S j)&&xp (dk r c S j)) (Ec r c S (gT r c)) w O Q rfl (fun j=>by rw[dZ];omega) lR Y lV (fun j _=>nh h.1.nat (j+1)) (fun j _=>At (nh h.1.nat j) _ _ _ _) ?_ ?_ ?_ ?_ ?_ ?_ ?_
 ·rw[pX]
  exact⟨fun q j m=>by rw[(q j m).1,(q j m).2];rfl,fun q j m=>by have:=q j m;rwa[Bool.and_eq_true]at this⟩
 ·intro l D
  refine(mY r c z 0 0 r c N S l (h.below D) (by omega) (by omega)).mono ?_
  rintro e F ⟨v,rfl,⟨I,K,rfl,U,y⟩,f⟩
  rw[DP r c S G]at U y⊢
  exact⟨I,K,rfl,U,y,f⟩
 ·intro l j I K m D
  have A:=(dZ r c j).1 m
  have:=mY r c K j j (r-j) 1 I (rN r c S j) l ⟨D,eE r c S G j,O,Q⟩ (by omega) (by omega)
  rw[lR j]at this
  refine this.mono ?_
  rintro e F ⟨v,rfl,⟨H,d,rfl,U,y⟩,f⟩
  rw[AE]at y⊢
  rw[bU]
  exact⟨H,d,rfl,y,f⟩
 ·intro l j H d m L D y
  have A:=(dZ r c j).1 m
  rw[Bool.and_eq_true]at L
  have:=AD H d (ar (dk r c S j)) l y (by rw[aq,t];omega) (by rw[aq,t];omega) (by rw[aq];exact L.1) (by rw[dg];exact L.2) (T.all D)
  rw[dg,aq,t]at this
  exact this
 ·intro l j H d m L D y
  have A:=(dZ r c j).1 m
  cases hf:bB (dk r c S j)
  ·have:=xg H d (ar (dk r c S j)) l y (by rw[aq,t];omega) (by rw[aq,t];omega) (by rw[aq];exact hf)
   rw[aq,t]at this
   refine this.mono ?_
   rintro e F ⟨V,X,rfl,f⟩
   exact⟨V,X,4,rfl,.inr rfl,f⟩
  ·have Z:xp (dk r c S j)=false:=by
    have:=L
    rw[hf,Bool.true_and]at this
    exact this
   have:=ui H d (ar (dk r c S j)) l y (by rw[aq,t];omega) (by rw[aq,t];omega) (by rw[aq];exact hf) (by rw[dg];exact Z) (T.all D)
   rw[aq,t]at this
   refine this.mono ?_
   rintro e F ⟨V,X,rfl,f⟩
   exact⟨V,X,2,rfl,.inl rfl,f⟩
 ·intro l j I K vo vc m D hp hv
  have A:=(dZ r c j).1 m
  have:=nA r c K j j vc (kJ (dk r c S j)) I vo (rN r c S j) (je (dk r c S j)) l ⟨hp,eE r c S G j,O,Q⟩ hv (by rw[lV];omega) (by omega) (pL _) (T.all D)
  rw[lR j,lV]at this
  refine this.mono ?_
  rintro e F ⟨g,rfl,hg,hr,f⟩
  exact⟨g,rfl,by omega,hr,f⟩
 ·intro l j g m M
  have A:=(dZ r c j).1 m
  have:=tX r c j (xn (dk r c S j)) g _ l O Q (by omega) (by omega) (gg r c (rN r c S j) j j (je (dk r c S j)) (kJ (dk r c S j))) M
  rw[Y j]at this
  exact this
theorem r7(r c D:Nat)(lo:Option Addr)(S:List Nat)(R:List Mr)(w:World)(z:r≤6)(hc:c≤6)(L:bV 0 w (.slice lo (gT r c) D) R)(F:R.length=gT r c)(G:∀k,k<gT r c→(bN R k).V=je (dk r c S k)∧(bN R k).tau=kJ (dk r c S k))(M:cd w):
  Calls Tryz.prog 36 #[.int .i64 r,.slice lo (gT r c) D] w fun e d=>∃Q f h,(Q=il r c S∨(fu (ar Q) (r*r)=false∧bB (il r c S)=false))∧Q.length=r*r∧e=.returned (.agg #[.int .i64 r,.int .i64 r,.slice f (r*r) h])∧bR w.heap.size f (ar Q)∧ab d f h (ar Q)∧Below w.heap.size w d:=by
 have N:∀j,(dk r c S j).length=r-j:=pU r c S
 have lV:∀j,(je (dk r c S j)).length=r-j:=fun j=>by rw[pO,N]
 have O:gT r c≤6:=by unfold gT;omega
 refine(t7 r (r*r) (gT r c) D lo (fun j=>je (dk r c S j)) (wO r c S (gT r c)) (fun j=>kJ (dk r c S j)) R w (Nat.mul_le_mul z z) O L F G (cQ r c S _) lV ?_ ?_ (fun d x m=>eM x d m)).mono ?_
 ·intro d
  refine(Dx r d z).mono ?_
  rintro e I ⟨v,rfl,⟨f,h,rfl,y,A⟩,l⟩
  exact⟨f,h,by rw[show(wI r).length=r*r from bY r r _],y,A,l⟩
 ·intro d t j U X Y Z ht hj A hp hv
  have T:=(dZ r c j).1 (by omega)
  have:=xk r r X j 0 Z (kJ (dk r c S j)) U Y (wO r c S (gT r c) t) (je (dk r c S j)) d ⟨hp,cQ r c S _ t,z,z⟩ hv (by rw[lV];omega) (by omega) (pL _) (M.all A)
  rw[cQ,lV]at this
  refine this.mono ?_
  rintro e I ⟨v,rfl,⟨f,h,rfl,y,m⟩,l⟩
  rw[gg]
  have e:km r r (wO r c S (gT r c) t) j 0 (je (dk r c S j)) (kJ (dk r c S j))=wO r c S (gT r c) (t+1):=by
   show _=km r r (wO r c S (gT r c) t) (gT r c-1-t) 0 (je (dk r c S (gT r c-1-t))) (kJ (dk r c S (gT r c-1-t)))
   rw[←hj]
  rw[e]at y m
  exact⟨f,h,rfl,y,m,l⟩
 ·rintro e d ⟨t,f,h,ht,K,rfl,y,m,A⟩
  refine⟨_,f,h,?_,cQ r c S _ t,rfl,y,m,A⟩
  rcases K with e|e
  ·left;rw[e];rfl
  ·right
   refine⟨e,?_⟩
   cases hf:bB (il r c S)
   ·rfl
   ·have H:=AF r c S (gT r c) t (gT r c-t) (by rw[show t+(gT r c-t)=gT r c by omega];exact hf)
    unfold bB at H
    rw[cQ,e]at H
    cases H
theorem k7(r c f:Nat)(m:Option Addr)(S:List Nat)(w:World)(h:Mx w m f r c S)(H:bB S=true)(D:cd w):
  Calls Tryz.prog 25 #[.agg #[.int .i64 r,.int .i64 c,.slice m S.length f]] w fun e d=>((n8 r c S=true∧∃v u,e=.returned (.tuple #[v,u,.int .i64 0])∧az w.heap.size d r r (il r c S) v∧az w.heap.size d r c (iM r c S) u)∨(n8 r c S=false∧∃v u,e=.returned (.tuple #[v,u,.int .i64 2])∧az w.heap.size d 0 0 [] v∧az w.heap.size d 0 0 [] u))∧Below w.heap.size w d:=by
 have F:=h.2.1
 have t:=h.2.2.1
 have N:=h.2.2.2
 have O:=h.small
 have G:r*r≤36:=Nat.mul_le_mul t t
 have y:(iM r c S).length=S.length:=(eE r c S F _).trans F.symm
 have z:jm (r:Int) (c:Int) (ar S)=0:=by
  unfold jm
  rw[aq,mX h]
  have:fu (ar S) S.length=true:=H
  rw[this]
  rfl
 refine wW r c S.length (r*r) (gT r c) f m (iM r c S) (il r c S) (fun j=>je (dk r c S j)) (fun j=>kJ (dk r c S j)) (Ec r c S (gT r c)) (bB (il r c S)) (bB (iM r c S)) w y (cQ _ _ _ _ _) (by unfold bB;rw[show(il r c S).length=r*r from cQ _ _ _ _ _]) ?_ (fun d l=>p9 r c f m S d (h.below l) (D.all l)) (fun d lo I R l K L M=>r7 r c I lo S R d t N K L M (D.all l)) ?_ ?_
 ·intro d l
  have:=m6 r c m f (ar S) d (h.1.below l) (by rw[aq];omega)
  rw[aq,z]at this
  exact this
 ·intro d Q T U l A
  have:=cF T U (ar Q) d l (by rw[aq];omega)
  rw[aq,A]at this
  exact this
 ·intro d V X l
  have:=cF V X (ar (iM r c S)) d l (by rw[aq];omega)
  unfold bB
  rw[aq,y]at this
  rw[y]
  exact this
theorem r8(r c:Int)(l:Option Addr)(d:Nat)(I:List Int)(w:World)(m:ab w l d I)(z:I.length≤17592186043904)(h:jm r c I≠0):
  Calls Tryz.prog 25 #[.agg #[.int .i64 r,.int .i64 c,.slice l I.length d]] w fun e f=>∃v u,e=.returned (.tuple #[v,u,.int .i64 (jm r c I)])∧az w.heap.size f 0 0 [] v∧az w.heap.size f 0 0 [] u∧Below w.heap.size w f:=by
 have y:jm r c I=1∨jm r c I=4:=by
  unfold jm at h⊢
  repeat' split
  all_goals first|exact .inl rfl|exact .inr rfl|(exfalso;revert h;simp_all)
 exact t8 r c l I.length d _ w y (fun f t=>m6 r c l d I f (m.below t) (by omega))
theorem r9(r c d:Nat)(m:Option Addr)(S:List Nat)(w:World)(h:Mx w m d r c S)(t:bB S=true)(y:n8 r c S=true)(z:cd w):
  Calls Tryz.prog 25 #[.agg #[.int .i64 r,.int .i64 c,.slice m S.length d]] w fun e l=>∃v u,e=.returned (.tuple #[v,u,.int .i64 0])∧az w.heap.size l r r (il r c S) v∧az w.heap.size l r c (iM r c S) u∧Below w.heap.size w l:=by
 refine(k7 r c d m S w h t z).mono ?_
 rintro e l ⟨⟨_,v,u,rfl,A,D⟩|⟨f,_⟩,F⟩
 ·exact⟨v,u,rfl,A,D,F⟩
 ·rw[y]at f;cases f
theorem um(r c d:Nat)(m:Option Addr)(S:List Nat)(w:World)(h:Mx w m d r c S)(t:bB S=true)(y:n8 r c S=false)(z:cd w):
  Calls Tryz.prog 25 #[.agg #[.int .i64 r,.int .i64 c,.slice m S.length d]] w fun e l=>∃v u,e=.returned (.tuple #[v,u,.int .i64 2])∧az w.heap.size l 0 0 [] v∧az w.heap.size l 0 0 [] u∧Below w.heap.size w l:=by
 refine(k7 r c d m S w h t z).mono ?_
 rintro e l ⟨⟨f,_⟩|⟨_,v,u,rfl,A,D⟩,F⟩
 ·rw[y]at f;cases f
 ·exact⟨v,u,rfl,A,D,F⟩
attribute [local go_sem ↓] Go.wp_at_zero Go.wp_at_succ
theorem DQ(r c:Int)(A:Option Addr)(n l:Nat)(w:World)
  (D:∀d,Below w.heap.size w d→Calls Tryz.prog 24 #[.agg #[.int .i64 r,.int .i64 c,.slice A n l]] d fun e t=>∃v,e=.returned (.tuple #[v,.int .i64 1])∧az d.heap.size t 0 0 [] v∧Below d.heap.size d t):
  Calls Tryz.prog 12 #[.agg #[.int .i64 r,.int .i64 c,.slice A n l]] w fun e d=>∃v u,e=.returned (.tuple #[v,u,.int .i64 1])∧az w.heap.size d 0 0 [] v∧az w.heap.size d 0 0 [] u∧Below w.heap.size w d:=by
 have m:=aa (iP.start w r c A n l)
 have F:=aa (D _ (uH m).bel)
 clear D
 go_enter Tryz.func12,Tryz.ntmps12
 go_wp2_with fail
 refine(uH F).mono ?_
 rintro e T ⟨v,rfl,⟨U,V,rfl,_,_⟩,K⟩
 simp only[List.length_nil]
 have G:=ac T (.cells #[.int .i64 0,.int .i64 0,.slice U 0 V] 24)
 replace m:=aa (((uH m).all K).all G)
 clear K G F
 have f:=(uH m).r1;have H:=(uH m).r2
 have X:=f.c0;have Y:=f.c1;have Z:=f.c2
 have f0:=f.free 0;have f1:=f.free 1;have f2:=f.free 2
 have I:=f.put (.int .i64 0) (.int .i64 0) (.slice none 0 0)
 have h:=H.three14 (g:=w.heap.size+1) (by omega) (.int .i64 0) (.int .i64 0) (.slice none 0 0)
 have s3:=h.c0;have s4:=h.c1;have s5:=h.c2
 have f3:=h.free 0;have f4:=h.free 1;have f5:=h.free 2
 have y:=I.three14 (g:=w.heap.size+1+1) (by omega) (.int .i64 0) (.int .i64 0) (.slice none 0 0)
 have z:=h.put (.int .i64 0) (.int .i64 0) (.slice none 0 0)
 have L:=y.c0;have z1:=y.c1;have z2:=y.c2;have M:=z.c0;have N:=z.c1;have O:=z.c2
 have Q:=aa (al (al (uH m).bel (b:=w.heap.size+1) (by omega) (.int .i64 0) (.int .i64 0) (.slice none 0 0)) (b:=w.heap.size+1+1) (by omega) (.int .i64 0) (.int .i64 0) (.slice none 0 0))
 clear f H I h y z m
 go_wp2_with fail
 exact bodyPost_ret (v:=.tuple #[.agg #[.int .i64 0,.int .i64 0,.slice none 0 0],.agg #[.int .i64 0,.int .i64 0,.slice none 0 0],.int .i64 1]) (by simp[results,Tryz.results12,go_sem,L,z1,z2,M,N,O]) rfl ⟨_,_,rfl,az.zero _ _,az.zero _ _,uH Q⟩
theorem AG(r c n y D:Nat)(H:Option Addr)(T:List Nat)(er:Int)(w:World)(I:er=4∨er=2)(Q:T.length=D)
  (U:∀d,Below w.heap.size w d→Calls Tryz.prog 24 #[.agg #[.int .i64 r,.int .i64 c,.slice H n y]] d fun e f=>∃v,e=.returned (.tuple #[v,.int .i64 0])∧az d.heap.size f c r T v∧Below d.heap.size d f)
  (V:∀d X Y,Below w.heap.size w d→ab d X Y (ar T)→Calls Tryz.prog 25 #[.agg #[.int .i64 c,.int .i64 r,.slice X D Y]] d fun e f=>∃v u,e=.returned (.tuple #[v,u,.int .i64 er])∧az d.heap.size f 0 0 [] v∧az d.heap.size f 0 0 [] u∧Below d.heap.size d f):
  Calls Tryz.prog 12 #[.agg #[.int .i64 r,.int .i64 c,.slice H n y]] w fun e d=>∃v u,e=.returned (.tuple #[v,u,.int .i64 er])∧az w.heap.size d 0 0 [] v∧az w.heap.size d 0 0 [] u∧Below w.heap.size w d:=by
 have h:=aa (iP.start w r c H n y)
 have Z:=aa (U _ (uH h).bel);have K2:=aa V;have L1:=aa Q
 clear U V Q
 rcases I with rfl|rfl
 all_goals
  go_enter Tryz.func12,Tryz.ntmps12
  go_wp2_with fail
  refine(uH Z).mono ?_
  rintro e w1 ⟨v,rfl,⟨N,O,rfl,hn,hq⟩,z⟩
  rw[uH L1]
  have K:=ac w1 (.cells #[.int .i64 c,.int .i64 r,.slice N D O] 24)
  have L:=aa ((uH h).all z).r2.lt
  have l:=aa (au.new w1 (.int .i64 c) (.int .i64 r) (.slice N D O))
  have M:=aa (hn.least (uH h).bel.size)
  have A:=aa (hq.below K)
  replace h:=aa (((uH h).all z).all K)
  clear z K hn hq
  clear Z
  have q0:=(uH l).c0;have q1:=(uH l).c1;have q2:=(uH l).c2
  go_wp2_with fail
  clear q0 q1 q2
  refine(uH K2 _ N O (uH h).bel (uH A)).mono ?_
  rintro e w2 ⟨v,u,rfl,⟨vo,vc,rfl,_,_⟩,⟨uo,uc,rfl,_,_⟩,z⟩
  simp only[List.length_nil]
  have b1:=ac w2 (.cells #[.int .i64 0,.int .i64 0,.slice vo 0 vc] 24)
  have b2:=ac (w2.alloc (.cells #[.int .i64 0,.int .i64 0,.slice vo 0 vc] 24)) (.cells #[.int .i64 0,.int .i64 0,.slice uo 0 uc] 24)
  replace h:=aa ((((uH h).all z).all b1).all b2)
  clear z b1 b2
  clear K2 l A L M
  have m:=(uH h).r1;have X2:=(uH h).r2
  have s0:=m.c0;have s1:=m.c1;have s2:=m.c2
  have f0:=m.free 0;have f1:=m.free 1;have f2:=m.free 2
  have Y1:=m.put (.int .i64 0) (.int .i64 0) (.slice none 0 0)
  have t:=X2.three14 (g:=w.heap.size+1) (by omega) (.int .i64 0) (.int .i64 0) (.slice none 0 0)
  have s3:=t.c0;have s4:=t.c1;have s5:=t.c2
  have f3:=t.free 0;have f4:=t.free 1;have f5:=t.free 2
  have F:=Y1.three14 (g:=w.heap.size+1+1) (by omega) (.int .i64 0) (.int .i64 0) (.slice none 0 0)
  have G:=t.put (.int .i64 0) (.int .i64 0) (.slice none 0 0)
  have z0:=F.c0;have z1:=F.c1;have z2:=F.c2;have z3:=G.c0;have z4:=G.c1;have z5:=G.c2
  have BP:=aa (al (al (uH h).bel (b:=w.heap.size+1) (by omega) (.int .i64 0) (.int .i64 0) (.slice none 0 0)) (b:=w.heap.size+1+1) (by omega) (.int .i64 0) (.int .i64 0) (.slice none 0 0))
  clear m X2 Y1 t F G h
  go_wp2_with fail
  exact bodyPost_ret (v:=.tuple #[.agg #[.int .i64 0,.int .i64 0,.slice none 0 0],.agg #[.int .i64 0,.int .i64 0,.slice none 0 0],.int .i64 _]) (by simp[results,Tryz.results12,go_sem,z0,z1,z2,z3,z4,z5]) rfl ⟨_,_,rfl,az.zero _ _,az.zero _ _,uH BP⟩
theorem Gq(r c n ae n1 n2 n3 y G:Nat)(ao:Option Addr)(T P R L Q:List Nat)(w:World)(l1:T.length=n1)(l2:P.length=n2)(l3:R.length=n3)(l4:L.length=y)(l5:Q.length=G)
  (C1:∀d,Below w.heap.size w d→Calls Tryz.prog 24 #[.agg #[.int .i64 r,.int .i64 c,.slice ao n ae]] d fun e f=>∃v,e=.returned (.tuple #[v,.int .i64 0])∧az d.heap.size f c r T v∧Below d.heap.size d f)
  (C2:∀d po pc,Below w.heap.size w d→ab d po pc (ar T)→Calls Tryz.prog 25 #[.agg #[.int .i64 c,.int .i64 r,.slice po n1 pc]] d fun e f=>∃v u,e=.returned (.tuple #[v,u,.int .i64 0])∧az d.heap.size f c c P v∧az d.heap.size f c r R u∧Below d.heap.size d f)
  (C3:∀d po pc,ab d po pc (ar R)→Calls Tryz.prog 24 #[.agg #[.int .i64 c,.int .i64 r,.slice po n3 pc]] d fun e f=>∃v,e=.returned (.tuple #[v,.int .i64 0])∧az d.heap.size f r c L v∧Below d.heap.size d f)
  (C4:∀d po pc,ab d po pc (ar P)→Calls Tryz.prog 24 #[.agg #[.int .i64 c,.int .i64 c,.slice po n2 pc]] d fun e f=>∃v,e=.returned (.tuple #[v,.int .i64 0])∧az d.heap.size f c c Q v∧Below d.heap.size d f):
  Calls Tryz.prog 12 #[.agg #[.int .i64 r,.int .i64 c,.slice ao n ae]] w fun e d=>∃v u,e=.returned (.tuple #[v,u,.int .i64 0])∧az w.heap.size d r c L v∧az w.heap.size d c c Q u∧Below w.heap.size w d:=by
 have H:=aa (iP.start w r c ao n ae)
 have K1:=aa (C1 _ (uH H).bel);have K2:=aa C2;have K3:=aa C3;have K4:=aa C4;have L1:=aa l1;have L2:=aa l2;have L3:=aa l3;have L4:=aa l4;have L5:=aa l5
 clear C1 C2 C3 C4 l1 l2 l3 l4 l5
 go_enter Tryz.func12,Tryz.ntmps12
 go_wp2_with fail
 refine(uH K1).mono ?_
 rintro e w1 ⟨v,rfl,⟨o1,c1,rfl,hn,U⟩,I⟩
 rw[uH L1]
 have M:=ac w1 (.cells #[.int .i64 c,.int .i64 r,.slice o1 n1 c1] 24)
 have a7:=aa ((uH H).all I).r2.lt
 have aj:=aa (au.new w1 (.int .i64 c) (.int .i64 r) (.slice o1 n1 c1))
 have a9:=aa (hn.least (uH H).bel.size)
 have a0:=aa (U.below M)
 replace H:=aa (((uH H).all I).all M)
 clear I M hn U
 clear K1
 have q0:=(uH aj).c0;have q1:=(uH aj).c1;have q2:=(uH aj).c2
 go_wp2_with fail
 clear q0 q1 q2
 refine(uH K2 _ o1 c1 (uH H).bel (uH a0)).mono ?_
 rintro e w2 ⟨v,u,rfl,⟨p2,d2,rfl,_,U⟩,⟨s2,f2,rfl,_,hr⟩,I⟩
 rw[uH L2,uH L3]
 have b1:=ac w2 (.cells #[.int .i64 c,.int .i64 c,.slice p2 n2 d2] 24)
 have s1:=ai w2 (.cells #[.int .i64 c,.int .i64 c,.slice p2 n2 d2] 24)
 have b2:=ac (w2.alloc (.cells #[.int .i64 c,.int .i64 c,.slice p2 n2 d2] 24)) (.cells #[.int .i64 c,.int .i64 r,.slice s2 n3 f2] 24)
 have V:=aa ((au.new w2 (.int .i64 c) (.int .i64 c) (.slice p2 n2 d2)).all b2)
 have X:=aa (au.new (w2.alloc (.cells #[.int .i64 c,.int .i64 c,.slice p2 n2 d2] 24)) (.int .i64 c) (.int .i64 r) (.slice s2 n3 f2))
 rw[s1]at X
 have l:=aa ((U.below b1).below b2)
 have Y:=aa ((hr.below b1).below b2)
 replace H:=aa ((((uH H).all I).all b1).all b2)
 clear I b1 b2 s1 U hr
 clear K2 aj a0 a7 a9
 have q0:=(uH X).c0;have q1:=(uH X).c1;have q2:=(uH X).c2
 go_wp2_with fail
 clear q0 q1 q2
 refine(uH K3 _ s2 f2 (uH Y)).mono ?_
 rintro e N ⟨v,rfl,⟨m,t,rfl,hn,U⟩,I⟩
 rw[uH L4]
 have M:=ac N (.cells #[.int .i64 r,.int .i64 c,.slice m y t] 24)
 have a1:=aa ((uH H).all I).r2.lt
 have am:=aa (au.new N (.int .i64 r) (.int .i64 c) (.slice m y t))
 have bb:=aa (hn.least (uH H).bel.size)
 have av:=aa (U.below M)
 replace H:=aa (((uH H).all I).all M)
 replace V:=aa (((uH V).all I).all M)
 replace l:=aa (((uH l).below I).below M)
 clear I M hn U
 clear K3 X Y
 have q0:=(uH V).c0;have q1:=(uH V).c1;have q2:=(uH V).c2
 go_wp2_with fail
 clear q0 q1 q2
 refine(uH K4 _ p2 d2 (uH l)).mono ?_
 rintro e O ⟨v,rfl,⟨D,F,rfl,hn,U⟩,I⟩
 rw[uH L5]
 have M:=ac O (.cells #[.int .i64 c,.int .i64 c,.slice D G F] 24)
 have a2:=aa ((uH H).all I).r2.lt
 have a3:=aa (au.new O (.int .i64 c) (.int .i64 c) (.slice D G F))
 have bc:=aa (hn.least (uH H).bel.size)
 have a4:=aa (U.below M)
 replace H:=aa (((uH H).all I).all M)
 replace am:=aa (((uH am).all I).all M)
 replace av:=aa (((uH av).below I).below M)
 clear I M hn U
 clear K4 V l
 have z:=a1;have A:=a2
 clear a1 a2
 go_wp2_with fail
 refine ap (fun W=>iP w W r c ao n ae∧au W N.heap.size (.int .i64 r) (.int .i64 c) (.slice m y t)∧au W O.heap.size (.int .i64 c) (.int .i64 c) (.slice D G F)∧ab W m t (ar L)∧ab W D F (ar Q)) ⟨uH H,uH am,uH a3,uH av,uH a4⟩ ?_
 clear H am a3 av a4
 rintro W ⟨s2,cb,tb,U,a6⟩
 have S2:=aa (s2)
 have y3:=(cb).c0;have y4:=(cb).c1;have y5:=(cb).c2
 have y0:=(tb).c0;have y1:=(tb).c1;have y2:=(tb).c2
 have Q1:=U;have Q3:=a6
 clear s2 cb tb U a6
 have Z:=(uH S2).r1;have X2:=(uH S2).r2
 have s0:=Z.c0;have s1:=Z.c1;have s2:=Z.c2
 have f0:=Z.free 0;have f1:=Z.free 1;have f2:=Z.free 2
 have Y1:=Z.put (.int .i64 r) (.int .i64 c) (.slice m y t)
 have Y2:=X2.three14 (g:=w.heap.size+1) (by omega) (.int .i64 r) (.int .i64 c) (.slice m y t)
 have s3:=Y2.c0;have s4:=Y2.c1;have s5:=Y2.c2
 have f3:=Y2.free 0;have f4:=Y2.free 1;have f5:=Y2.free 2
 have Z1:=Y1.three14 (g:=w.heap.size+1+1) (by omega) (.int .i64 c) (.int .i64 c) (.slice D G F)
 have Z2:=Y2.put (.int .i64 c) (.int .i64 c) (.slice D G F)
 have z0:=Z1.c0;have z1:=Z1.c1;have z2:=Z1.c2;have z3:=Z2.c0;have z4:=Z2.c1;have z5:=Z2.c2
 have BP:=aa (al (al (uH S2).bel (b:=w.heap.size+1) (by omega) (.int .i64 r) (.int .i64 c) (.slice m y t)) (b:=w.heap.size+1+1) (by omega) (.int .i64 c) (.int .i64 c) (.slice D G F))
 have PQ:=aa ((Q1.putM Z (.int .i64 r) (.int .i64 c) (.slice m y t)).putM Y2 (.int .i64 c) (.int .i64 c) (.slice D G F))
 have PR:=aa ((Q3.putM Z (.int .i64 r) (.int .i64 c) (.slice m y t)).putM Y2 (.int .i64 c) (.int .i64 c) (.slice D G F))
 clear Z X2 Y1 Y2 Z1 Z2 S2 Q1 Q3
 have a5:=aa (show _∧_∧_∧_∧_∧_ from⟨aT y3,aT y4,aT y5,aT y0,aT y1,aT y2⟩)
 have l:=aa (show _∧_∧_∧_∧_∧_ from⟨aR (u:=.int .i64 r) (u':=.int .i64 c) (u'':=.slice m y t) (show N.heap.size≠w.heap.size+1 by have:=uH z;omega) y3,aR (u:=.int .i64 r) (u':=.int .i64 c) (u'':=.slice m y t) (show N.heap.size≠w.heap.size+1 by have:=uH z;omega) y4,aR (u:=.int .i64 r) (u':=.int .i64 c) (u'':=.slice m y t) (show N.heap.size≠w.heap.size+1 by have:=uH z;omega) y5,aR (u:=.int .i64 r) (u':=.int .i64 c) (u'':=.slice m y t) (show O.heap.size≠w.heap.size+1 by have:=uH A;omega) y0,aR (u:=.int .i64 r) (u':=.int .i64 c) (u'':=.slice m y t) (show O.heap.size≠w.heap.size+1 by have:=uH A;omega) y1,aR (u:=.int .i64 r) (u':=.int .i64 c) (u'':=.slice m y t) (show O.heap.size≠w.heap.size+1 by have:=uH A;omega) y2⟩)
 have Y:=aa (show _∧_∧_∧_∧_∧_ from⟨an (u:=.int .i64 r) (u':=.int .i64 c) (u'':=.slice m y t) (show N.heap.size≠w.heap.size+1 by have:=uH z;omega) y3,an (u:=.int .i64 r) (u':=.int .i64 c) (u'':=.slice m y t) (show N.heap.size≠w.heap.size+1 by have:=uH z;omega) y4,an (u:=.int .i64 r) (u':=.int .i64 c) (u'':=.slice m y t) (show N.heap.size≠w.heap.size+1 by have:=uH z;omega) y5,an (u:=.int .i64 r) (u':=.int .i64 c) (u'':=.slice m y t) (show O.heap.size≠w.heap.size+1 by have:=uH A;omega) y0,an (u:=.int .i64 r) (u':=.int .i64 c) (u'':=.slice m y t) (show O.heap.size≠w.heap.size+1 by have:=uH A;omega) y1,an (u:=.int .i64 r) (u':=.int .i64 c) (u'':=.slice m y t) (show O.heap.size≠w.heap.size+1 by have:=uH A;omega) y2⟩)
 have ax:=aa (show _∧_∧_∧_∧_∧_ from⟨an (u:=.int .i64 c) (u':=.int .i64 c) (u'':=.slice D G F) (show N.heap.size≠w.heap.size+1+1 by have:=uH z;omega) (uH l).1,an (u:=.int .i64 c) (u':=.int .i64 c) (u'':=.slice D G F) (show N.heap.size≠w.heap.size+1+1 by have:=uH z;omega) (uH l).2.1,an (u:=.int .i64 c) (u':=.int .i64 c) (u'':=.slice D G F) (show N.heap.size≠w.heap.size+1+1 by have:=uH z;omega) (uH l).2.2.1,an (u:=.int .i64 c) (u':=.int .i64 c) (u'':=.slice D G F) (show O.heap.size≠w.heap.size+1+1 by have:=uH A;omega) (uH l).2.2.2.1,an (u:=.int .i64 c) (u':=.int .i64 c) (u'':=.slice D G F) (show O.heap.size≠w.heap.size+1+1 by have:=uH A;omega) (uH l).2.2.2.2.1,an (u:=.int .i64 c) (u':=.int .i64 c) (u'':=.slice D G F) (show O.heap.size≠w.heap.size+1+1 by have:=uH A;omega) (uH l).2.2.2.2.2⟩)
 clear y0 y1 y2 y3 y4 y5
 refine wp_region_held_drew (S:=(fun d=>d.cell? ⟨N.heap.size,0,none⟩=some (.int .i64 (r:Int))∧d.cell? ⟨N.heap.size,1,none⟩=some (.int .i64 (c:Int))∧d.cell? ⟨N.heap.size,2,none⟩=some (.slice m y t)∧d.cell? ⟨O.heap.size,0,none⟩=some (.int .i64 (c:Int))∧d.cell? ⟨O.heap.size,1,none⟩=some (.int .i64 (c:Int))∧d.cell? ⟨O.heap.size,2,none⟩=some (.slice D G F))) (by kernel_rfl) ?_ (fun K=>?_)
 ·exact uH a5
 refine wpAnyH_take (i:=0) (oi:={dst:=some 44,op:=Op.load 24 (Operand.tmp 9),type:=24,pos:= "rq.go:47",after:=#[],guard:=none}) (v:=(Value.agg #[.int .i64 (r:Int),.int .i64 (c:Int),.slice m y t])) rfl (by kernel_rfl) (by kernel_rfl) (by kernel_rfl) (fun _ _ _ h=>h) (Or.inl ⟨by rfl,?_⟩) (by assumption) ?_
 ·(intro w aI;(try dsimp only at aI);go_simp)
 simp only[Act.put,List.setIfInBounds_toArray,List.set_cons_zero,List.set_cons_succ]
 refine wpAnyH_take (i:=1) (oi:={dst:=some 45,op:=Op.load 24 (Operand.tmp 11),type:=24,pos:= "rq.go:47",after:=#[{on:=2,ground:=Ground.gcOnly Departure.lateStores}],guard:=none}) (v:=(Value.agg #[.int .i64 (c:Int),.int .i64 (c:Int),.slice D G F])) rfl (by kernel_rfl) (by kernel_rfl) (by kernel_rfl) (fun _ _ _ h=>h) (Or.inl ⟨by rfl,?_⟩) (by assumption) ?_
 ·(intro w aI;(try dsimp only at aI);go_simp)
 simp only[Act.put,List.setIfInBounds_toArray,List.set_cons_zero,List.set_cons_succ]
 refine wpAnyH_ready (rs:=[2]) (by kernel_rfl) (by simp) ?_
 refine AllReadyH.cons (o:={dst:=none,op:=Op.store 24 (Operand.tmp 2) (Operand.tmp 44),type:=0,pos:= "rq.go:47",after:=#[{on:=0,ground:=Ground.data},{on:=0,ground:=Ground.phase},{on:=1,ground:=Ground.textOnly Departure.lateStores}],guard:=none}) rfl (fun KK hK=>?_) AllReadyH.nil
 go_simp
 refine hK.out _ _ ?_ (fun K=>?_)
 ·exact uH Y
 clear hK KK
 refine wpAnyH_ready (rs:=[3]) (by kernel_rfl) (by simp) ?_
 refine AllReadyH.cons (o:={dst:=none,op:=Op.store 24 (Operand.tmp 3) (Operand.tmp 45),type:=0,pos:= "rq.go:47",after:=#[{on:=1,ground:=Ground.data},{on:=2,ground:=Ground.chain},{on:=0,ground:=Ground.phase},{on:=1,ground:=Ground.phase},{on:=2,ground:=Ground.phase}],guard:=none}) rfl (fun KK hK=>?_) AllReadyH.nil
 go_simp
 refine hK.out _ _ ?_ (fun K=>?_)
 ·exact uH ax
 clear hK KK
 refine wpAnyH_ready (rs:=[4]) (by kernel_rfl) (by simp) ?_
 refine AllReadyH.cons (o:={dst:=some 4,op:=Op.assign (Operand.const (Value.int IntKind.i64 0)),type:=26,pos:= "rq.go:47",after:=#[{on:=3,ground:=Ground.chain},{on:=0,ground:=Ground.phase},{on:=1,ground:=Ground.phase},{on:=2,ground:=Ground.phase},{on:=3,ground:=Ground.phase}],guard:=none}) rfl (fun KK hK=>?_) AllReadyH.nil
 go_simp
 refine hK.out _ _ ?_ (fun K=>?_)
 ·exact uH ax
 clear hK KK
 refine wpAnyH_done (by kernel_rfl) ?_ _
 clear a5 Y ax l
 go_wp2_with fail
 refine bodyPost_ret (v:=.tuple #[.agg #[.int .i64 r,.int .i64 c,.slice m y t],.agg #[.int .i64 c,.int .i64 c,.slice D G F],.int .i64 0]) (by simp[results,Tryz.results12,go_sem,z0,z1,z2,z3,z4,z5]) rfl ⟨_,_,rfl,⟨m,t,by rw[uH L4],uH bb,(uH PQ).below (Below.refl _ _).drew⟩,⟨D,F,by rw[uH L5],uH bc,(uH PR).below (Below.refl _ _).drew⟩,(uH BP).drew⟩
theorem DS(r c:Int)(z:Option Addr)(n l:Nat)(w:World)
  (D:∀d,Below w.heap.size w d→Calls Tryz.prog 19 #[.agg #[.int .i64 r,.int .i64 c,.slice z n l]] d fun e A=>e=.returned (.int .i64 1)∧Below d.heap.size d A):
  Calls Tryz.prog 13 #[.agg #[.int .i64 r,.int .i64 c,.slice z n l]] w fun e d=>∃v u,e=.returned (.tuple #[v,u,.int .i64 1])∧az w.heap.size d 0 0 [] v∧az w.heap.size d 0 0 [] u∧Below w.heap.size w d:=by
 have m:=aa (iP.start w r c z n l)
 have F:=aa (D _ (uH m).bel)
 clear D
 go_enter Tryz.func13,Tryz.ntmps13
 go_wp2_with fail
 refine(uH F).mono ?_
 rintro e w0 ⟨rfl,I⟩
 replace m:=aa ((uH m).all I)
 clear I F
 have f:=(uH m).r1;have G:=(uH m).r2
 have Q:=f.c0;have T:=f.c1;have U:=f.c2
 have V:=f.free 0;have X:=f.free 1;have Y:=f.free 2
 have H:=f.put (.int .i64 0) (.int .i64 0) (.slice none 0 0)
 have h:=G.three14 (g:=w.heap.size+1) (by omega) (.int .i64 0) (.int .i64 0) (.slice none 0 0)
 have Z:=h.c0;have s4:=h.c1;have s5:=h.c2
 have f3:=h.free 0;have f4:=h.free 1;have f5:=h.free 2
 have t:=H.three14 (g:=w.heap.size+1+1) (by omega) (.int .i64 0) (.int .i64 0) (.slice none 0 0)
 have y:=h.put (.int .i64 0) (.int .i64 0) (.slice none 0 0)
 have K:=t.c0;have z1:=t.c1;have z2:=t.c2;have L:=y.c0;have M:=y.c1;have N:=y.c2
 have O:=aa (al (al (uH m).bel (b:=w.heap.size+1) (by omega) (.int .i64 0) (.int .i64 0) (.slice none 0 0)) (b:=w.heap.size+1+1) (by omega) (.int .i64 0) (.int .i64 0) (.slice none 0 0))
 clear f G H h t y m
 go_wp2_with fail
 exact bodyPost_ret (v:=.tuple #[.agg #[.int .i64 0,.int .i64 0,.slice none 0 0],.agg #[.int .i64 0,.int .i64 0,.slice none 0 0],.int .i64 1]) (by simp[results,Tryz.results13,go_sem,K,z1,z2,L,M,N]) rfl ⟨_,_,rfl,az.zero _ _,az.zero _ _,uH O⟩
theorem AH(r c n m:Nat)(z:Option Addr)(w:World)(K:c<r)
  (D:∀f,Below w.heap.size w f→Calls Tryz.prog 19 #[.agg #[.int .i64 r,.int .i64 c,.slice z n m]] f fun e A=>e=.returned (.int .i64 0)∧Below f.heap.size f A):
  Calls Tryz.prog 13 #[.agg #[.int .i64 r,.int .i64 c,.slice z n m]] w fun e f=>∃v u,e=.returned (.tuple #[v,u,.int .i64 3])∧az w.heap.size f 0 0 [] v∧az w.heap.size f 0 0 [] u∧Below w.heap.size w f:=by
 have T:(c:Int)<(r:Int):=by omega
 have d:=aa (iP.start w r c z n m)
 have F:=aa (D _ (uH d).bel)
 clear D
 go_enter Tryz.func13,Tryz.ntmps13
 go_wp2_with fail
 refine(uH F).mono ?_
 rintro e w0 ⟨rfl,I⟩
 replace d:=aa ((uH d).all I)
 clear I F
 have U:=(uH d).a.c0;have V:=(uH d).a.c1;have X:=(uH d).a.c2
 have h:=(uH d).r1;have G:=(uH d).r2
 have Y:=h.c0;have Z:=h.c1;have s2:=h.c2
 have f0:=h.free 0;have f1:=h.free 1;have f2:=h.free 2
 have H:=h.put (.int .i64 0) (.int .i64 0) (.slice none 0 0)
 have l:=G.three14 (g:=w.heap.size+1) (by omega) (.int .i64 0) (.int .i64 0) (.slice none 0 0)
 have s3:=l.c0;have s4:=l.c1;have s5:=l.c2
 have f3:=l.free 0;have f4:=l.free 1;have f5:=l.free 2
 have t:=H.three14 (g:=w.heap.size+1+1) (by omega) (.int .i64 0) (.int .i64 0) (.slice none 0 0)
 have y:=l.put (.int .i64 0) (.int .i64 0) (.slice none 0 0)
 have L:=t.c0;have z1:=t.c1;have z2:=t.c2;have M:=y.c0;have N:=y.c1;have O:=y.c2
 have Q:=aa (al (al (uH d).bel (b:=w.heap.size+1) (by omega) (.int .i64 0) (.int .i64 0) (.slice none 0 0)) (b:=w.heap.size+1+1) (by omega) (.int .i64 0) (.int .i64 0) (.slice none 0 0))
 clear h G H l t y d
 go_wp2_with fail
 exact bodyPost_ret (v:=.tuple #[.agg #[.int .i64 0,.int .i64 0,.slice none 0 0],.agg #[.int .i64 0,.int .i64 0,.slice none 0 0],.int .i64 3]) (by simp[results,Tryz.results13,go_sem,L,z1,z2,M,N,O]) rfl ⟨_,_,rfl,az.zero _ _,az.zero _ _,uH Q⟩
theorem AJ(r c n l F:Nat)(G:Option Addr)(D:List Nat)(er:Int)(w:World)(K:er=4∨er=2)(ae:r≤c)(T:D.length=F)
  (U:∀d,Below w.heap.size w d→Calls Tryz.prog 19 #[.agg #[.int .i64 r,.int .i64 c,.slice G n l]] d fun e h=>e=.returned (.int .i64 0)∧Below d.heap.size d h)
  (V:∀d,Below w.heap.size w d→Calls Tryz.prog 7 #[.agg #[.int .i64 r,.int .i64 c,.slice G n l],.bool true,.bool false] d fun e h=>∃v,e=.returned (.tuple #[v,.int .i64 0])∧az d.heap.size h r c D v∧Below d.heap.size d h)
  (X:∀d Y Z,Below w.heap.size w d→ab d Y Z (ar D)→Calls Tryz.prog 12 #[.agg #[.int .i64 r,.int .i64 c,.slice Y F Z]] d fun e h=>∃v u,e=.returned (.tuple #[v,u,.int .i64 er])∧az d.heap.size h 0 0 [] v∧az d.heap.size h 0 0 [] u∧Below d.heap.size d h):
  Calls Tryz.prog 13 #[.agg #[.int .i64 r,.int .i64 c,.slice G n l]] w fun e d=>∃v u,e=.returned (.tuple #[v,u,.int .i64 er])∧az w.heap.size d 0 0 [] v∧az w.heap.size d 0 0 [] u∧Below w.heap.size w d:=by
 have hI:¬(c:Int)<(r:Int):=by omega
 have f:=aa (iP.start w r c G n l)
 have K0:=aa (U _ (uH f).bel);have K1:=aa V;have K2:=aa X;have L1:=aa T
 clear U V X T
 rcases K with rfl|rfl
 all_goals
  go_enter Tryz.func13,Tryz.ntmps13
  go_wp2_with fail
  refine(uH K0).mono ?_
  rintro e w0 ⟨rfl,t⟩
  replace f:=aa ((uH f).all t)
  clear t K0
  have y0:=(uH f).a.c0;have y1:=(uH f).a.c1;have y2:=(uH f).a.c2
  go_wp2_with fail
  clear y0 y1 y2
  refine(uH K1 _ (uH f).bel).mono ?_
  rintro e w1 ⟨v,rfl,⟨O,Q,rfl,hn,hq⟩,t⟩
  rw[uH L1]
  have L:=ac w1 (.cells #[.int .i64 r,.int .i64 c,.slice O F Q] 24)
  have M:=aa ((uH f).all t).r2.lt
  have m:=aa (au.new w1 (.int .i64 r) (.int .i64 c) (.slice O F Q))
  have N:=aa (hn.least (uH f).bel.size)
  have A:=aa (hq.below L)
  replace f:=aa (((uH f).all t).all L)
  clear t L hn hq
  clear K1
  have q0:=(uH m).c0;have q1:=(uH m).c1;have q2:=(uH m).c2
  go_wp2_with fail
  clear q0 q1 q2
  refine(uH K2 _ O Q (uH f).bel (uH A)).mono ?_
  rintro e w2 ⟨v,u,rfl,⟨vo,vc,rfl,_,_⟩,⟨uo,uc,rfl,_,_⟩,t⟩
  simp only[List.length_nil]
  have b1:=ac w2 (.cells #[.int .i64 0,.int .i64 0,.slice vo 0 vc] 24)
  have b2:=ac (w2.alloc (.cells #[.int .i64 0,.int .i64 0,.slice vo 0 vc] 24)) (.cells #[.int .i64 0,.int .i64 0,.slice uo 0 uc] 24)
  replace f:=aa ((((uH f).all t).all b1).all b2)
  clear t b1 b2
  clear K2 m A M N
  have y:=(uH f).r1;have X2:=(uH f).r2
  have s0:=y.c0;have s1:=y.c1;have s2:=y.c2
  have f0:=y.free 0;have f1:=y.free 1;have f2:=y.free 2
  have Y1:=y.put (.int .i64 0) (.int .i64 0) (.slice none 0 0)
  have z:=X2.three14 (g:=w.heap.size+1) (by omega) (.int .i64 0) (.int .i64 0) (.slice none 0 0)
  have s3:=z.c0;have s4:=z.c1;have s5:=z.c2
  have f3:=z.free 0;have f4:=z.free 1;have f5:=z.free 2
  have H:=Y1.three14 (g:=w.heap.size+1+1) (by omega) (.int .i64 0) (.int .i64 0) (.slice none 0 0)
  have I:=z.put (.int .i64 0) (.int .i64 0) (.slice none 0 0)
  have z0:=H.c0;have z1:=H.c1;have z2:=H.c2;have z3:=I.c0;have z4:=I.c1;have z5:=I.c2
  have BP:=aa (al (al (uH f).bel (b:=w.heap.size+1) (by omega) (.int .i64 0) (.int .i64 0) (.slice none 0 0)) (b:=w.heap.size+1+1) (by omega) (.int .i64 0) (.int .i64 0) (.slice none 0 0))
  clear y X2 Y1 z H I f
  go_wp2_with fail
  exact bodyPost_ret (v:=.tuple #[.agg #[.int .i64 0,.int .i64 0,.slice none 0 0],.agg #[.int .i64 0,.int .i64 0,.slice none 0 0],.int .i64 _]) (by simp[results,Tryz.results13,go_sem,z0,z1,z2,z3,z4,z5]) rfl ⟨_,_,rfl,az.zero _ _,az.zero _ _,uH BP⟩
theorem Gr(r c n Y n1 n2 n3 t K:Nat)(ao:Option Addr)(D L P R Q:List Nat)(w:World)(be:r≤c)(l1:D.length=n1)(l2:L.length=n2)(l3:P.length=n3)(l4:R.length=t)(l5:Q.length=K)
  (C0:∀d,Below w.heap.size w d→Calls Tryz.prog 19 #[.agg #[.int .i64 r,.int .i64 c,.slice ao n Y]] d fun e f=>e=.returned (.int .i64 0)∧Below d.heap.size d f)
  (C1:∀d,Below w.heap.size w d→Calls Tryz.prog 7 #[.agg #[.int .i64 r,.int .i64 c,.slice ao n Y],.bool true,.bool false] d fun e f=>∃v,e=.returned (.tuple #[v,.int .i64 0])∧az d.heap.size f r c D v∧Below d.heap.size d f)
  (C2:∀d po pc,Below w.heap.size w d→ab d po pc (ar D)→Calls Tryz.prog 12 #[.agg #[.int .i64 r,.int .i64 c,.slice po n1 pc]] d fun e f=>∃v u,e=.returned (.tuple #[v,u,.int .i64 0])∧az d.heap.size f r c L v∧az d.heap.size f c c P u∧Below d.heap.size d f)
  (C3:∀d po pc,ab d po pc (ar L)→Calls Tryz.prog 7 #[.agg #[.int .i64 r,.int .i64 c,.slice po n2 pc],.bool true,.bool true] d fun e f=>∃v,e=.returned (.tuple #[v,.int .i64 0])∧az d.heap.size f r c R v∧Below d.heap.size d f)
  (C4:∀d po pc,ab d po pc (ar P)→Calls Tryz.prog 7 #[.agg #[.int .i64 c,.int .i64 c,.slice po n3 pc],.bool true,.bool false] d fun e f=>∃v,e=.returned (.tuple #[v,.int .i64 0])∧az d.heap.size f c c Q v∧Below d.heap.size d f):
  Calls Tryz.prog 13 #[.agg #[.int .i64 r,.int .i64 c,.slice ao n Y]] w fun e d=>∃v u,e=.returned (.tuple #[v,u,.int .i64 0])∧az w.heap.size d r c R v∧az w.heap.size d c c Q u∧Below w.heap.size w d:=by
 have hI:¬(c:Int)<(r:Int):=by omega
 have y:=aa (iP.start w r c ao n Y)
 have K0:=aa (C0 _ (uH y).bel);have K1:=aa C1;have K2:=aa C2;have K3:=aa C3;have K4:=aa C4;have L1:=aa l1;have L2:=aa l2;have L3:=aa l3;have L4:=aa l4;have L5:=aa l5
 clear C0 C1 C2 C3 C4 l1 l2 l3 l4 l5
 go_enter Tryz.func13,Tryz.ntmps13
 go_wp2_with fail
 refine(uH K0).mono ?_
 rintro e w0 ⟨rfl,A⟩
 replace y:=aa ((uH y).all A)
 clear A K0
 have y0:=(uH y).a.c0;have y1:=(uH y).a.c1;have y2:=(uH y).a.c2
 go_wp2_with fail
 clear y0 y1 y2
 refine(uH K1 _ (uH y).bel).mono ?_
 rintro e w1 ⟨v,rfl,⟨o1,c1,rfl,hn,X⟩,A⟩
 rw[uH L1]
 have N:=ac w1 (.cells #[.int .i64 r,.int .i64 c,.slice o1 n1 c1] 24)
 have a7:=aa ((uH y).all A).r2.lt
 have ae:=aa (au.new w1 (.int .i64 r) (.int .i64 c) (.slice o1 n1 c1))
 have a9:=aa (hn.least (uH y).bel.size)
 have a0:=aa (X.below N)
 replace y:=aa (((uH y).all A).all N)
 clear A N hn X
 clear K1
 have q0:=(uH ae).c0;have q1:=(uH ae).c1;have q2:=(uH ae).c2
 go_wp2_with fail
 clear q0 q1 q2
 refine(uH K2 _ o1 c1 (uH y).bel (uH a0)).mono ?_
 rintro e w2 ⟨v,u,rfl,⟨p2,d2,rfl,_,X⟩,⟨s2,f2,rfl,_,hr⟩,A⟩
 rw[uH L2,uH L3]
 have b1:=ac w2 (.cells #[.int .i64 r,.int .i64 c,.slice p2 n2 d2] 24)
 have s1:=ai w2 (.cells #[.int .i64 r,.int .i64 c,.slice p2 n2 d2] 24)
 have b2:=ac (w2.alloc (.cells #[.int .i64 r,.int .i64 c,.slice p2 n2 d2] 24)) (.cells #[.int .i64 c,.int .i64 c,.slice s2 n3 f2] 24)
 have aj:=aa ((au.new w2 (.int .i64 r) (.int .i64 c) (.slice p2 n2 d2)).all b2)
 have O:=aa (au.new (w2.alloc (.cells #[.int .i64 r,.int .i64 c,.slice p2 n2 d2] 24)) (.int .i64 c) (.int .i64 c) (.slice s2 n3 f2))
 rw[s1]at O
 have z:=aa ((X.below b1).below b2)
 have T:=aa ((hr.below b1).below b2)
 replace y:=aa ((((uH y).all A).all b1).all b2)
 clear A b1 b2 s1 X hr
 clear K2 ae a0 a7 a9
 have q0:=(uH aj).c0;have q1:=(uH aj).c1;have q2:=(uH aj).c2
 go_wp2_with fail
 clear q0 q1 q2
 refine(uH K3 _ p2 d2 (uH z)).mono ?_
 rintro e U ⟨v,rfl,⟨l,m,rfl,hn,X⟩,A⟩
 rw[uH L4]
 have N:=ac U (.cells #[.int .i64 r,.int .i64 c,.slice l t m] 24)
 have a1:=aa ((uH y).all A).r2.lt
 have am:=aa (au.new U (.int .i64 r) (.int .i64 c) (.slice l t m))
 have bb:=aa (hn.least (uH y).bel.size)
 have av:=aa (X.below N)
 replace y:=aa (((uH y).all A).all N)
 replace O:=aa (((uH O).all A).all N)
 replace T:=aa (((uH T).below A).below N)
 clear A N hn X
 clear K3 aj z
 have q0:=(uH O).c0;have q1:=(uH O).c1;have q2:=(uH O).c2
 go_wp2_with fail
 clear q0 q1 q2
 refine(uH K4 _ s2 f2 (uH T)).mono ?_
 rintro e V ⟨v,rfl,⟨H,I,rfl,hn,X⟩,A⟩
 rw[uH L5]
 have N:=ac V (.cells #[.int .i64 c,.int .i64 c,.slice H K I] 24)
 have a2:=aa ((uH y).all A).r2.lt
 have a3:=aa (au.new V (.int .i64 c) (.int .i64 c) (.slice H K I))
 have bc:=aa (hn.least (uH y).bel.size)
 have a4:=aa (X.below N)
 replace y:=aa (((uH y).all A).all N)
 replace am:=aa (((uH am).all A).all N)
 replace av:=aa (((uH av).below A).below N)
 clear A N hn X
 clear K4 O T
 have F:=a1;have G:=a2
 clear a1 a2
 go_wp2_with fail
 refine ap (fun W=>iP w W r c ao n Y∧au W U.heap.size (.int .i64 r) (.int .i64 c) (.slice l t m)∧au W V.heap.size (.int .i64 c) (.int .i64 c) (.slice H K I)∧ab W l m (ar R)∧ab W H I (ar Q)) ⟨uH y,uH am,uH a3,uH av,uH a4⟩ ?_
 clear y am a3 av a4
 rintro W ⟨s2,cb,tb,X,a6⟩
 have S2:=aa (s2)
 have y3:=(cb).c0;have y4:=(cb).c1;have y5:=(cb).c2
 have y0:=(tb).c0;have y1:=(tb).c1;have y2:=(tb).c2
 have Q1:=X;have Q3:=a6
 clear s2 cb tb X a6
 have Z:=(uH S2).r1;have X2:=(uH S2).r2
 have s0:=Z.c0;have s1:=Z.c1;have s2:=Z.c2
 have f0:=Z.free 0;have f1:=Z.free 1;have f2:=Z.free 2
 have Y1:=Z.put (.int .i64 r) (.int .i64 c) (.slice l t m)
 have Y2:=X2.three14 (g:=w.heap.size+1) (by omega) (.int .i64 r) (.int .i64 c) (.slice l t m)
 have s3:=Y2.c0;have s4:=Y2.c1;have s5:=Y2.c2
 have f3:=Y2.free 0;have f4:=Y2.free 1;have f5:=Y2.free 2
 have Z1:=Y1.three14 (g:=w.heap.size+1+1) (by omega) (.int .i64 c) (.int .i64 c) (.slice H K I)
 have Z2:=Y2.put (.int .i64 c) (.int .i64 c) (.slice H K I)
 have z0:=Z1.c0;have z1:=Z1.c1;have z2:=Z1.c2;have z3:=Z2.c0;have z4:=Z2.c1;have z5:=Z2.c2
 have BP:=aa (al (al (uH S2).bel (b:=w.heap.size+1) (by omega) (.int .i64 r) (.int .i64 c) (.slice l t m)) (b:=w.heap.size+1+1) (by omega) (.int .i64 c) (.int .i64 c) (.slice H K I))
 have PQ:=aa ((Q1.putM Z (.int .i64 r) (.int .i64 c) (.slice l t m)).putM Y2 (.int .i64 c) (.int .i64 c) (.slice H K I))
 have PR:=aa ((Q3.putM Z (.int .i64 r) (.int .i64 c) (.slice l t m)).putM Y2 (.int .i64 c) (.int .i64 c) (.slice H K I))
 clear Z X2 Y1 Y2 Z1 Z2 S2 Q1 Q3
 have a5:=aa (show _∧_∧_∧_∧_∧_ from⟨aT y3,aT y4,aT y5,aT y0,aT y1,aT y2⟩)
 have z:=aa (show _∧_∧_∧_∧_∧_ from⟨aR (u:=.int .i64 r) (u':=.int .i64 c) (u'':=.slice l t m) (show U.heap.size≠w.heap.size+1 by have:=uH F;omega) y3,aR (u:=.int .i64 r) (u':=.int .i64 c) (u'':=.slice l t m) (show U.heap.size≠w.heap.size+1 by have:=uH F;omega) y4,aR (u:=.int .i64 r) (u':=.int .i64 c) (u'':=.slice l t m) (show U.heap.size≠w.heap.size+1 by have:=uH F;omega) y5,aR (u:=.int .i64 r) (u':=.int .i64 c) (u'':=.slice l t m) (show V.heap.size≠w.heap.size+1 by have:=uH G;omega) y0,aR (u:=.int .i64 r) (u':=.int .i64 c) (u'':=.slice l t m) (show V.heap.size≠w.heap.size+1 by have:=uH G;omega) y1,aR (u:=.int .i64 r) (u':=.int .i64 c) (u'':=.slice l t m) (show V.heap.size≠w.heap.size+1 by have:=uH G;omega) y2⟩)
 have T:=aa (show _∧_∧_∧_∧_∧_ from⟨an (u:=.int .i64 r) (u':=.int .i64 c) (u'':=.slice l t m) (show U.heap.size≠w.heap.size+1 by have:=uH F;omega) y3,an (u:=.int .i64 r) (u':=.int .i64 c) (u'':=.slice l t m) (show U.heap.size≠w.heap.size+1 by have:=uH F;omega) y4,an (u:=.int .i64 r) (u':=.int .i64 c) (u'':=.slice l t m) (show U.heap.size≠w.heap.size+1 by have:=uH F;omega) y5,an (u:=.int .i64 r) (u':=.int .i64 c) (u'':=.slice l t m) (show V.heap.size≠w.heap.size+1 by have:=uH G;omega) y0,an (u:=.int .i64 r) (u':=.int .i64 c) (u'':=.slice l t m) (show V.heap.size≠w.heap.size+1 by have:=uH G;omega) y1,an (u:=.int .i64 r) (u':=.int .i64 c) (u'':=.slice l t m) (show V.heap.size≠w.heap.size+1 by have:=uH G;omega) y2⟩)
 have ax:=aa (show _∧_∧_∧_∧_∧_ from⟨an (u:=.int .i64 c) (u':=.int .i64 c) (u'':=.slice H K I) (show U.heap.size≠w.heap.size+1+1 by have:=uH F;omega) (uH z).1,an (u:=.int .i64 c) (u':=.int .i64 c) (u'':=.slice H K I) (show U.heap.size≠w.heap.size+1+1 by have:=uH F;omega) (uH z).2.1,an (u:=.int .i64 c) (u':=.int .i64 c) (u'':=.slice H K I) (show U.heap.size≠w.heap.size+1+1 by have:=uH F;omega) (uH z).2.2.1,an (u:=.int .i64 c) (u':=.int .i64 c) (u'':=.slice H K I) (show V.heap.size≠w.heap.size+1+1 by have:=uH G;omega) (uH z).2.2.2.1,an (u:=.int .i64 c) (u':=.int .i64 c) (u'':=.slice H K I) (show V.heap.size≠w.heap.size+1+1 by have:=uH G;omega) (uH z).2.2.2.2.1,an (u:=.int .i64 c) (u':=.int .i64 c) (u'':=.slice H K I) (show V.heap.size≠w.heap.size+1+1 by have:=uH G;omega) (uH z).2.2.2.2.2⟩)
 clear y0 y1 y2 y3 y4 y5
 refine wp_region_held_drew (S:=(fun d=>d.cell? ⟨U.heap.size,0,none⟩=some (.int .i64 (r:Int))∧d.cell? ⟨U.heap.size,1,none⟩=some (.int .i64 (c:Int))∧d.cell? ⟨U.heap.size,2,none⟩=some (.slice l t m)∧d.cell? ⟨V.heap.size,0,none⟩=some (.int .i64 (c:Int))∧d.cell? ⟨V.heap.size,1,none⟩=some (.int .i64 (c:Int))∧d.cell? ⟨V.heap.size,2,none⟩=some (.slice H K I))) (by kernel_rfl) ?_ (fun M=>?_)
 ·exact uH a5
 refine wpAnyH_take (i:=0) (oi:={dst:=some 55,op:=Op.load 24 (Operand.tmp 11),type:=24,pos:= "rq.go:65",after:=#[],guard:=none}) (v:=(Value.agg #[.int .i64 (r:Int),.int .i64 (c:Int),.slice l t m])) rfl (by kernel_rfl) (by kernel_rfl) (by kernel_rfl) (fun _ _ _ h=>h) (Or.inl ⟨by rfl,?_⟩) (by assumption) ?_
 ·(intro w aI;(try dsimp only at aI);go_simp)
 simp only[Act.put,List.setIfInBounds_toArray,List.set_cons_zero,List.set_cons_succ]
 refine wpAnyH_take (i:=1) (oi:={dst:=some 56,op:=Op.load 24 (Operand.tmp 13),type:=24,pos:= "rq.go:65",after:=#[{on:=2,ground:=Ground.gcOnly Departure.lateStores}],guard:=none}) (v:=(Value.agg #[.int .i64 (c:Int),.int .i64 (c:Int),.slice H K I])) rfl (by kernel_rfl) (by kernel_rfl) (by kernel_rfl) (fun _ _ _ h=>h) (Or.inl ⟨by rfl,?_⟩) (by assumption) ?_
 ·(intro w aI;(try dsimp only at aI);go_simp)
 simp only[Act.put,List.setIfInBounds_toArray,List.set_cons_zero,List.set_cons_succ]
 refine wpAnyH_ready (rs:=[2]) (by kernel_rfl) (by simp) ?_
 refine AllReadyH.cons (o:={dst:=none,op:=Op.store 24 (Operand.tmp 2) (Operand.tmp 55),type:=0,pos:= "rq.go:65",after:=#[{on:=0,ground:=Ground.data},{on:=0,ground:=Ground.phase},{on:=1,ground:=Ground.textOnly Departure.lateStores}],guard:=none}) rfl (fun KK hK=>?_) AllReadyH.nil
 go_simp
 refine hK.out _ _ ?_ (fun M=>?_)
 ·exact uH T
 clear hK KK
 refine wpAnyH_ready (rs:=[3]) (by kernel_rfl) (by simp) ?_
 refine AllReadyH.cons (o:={dst:=none,op:=Op.store 24 (Operand.tmp 3) (Operand.tmp 56),type:=0,pos:= "rq.go:65",after:=#[{on:=1,ground:=Ground.data},{on:=2,ground:=Ground.chain},{on:=0,ground:=Ground.phase},{on:=1,ground:=Ground.phase},{on:=2,ground:=Ground.phase}],guard:=none}) rfl (fun KK hK=>?_) AllReadyH.nil
 go_simp
 refine hK.out _ _ ?_ (fun M=>?_)
 ·exact uH ax
 clear hK KK
 refine wpAnyH_ready (rs:=[4]) (by kernel_rfl) (by simp) ?_
 refine AllReadyH.cons (o:={dst:=some 4,op:=Op.assign (Operand.const (Value.int IntKind.i64 0)),type:=26,pos:= "rq.go:65",after:=#[{on:=3,ground:=Ground.chain},{on:=0,ground:=Ground.phase},{on:=1,ground:=Ground.phase},{on:=2,ground:=Ground.phase},{on:=3,ground:=Ground.phase}],guard:=none}) rfl (fun KK hK=>?_) AllReadyH.nil
 go_simp
 refine hK.out _ _ ?_ (fun M=>?_)
 ·exact uH ax
 clear hK KK
 refine wpAnyH_done (by kernel_rfl) ?_ _
 clear a5 T ax z
 go_wp2_with fail
 refine bodyPost_ret (v:=.tuple #[.agg #[.int .i64 r,.int .i64 c,.slice l t m],.agg #[.int .i64 c,.int .i64 c,.slice H K I],.int .i64 0]) (by simp[results,Tryz.results13,go_sem,z0,z1,z2,z3,z4,z5]) rfl ⟨_,_,rfl,⟨l,m,by rw[uH L4],uH bb,(uH PQ).below (Below.refl _ _).drew⟩,⟨H,I,by rw[uH L5],uH bc,(uH PR).below (Below.refl _ _).drew⟩,(uH BP).drew⟩
end Go.Proofs.YtenpggicmfhhdaaGreatDoor
namespace Go.Proofs.YtenpggicmfhhdaaGreatDoor
theorem AK(r c:Nat)(S:List Nat)(m:S.length=r*c)(h:bB S=true):bB (d8 r c S)=true:=by
 rw[nB]at h⊢
 intro x l
 rw[ez]at l
 obtain⟨d,f,t⟩:=gP l
 have e:(d8 r c S).getD x 0=dJ r (d8 r c S) (x/r) (x%r):=by unfold dJ;rw[t]
 rw[e,uW r c S d f]
 unfold dJ
 exact h _ (by rw[m];exact cY f d)
theorem DT(r c:Nat)(S:List Nat)(d:S.length=r*c):d8 c r (d8 r c S)=S:=Gi r c S d
theorem jC(r c:Nat)(S:List Nat)(d:S.length=r*c):bB (d8 r c S)=bB S:=by
 cases h:bB S
 ·cases h2:bB (d8 r c S)
  ·rfl
  ·have:=AK c r (d8 r c S) (ez _ _ _) h2
   rw[DT r c S d,h]at this
   cases this
 ·exact AK r c S d h
theorem AL(r c:Nat)(S:List Nat)(t:S.length=r*c)(h:bB S=true):bB (eY r c S)=true:=by
 rw[nB]at h⊢
 intro x l
 rw[ff]at l
 obtain⟨y,f,m⟩:=gP l
 have e:(eY r c S).getD x 0=dJ c (eY r c S) (x/c) (x%c):=by unfold dJ;rw[m]
 rw[e,Am r c S y f]
 unfold dJ
 have d:r-1-x/c<r:=by
  clear e m l f
  generalize x/c=a at*
  omega
 exact h _ (by rw[t];exact cY d f)
theorem Gs(r c:Nat)(S:List Nat)(d:S.length=r*c):eY r c (eY r c S)=S:=by
 conv=>rhs;rw[←jz r c S d]
 unfold eY
 refine bC (fun p q h f=>?_)
 rw[oY r c _ (by omega) f,show r-1-(r-1-p)=p by omega]
 rfl
theorem jD(r c:Nat)(S:List Nat)(d:S.length=r*c):bB (eY r c S)=bB S:=by
 cases h:bB S
 ·cases h2:bB (eY r c S)
  ·rfl
  ·have:=AL r c (eY r c S) (ff _ _ _) h2
   rw[Gs r c S d,h]at this
   cases this
 ·exact AL r c S d h
open Go.RowKit
attribute [local go_sem ↓] Go.wp_at_zero Go.wp_at_succ
theorem xl(f er:Int)(y:Bool)(A D:Option Addr)(F G:Nat)(H I K L M N:Value)(w:World)(h:(f=0∧y=false∧er=2)∨(f=1∧er=1)∨(f=4∧er=4)∨(f=3∧er=3)):
  Calls Tryz.prog 17 #[.agg #[.int .i64 0,.int .i64 0,.slice A 0 F],.agg #[.int .i64 0,.int .i64 0,.slice D 0 G],.int .i64 er,.agg #[H,I,K,L,M,N,.bool y],.int .i64 f] w fun e l=>e=.returned (.bool true)∧Below w.heap.size w l:=by
 have d:=aa (tR.start w (.int .i64 0) (.int .i64 0) (.slice A 0 F) (.int .i64 0) (.int .i64 0) (.slice D 0 G) H I K L M N (.bool y))
 have t:=aa (fun l O z=>kI 0 0 O none z 0 [] l (ab.nilAt l _ _) (ab.nilAt l _ _) (by simp))
 simp only[List.length_nil]at t
 have Q:=(uH d).r.c0;have T:=(uH d).r.c1;have U:=(uH d).r.c2
 have V:=(uH d).x.c6
 rcases h with⟨rfl,rfl,rfl⟩|⟨rfl,rfl⟩|⟨rfl,rfl⟩|⟨rfl,rfl⟩
 all_goals
  go_enter Tryz.func17,Tryz.ntmps17
  go_wp2_with fail
  clear Q T U V
  refine(uH t _ _ _).mono ?_
  rintro e w1 ⟨rfl,m⟩
  replace d:=aa ((uH d).all m)
  clear m
  have X:=(uH d).q.c0;have Y:=(uH d).q.c1;have Z:=(uH d).q.c2
  go_wp2_with fail
  clear X Y Z
  refine(uH t _ _ _).mono ?_
  rintro e w2 ⟨rfl,m⟩
  replace d:=aa ((uH d).all m)
  clear m t
  go_wp2
  go_ret
  exact⟨rfl,(uH d).bel⟩
theorem uq(m p2 t y:Nat)(z A D h:Option Addr)(F G H I:Nat)(Q R:List Nat)(w:World)(K:ab w z F (ar Q))(L:ab w A G (ar R))(M:ab w D H (ar Q))(N:ab w h I (ar R))(U:Q.length≤36)(V:R.length≤36):
  Calls Tryz.prog 17 #[.agg #[.int .i64 t,.int .i64 y,.slice A R.length G],.agg #[.int .i64 m,.int .i64 p2,.slice z Q.length F],.int .i64 0,.agg #[.int .i64 m,.int .i64 p2,.slice D Q.length H,.int .i64 t,.int .i64 y,.slice h R.length I,.bool true],.int .i64 0] w fun e l=>e=.returned (.bool true)∧Below w.heap.size w l:=by
 have d:=aa (tR.start w (.int .i64 t) (.int .i64 y) (.slice A R.length G) (.int .i64 m) (.int .i64 p2) (.slice z Q.length F) (.int .i64 m) (.int .i64 p2) (.slice D Q.length H) (.int .i64 t) (.int .i64 y) (.slice h R.length I) (.bool true))
 have O:=aa (fun l (f:Below w.heap.size w l)=>kI m p2 z D F H Q l (K.below f) (M.below f) (by omega))
 have T:=aa (fun l (f:Below w.heap.size w l)=>kI t y A h G I R l (L.below f) (N.below f) (by omega))
 clear K L M N U V
 generalize Q.length=nq at*
 generalize R.length=nr at*
 have X:=(uH d).r.c0;have Y:=(uH d).r.c1;have Z:=(uH d).r.c2
 have x0:=(uH d).x.c0;have x1:=(uH d).x.c1;have x2:=(uH d).x.c2;have x6:=(uH d).x.c6
 go_enter Tryz.func17,Tryz.ntmps17
 go_wp2_with fail
 clear X Y Z x0 x1 x2 x6
 refine(uH O _ (uH d).bel).mono ?_
 rintro e w1 ⟨rfl,f⟩
 replace d:=aa ((uH d).all f)
 clear f O
 have r0:=(uH d).q.c0;have r1:=(uH d).q.c1;have r2:=(uH d).q.c2
 have x3:=(uH d).x.c3;have x4:=(uH d).x.c4;have x5:=(uH d).x.c5
 go_wp2_with fail
 clear r0 r1 r2 x3 x4 x5
 refine(uH T _ (uH d).bel).mono ?_
 rintro e w2 ⟨rfl,f⟩
 replace d:=aa ((uH d).all f)
 clear f T
 go_wp2
 go_ret
 exact⟨rfl,(uH d).bel⟩
theorem ur(w:World)
  (I:∀f K,Below w.heap.size w f→ab f K 2 [((4613937818241073152:Nat):Int),((4616189618054758400:Nat):Int)]→Calls Tryz.prog 13 #[.agg #[.int .i64 1,.int .i64 2,.slice K 2 2]] f fun e l=>∃(y z:Int) (A:Option Addr) (nq D:Nat) (F:Option Addr) (m:Nat),e=.returned (.tuple #[.agg #[.int .i64 1,.int .i64 2,.slice F 2 m],.agg #[.int .i64 y,.int .i64 z,.slice A nq D],.int .i64 0])∧ab l F m (ar [0,13840687554816376832])∧Below f.heap.size f l):
  Calls Tryz.prog 10 #[] w fun e f=>e=.returned (.bool true)∧Below w.heap.size w f:=by
 have L:=aa I
 have M:=aa (rT w 4613937818241073152 4616189618054758400 (by decide) (by decide))
 have h:=aa (ac w (.cells #[.int .u64 ((4613937818241073152:Nat):Int),.int .u64 ((4616189618054758400:Nat):Int)] 30))
 clear I
 go_enter Tryz.func10,Tryz.ntmps10
 go_wp2_with fail
 refine(uH L _ _ (uH h) (uH M)).mono ?_
 rintro e t ⟨y,z,A,nq,D,F,m,rfl,O,Q⟩
 obtain⟨b,d,rfl,_,H⟩:=O.ne (by decide)
 have T:t.cell? ⟨b,d+0,none⟩=some (.int .u64 0):=H 0 (by decide)
 have V:t.cell? ⟨b,d+1,none⟩=some (.int .u64 13840687554816376832):=H 1 (by decide)
 rw[Nat.add_zero]at T
 replace h:=aa ((uH h).trans (Q.mono (uH h).size))
 clear Q L M O H
 have G:=ac t (.cells #[.int .i64 1,.int .i64 2,.slice (some ⟨b,d,none⟩) 2 m] 24)
 have N:=ac (t.alloc (.cells #[.int .i64 1,.int .i64 2,.slice (some ⟨b,d,none⟩) 2 m] 24)) (.cells #[.int .i64 y,.int .i64 z,.slice A nq D] 24)
 have U:=aa ((uH h).trans ((G.trans (N.mono G.size)).mono (uH h).size))
 clear G N h
 go_wp2
 go_ret
 exact⟨rfl,uH U⟩
theorem Ee:uY 1 2 [4613937818241073152,4616189618054758400]= [0,13840687554816376832]∧uZ 1 2 [4613937818241073152,4616189618054758400]=true:=by
 have d:eY 1 2 [4613937818241073152,4616189618054758400]= [4613937818241073152,4616189618054758400]:=rfl
 have f:d8 1 2 [4613937818241073152,4616189618054758400]= [4613937818241073152,4616189618054758400]:=rfl
 constructor
 ·unfold uY o6
  rw[d,f,Gm]
  rfl
 ·unfold uZ uX
  rw[d,f]
  exact GH
theorem FD:bB [4613937818241073152,4616189618054758400]=true:=by
 show((true&&aD 4613937818241073152)&&aD 4616189618054758400)=true
 rw[dh.2.1,dh.2.2.2.2.2.2.2.2.2.2.2.2]
 rfl
theorem AM(w:World)
  (D:∀d h l (r c:Nat) S,Below w.heap.size w d→Mx d h l r c S→r≤c→bB S=true→uZ r c S=true→Calls Tryz.prog 13 #[.agg #[.int .i64 r,.int .i64 c,.slice h S.length l]] d fun e f=>∃v u,e=.returned (.tuple #[v,u,.int .i64 0])∧az 0 f r c (uY r c S) v∧az 0 f c c (xq r c S) u∧Below d.heap.size d f):
  ∀d,Below w.heap.size w d→Calls Tryz.prog 10 #[] d fun e f=>e=.returned (.bool true)∧Below d.heap.size d f:=by
 intro d z
 refine ur d (fun y h m F=>?_)
 have G:Mx y h 2 1 2 [4613937818241073152,4616189618054758400]:=⟨F,rfl,by decide,by decide⟩
 refine(D y h 2 1 2 _ (z.trans (m.mono z.size)) G (by decide) FD Ee.2).mono ?_
 rintro e M ⟨v,u,rfl,⟨H,I,rfl,_,A⟩,⟨K,L,rfl,_,_⟩,t⟩
 rw[Ee.1]at A⊢
 exact⟨_,_,K,_,L,H,I,rfl,A,t⟩
structure DU (w wr:World) (g:Nat) (a0 a1 a2 q0 q1 q2 r0 r1 r2:Value):Prop where
 bel:Below w.heap.size w wr
 a:au wr w.heap.size a0 a1 a2
 q:au wr g q0 q1 q2
 r:au wr (g+1) r0 r1 r2
theorem DU.start{w d:World}{A D F:Value}(G:Below w.heap.size w d)(L:au d w.heap.size A D F)(f h l m t y:Value):DU w ((d.alloc (.cells #[f,h,l] 24)).alloc (.cells #[m,t,y] 24)) d.heap.size A D F f h l m t y∧Below d.heap.size d ((d.alloc (.cells #[f,h,l] 24)).alloc (.cells #[m,t,y] 24)):=by
 have H:=ac d (.cells #[f,h,l] 24)
 have M:=ai d (.cells #[f,h,l] 24)
 have I:=ac (d.alloc (.cells #[f,h,l] 24)) (.cells #[m,t,y] 24)
 have K:=au.new (d.alloc (.cells #[f,h,l] 24)) m t y
 rw[M]at K
 have z:=H.trans (I.mono H.size)
 exact⟨⟨G.trans (z.mono G.size),L.all z,(au.new d f h l).all I,K⟩,z⟩
end Go.Proofs.YtenpggicmfhhdaaGreatDoor
