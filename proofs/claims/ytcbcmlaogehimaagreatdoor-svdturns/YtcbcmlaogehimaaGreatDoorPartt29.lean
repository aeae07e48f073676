/- Part 29 of the texts. -/
import Derived.Test.YtcbcmlaogehimaaGreatDoorPartt28
set_option maxHeartbeats 8000000
set_option maxRecDepth 20000
namespace Go.Proofs.YtcbcmlaogehimaaGreatDoor
open Go.RowKit
attribute [local go_sem ↓] Go.wp_at_zero Go.wp_at_succ
theorem GT(c:Nat)(S:List Nat)(i:Nat){j:Nat}(h:j<c):bH (bF (GG c S i)) j=aQ c S i j:=by rw[ev];exact JS c S i j h
theorem rJ(r c:Nat)(S:List Nat)(k:Nat):(Kx r c S k).length=r:=gA _ _
theorem rK(r c:Nat)(S:List Nat)(k:Nat){j:Nat}(h:j<r):bH (bF (Kx r c S k)) j=aQ c S j k:=by
 rw[ev]
 simp[Kx,lX,List.getD_eq_getElem?_getD,h]
theorem DS(F G:Option Addr)(c d n:Nat)(I J:List Int)(w:World)(H:al w F c I)(K:al w G d J)(Q:I.length=n)(L:J.length=n)(U:n≤8)(A:∀k,k<n→aj (bH I k)=true)(D:∀k,k<n→aj (bH J k)=true):
  Calls Tryz.prog 31 #[.slice F n c,.slice G n d] w fun e z=>∃v,e=.returned v∧aT z v (-2148) (cR (fun j=>fZ (bH I j)*fZ (bH J j)) n)∧Below w.heap.size w z:=
 GQ F G c d n I J (-1074) (-2148) (fun k=>fZ (bH I k)) (fun k=>fZ (bH J k)) (fun k=>cR (fun j=>fZ (bH I j)*fZ (bH J j)) k) w H K Q L U rfl
  (fun z k h=>nH _ z (H.lt k) (A k h)) (fun z k h=>nH _ z (K.lt k) (D k h)) (fun z k v u h N O=>H9 (H.lt k) (K.lt k) (A k h) (D k h) N O)
  (fun z k v u h N O=>t9 N O (wN k (by omega) _ _ (fun j L=>A j (by omega)) (fun j L=>D j (by omega))) (JY _ _ (A k h) (D k h)))
theorem yw(u z:Option Addr)(c d n:Nat)(I J:List Int)(x y:Nat→Nat)(w:World)(G:al w u c I)(H:al w z d J)(K:I.length=n)(L:J.length=n)(N:n≤8)(A:∀k,k<n→bH I k=x k)(D:∀k,k<n→bH J k=y k)(O:∀k,aj (x k)=true)(Q:∀k,aj (y k)=true):
  Calls Tryz.prog 31 #[.slice u n c,.slice z n d] w fun e F=>∃v,e=.returned v∧aT F v (-2148) (Ac n x y)∧Below w.heap.size w F:=by
 have C:=DS u z c d n I J w G H K L N (fun k h=>by rw[A k h];exact O k) (fun k h=>by rw[D k h];exact Q k)
 have e:cR (fun j=>fZ (bH I j)*fZ (bH J j)) n=Ac n x y:=iH n (fun k h=>by show fZ (bH I k)*fZ (bH J k)=_;rw[A k h,D k h])
 rwa[e]at C
theorem J0(w:World)(B:Nat)(v:Value)(h:au B w v 1):Calls Tryz.prog 27 #[v,.int .i64 0] w fun e d=>∃u,e=.returned u∧aT d u (-2148) (2^2148)∧Below w.heap.size w d:=by
 refine(dO 0 (h.toM (jq (k:=1) (by decide) (by decide))) (by decide) (by decide)).mono ?_
 rintro e d ⟨u,rfl,z,A⟩
 refine⟨u,rfl,?_,A⟩
 have:=aT.lower (show aT d u 0 1 from z) 2148
 rwa[Int.one_mul,show(0:Int)-(2148:Nat)= -2148 by decide]at this
theorem Ah(r c z:Nat)(G:Option Addr)(Q:List Nat)(w:World)(h:Mx w G z r c Q)(F:∀x∈Q,aj x=true):
  Calls Tryz.prog 26 #[.agg #[.int .i64 r,.int .i64 c,.slice G Q.length z]] w fun e d=>∃v,e=.returned v∧aT d v (-4296) (Kv r c Q)∧Below w.heap.size w d:=by
 have r6:=h.2.2.1
 have c6:=h.2.2.2
 have D:∀i k,eL (-2148) 4200 (sN r c Q i k):=fun i k=>⟨wL r c Q i k (by omega) F,by decide,by decide,by decide⟩
 have pl:∀i k,eL (-4296) 8407 (sN r c Q i k*sN r c Q i k):=fun i k=>(show eL (-4296) 8400 _ from⟨jR (j:=4200) (k:=4200) (V:=8400) (by decide) (D i k).1 (D i k).1,by decide,by decide,by decide⟩).more (by decide) (by decide) (by decide)
 have C:=DR r c Q.length z G (fun k=>bF (Kx r c Q k)) (-2148) (-4296) (2^2148) (fun i k=>Ac r (fun j=>aQ c Q j i) (fun j=>aQ c Q j k)) (fun i k=>sN r c Q i k) (fun i k=>Ad (fun i k=>sN r c Q i k*sN r c Q i k) c i k) w c6
  (fun i=>by show Ac r _ _-(if i=i then 2^2148 else 0)=_;rw[if_pos rfl]) (fun i k H=>by show Ac r _ _-(if i=k then 2^2148 else 0)=_;rw[if_neg H,Int.sub_zero]) rfl (fun i=>(ym _ c i).symm)
  (fun d k L K=>uw r c z k G Q d (h.below L) K)
  (fun d i k N O U X _ _ Y Z=>yw N U O X r _ _ (fun j=>aQ c Q j i) (fun j=>aQ c Q j k) d Y Z (by rw[aH,rJ]) (by rw[aH,rJ]) (by omega) (fun j I=>rK r c Q i I) (fun j I=>rK r c Q k I) (fun j=>dG c Q j i F) (fun j=>dG c Q j k F))
  (fun d B v A=>J0 d B v A)
  (fun d i v u _ A J=>Hu A J (wN r (by omega) _ _ (fun l _=>dG c Q l i F) (fun l _=>dG c Q l i F)) ⟨yr (j:=2148) (V:=4200) (by decide),by decide,by decide,by decide⟩)
  (fun d i k v _ _ A=>Ib A A (D i k) (D i k) (by decide))
  (fun d i k v u hi K A J=>by
   rw[ur]
   exact t9 A J ⟨yq (W:=8400) (V:=8407) (by decide) c c i k (by omega) (by omega) (by omega) (by omega) (fun i k _=>jR (j:=4200) (k:=4200) (V:=8400) (by decide) (D i k).1 (D i k).1),by decide,by decide,by decide⟩ (pl i k))
 rw[yn]at C
 exact C
theorem DT(r n c H I J:Nat)(K L N:Option Addr)(A B C:List Nat)(w:World)(O:Mx w K H r c A)(hB:Mx w L I r n B)(hC:Mx w N J n c C)(fA:∀x∈A,aj x=true)(X:∀x∈B,aj x=true)(Y:∀x∈C,aj x=true):
  Calls Tryz.prog 25 #[.agg #[.int .i64 r,.int .i64 c,.slice K A.length H],.agg #[.int .i64 r,.int .i64 n,.slice L B.length I],.agg #[.int .i64 n,.int .i64 c,.slice N C.length J]] w fun e d=>∃v,e=.returned v∧aT d v (-4296) (GD r n c A B C)∧Below w.heap.size w d:=by
 have r6:=O.2.2.1
 have c6:=O.2.2.2
 have n6:=hC.2.2.1
 have F:∀i k,eL (-2148) 4200 (sM n c A B C i k):=fun i k=>⟨wK n c A B C i k (by omega) fA X Y,by decide,by decide,by decide⟩
 have pl:∀i k,eL (-4296) 8407 (sM n c A B C i k*sM n c A B C i k):=fun i k=>(show eL (-4296) 8400 _ from⟨jR (j:=4200) (k:=4200) (V:=8400) (by decide) (F i k).1 (F i k).1,by decide,by decide,by decide⟩).more (by decide) (by decide) (by decide)
 have D:=GR r n c A.length B.length C.length H I J K L N (fun i k=>aQ c A i k) (fun i=>bF (GG n B i)) (fun k=>bF (Kx n c C k)) (-2148) (-4296) (fun i k=>fZ (aQ c A i k)*2^1074) (fun i k=>Ac n (fun j=>aQ n B i j) (fun j=>aQ c C j k)) (fun i k=>sM n c A B C i k) (fun i k=>Ad (fun i k=>sM n c A B C i k*sM n c A B C i k) c i k) w r6 c6 rfl (fun i=>(ym _ c i).symm)
  (fun d i k h Q U=>yu r c H i k K A d (O.below h) Q U)
  (fun d i k _ _=>(nH (aQ c A i k) d (O.el_lt i k) (dG c A i k fA)).mono (by
   rintro e aa ⟨u,rfl,G,h⟩
   refine⟨u,rfl,?_,h⟩
   have:=G.lower 1074
   rwa[show(-1074:Int)-(1074:Nat)= -2148 by decide]at this))
  (fun d i h Q=>DK r n I i L B d (hB.below h) Q)
  (fun d k h U=>uw n c J k N C d (hC.below h) U)
  (fun d i k xo xd yo yd _ _ hx hy=>yw xo yo xd yd n _ _ (fun j=>aQ n B i j) (fun j=>aQ c C j k) d hx hy (by rw[aH,rI]) (by rw[aH,rJ]) (by omega) (fun j Z=>GT n B i Z) (fun j Z=>rK n c C k Z) (fun j=>dG n B i j X) (fun j=>dG c C j k Y))
  (fun d i k v u _ _ z G=>Hu z G (JX _ (dG c A i k fA)) (wN n (by omega) _ _ (fun l _=>dG n B i l X) (fun l _=>dG c C l k Y)))
  (fun d i k v _ _ z=>Ib z z (F i k) (F i k) (by decide))
  (fun d i k v u Q U z G=>by
   rw[ur]
   exact t9 z G ⟨yq (W:=8400) (V:=8407) (by decide) r c i k (by omega) (by omega) (by omega) (by omega) (fun i k _=>jR (j:=4200) (k:=4200) (V:=8400) (by decide) (F i k).1 (F i k).1),by decide,by decide,by decide⟩ (pl i k))
 rw[yn]at D
 exact D
theorem wP(H I:Bool)(J K:Option Addr)(L N O Q:Nat)(x y k:Int)(Y Z m2 e2 m3 G o:Int)(w:World)(hk:0≤k∧k≤200)
  (C1:∀h,Below w.heap.size w h→Calls Tryz.prog 29 #[.agg #[.bool I,.slice K N Q,.int .i64 y],.int .i64 (-(2*k))] h fun r z=>∃q,r=.returned q∧aC z q Y Z∧Below h.heap.size h z)
  (C2:∀h v,au 0 h v 1→Calls Tryz.prog 27 #[v,.int .i64 (-4000)] h fun r z=>∃q,r=.returned q∧aC z q m2 e2∧Below h.heap.size h z)
  (C3:∀h v u,aC h v Y Z→aC h u m2 e2→Calls Tryz.prog 19 #[v,u] h fun r z=>∃q,r=.returned q∧aC z q m3 G∧Below h.heap.size h z)
  (C4:∀h v,Below w.heap.size w h→aC h v m3 G→Calls Tryz.prog 33 #[.agg #[.bool H,.slice J L O,.int .i64 x],v] h fun r z=>r=.returned (.int .i64 o)∧Below h.heap.size h z):
  Calls Tryz.prog 20 #[.agg #[.bool H,.slice J L O,.int .i64 x],.agg #[.bool I,.slice K N Q,.int .i64 y],.int .i64 k] w fun e h=>e=.returned (.bool (decide (o≤0)))∧Below w.heap.size w h:=by
 have A:=ac (Ag.start w H I J K L N O Q x y)
 have K1:=ac C1;have K2:=ac C2;have K3:=ac C3;have K4:=ac C4;have K5:=ac DQ
 clear C1 C2 C3 C4
 have y0:=(uH A).2.1.c0;have y1:=(uH A).2.1.c1;have y2:=(uH A).2.1.c2
 have hj:IntKind.i64.wrap (-(2*k))= -(2*k):=eg _ (by omega)
 go_enter Tryz.func20,Tryz.ntmps20
 go_wp2_with fail
 refine(uH K1 _ (uH A).2.2).mono ?_
 rintro e w1 ⟨q,rfl,hq,d⟩
 replace A:=ac ((uH A).all d)
 have D:=ac hq
 clear d hq K1 y0 y1 y2
 go_wp2_with fail
 refine(uH K5 _).mono ?_
 rintro e w2 ⟨v,rfl,hv,d⟩
 replace A:=ac ((uH A).all d)
 replace D:=ac ((uH D).below d)
 have HV:=ac (hv.mono (Nat.zero_le _))
 clear d hv K5
 go_wp2_with fail
 refine(uH K2 _ _ (uH HV)).mono ?_
 rintro e w3 ⟨u,rfl,hu,d⟩
 replace A:=ac ((uH A).all d)
 replace D:=ac ((uH D).below d)
 have HU:=ac hu
 clear d hu K2 HV
 go_wp2_with fail
 refine(uH K3 _ _ _ (uH D) (uH HU)).mono ?_
 rintro e w4 ⟨t,rfl,X,d⟩
 obtain⟨n3,a3,c3,L3,rfl,i3⟩:=X.num
 generalize L3.length=l3 at*
 have U:=ad w4 (.cells #[.bool n3,.slice a3 l3 c3,.int .i64 G] 35)
 have F:=d.trans (U.mono d.size)
 replace A:=ac ((uH A).all F)
 have HT:=ac (X.below U)
 have XT:=ac (ak.new w4 (.bool n3) (.slice a3 l3 c3) (.int .i64 G))
 clear d X K3 D HU U F i3
 have x0:=(uH A).1.c0;have x1:=(uH A).1.c1;have x2:=(uH A).1.c2
 go_wp2_with fail
 refine(uH K4 _ _ (uH A).2.2 (uH HT)).mono ?_
 rintro e w5 ⟨rfl,d⟩
 clear x0 x1 x2
 replace A:=ac ((uH A).all d)
 clear d K4
 go_wp2
 go_ret
 exact⟨rfl,(uH A).2.2⟩
theorem qI:(1:Int).natAbs<du:=jq (k:=1) (by decide) (by decide)
theorem lr(r c:Int)(A:Option Addr)(u:Nat)(I:List Int)(w:World)(J:al w A u I)(K:I.length≤35184372088830):
  Calls Tryz.prog 16 #[.agg #[.int .i64 r,.int .i64 c,.slice A I.length u]] w fun e D=>e=.returned (.int .i64 (sO r c I))∧Below w.heap.size w D:=by
 have F:=ac (fun D=>o9 r c A I.length u D)
 have H:=ac (fun D (h:al D A u I)=>rF A u I D h K)
 have z:=ac (ad w (.cells #[.int .i64 r,.int .i64 c,.slice A I.length u] 24))
 have G:=ac (aK.new w (.int .i64 r) (.int .i64 c) (.slice A I.length u))
 have L:=ac J
 unfold sO
 generalize j5 r c I.length=b at*
 generalize ja I I.length=f at*
 generalize I.length=n at*
 clear J
 cases b
 ·clear H
  go_enter Tryz.func16,Tryz.ntmps16
  go_wp2_with fail
  refine(uH F _).mono ?_
  rintro e Q ⟨rfl,d⟩
  have N:=ac ((uH z).trans (d.mono (uH z).size))
  clear d F G
  go_wp2
  go_ret
  exact⟨rfl,uH N⟩
 ·cases f
  all_goals
   go_enter Tryz.func16,Tryz.ntmps16
   go_wp2_with fail
   refine(uH F _).mono ?_
   rintro e Q ⟨rfl,d⟩
   replace z:=ac ((uH z).trans (d.mono (uH z).size));replace G:=ac ((uH G).all d)
   clear d F
   have O:=(uH G).c2
   go_wp2_with fail
   refine(uH H _ ((uH L).below (uH z))).mono ?_
   rintro e U ⟨rfl,d⟩
   replace z:=ac ((uH z).trans (d.mono (uH z).size))
   clear d H O
   go_wp2
   go_ret
   exact⟨rfl,uH z⟩
theorem mX(r c:Int)(A:Option Addr)(u:Nat)(I:List Int)(K:Int)(w:World)(J:al w A u I)(N:I.length≤35184372088830)(L:-5000≤K∧K≤5000):
  Calls Tryz.prog 13 #[.agg #[.int .i64 r,.int .i64 c,.slice A I.length u],.int .i64 K] w fun e D=>e=.returned (.bool (j5 r c I.length&&sL K I I.length))∧Below w.heap.size w D:=by
 have F:=ac (fun D=>o9 r c A I.length u D)
 have H:=ac (fun D (h:al D A u I)=>wG A u I K D h N L)
 have z:=ac (ad w (.cells #[.int .i64 r,.int .i64 c,.slice A I.length u] 24))
 have G:=ac (aK.new w (.int .i64 r) (.int .i64 c) (.slice A I.length u))
 have O:=ac J
 generalize j5 r c I.length=b at*
 generalize sL K I I.length=f at*
 generalize I.length=n at*
 clear J L
 cases b
 ·clear H
  go_enter Tryz.func13,Tryz.ntmps13
  go_wp2_with fail
  refine(uH F _).mono ?_
  rintro e X ⟨rfl,d⟩
  have Q:=ac ((uH z).trans (d.mono (uH z).size))
  clear d F G
  go_wp2
  go_ret
  exact⟨rfl,uH Q⟩
 ·go_enter Tryz.func13,Tryz.ntmps13
  go_wp2_with fail
  refine(uH F _).mono ?_
  rintro e X ⟨rfl,d⟩
  replace z:=ac ((uH z).trans (d.mono (uH z).size));replace G:=ac ((uH G).all d)
  clear d F
  have U:=(uH G).c2
  go_wp2_with fail
  refine(uH H _ ((uH O).below (uH z))).mono ?_
  rintro e Y ⟨rfl,d⟩
  replace z:=ac ((uH z).trans (d.mono (uH z).size))
  clear d H U
  go_wp2
  go_ret
  exact⟨rfl,uH z⟩
theorem rL(r c:Int)(O:Option Addr)(n h:Nat)(lo z:Int)(w:World)
  (C:∀u,Below w.heap.size w u→Calls Tryz.prog 32 #[.slice O n h] u fun e H=>∃v,e=.returned v∧aT H v lo z∧Below u.heap.size u H):
  Calls Tryz.prog 17 #[.agg #[.int .i64 r,.int .i64 c,.slice O n h]] w fun e u=>∃v,e=.returned v∧aT u v lo z∧Below w.heap.size w u:=by
 obtain⟨Z,x1,bb⟩:=yv w r c O n h
 have U:=ac Z;have X:=ac x1;have I:=ac bb;have K:=ac C
 clear Z x1 bb C
 have y2:=(uH U).c2
 go_enter Tryz.func17,Tryz.ntmps17
 go_wp2_with fail
 refine(uH K _ (uH I)).mono ?_
 rintro e w2 ⟨v,rfl,⟨D,F,G,Q,rfl,i5⟩,A⟩
 have Y:aT w2 (.agg #[.bool D,.slice F Q.length G,.int .i64 (oE z lo)]) lo z:=⟨D,F,G,Q,rfl,i5⟩
 generalize Q.length=L at*
 generalize oE z lo=N at*
 have d:=(uH X).all A
 have r0:=d.c0;have r1:=d.c1;have r2:=d.c2;have f0:=d.free 0;have f1:=d.free 1;have f2:=d.free 2
 have J:=d.put (.bool D) (.slice F L G) (.int .i64 N)
 have z0:=J.c0;have z1:=J.c1;have z2:=J.c2
 have HV:=ac (aC.put3 Y d (.bool D) (.slice F L G) (.int .i64 N))
 have HB:=ac (aA ((uH I).trans (A.mono (uH I).size)) (show w.heap.size≤w.heap.size+1 by omega) (.bool D) (.slice F L G) (.int .i64 N))
 clear i5 Y d J A I U X K y2
 go_wp2
 exact bodyPost_ret (v:=.agg #[.bool D,.slice F L G,.int .i64 N]) (by simp[results,Tryz.results17,go_sem,z0,z1,z2]) rfl ⟨_,rfl,uH HV,uH HB⟩
theorem DU(S:List Nat):∀k,um (bF S) k=cR (fun p=>fZ (S.getD p 0)*fZ (S.getD p 0)) k
 |0=>rfl
 |k+1=>by
  show um (bF S) k+fZ (bH (bF S) k)*fZ (bH (bF S) k)=cR _ k+_
  rw[DU S k,ev]
theorem lw{I:List Int}:∀n,ja I n=true↔∀k,k<n→aj (bH I k)=true
 |0=>⟨fun _ k d=>by omega,fun _=>rfl⟩
 |n+1=>by
  show(ja I n&&aj (bH I n))=true↔_
  rw[Bool.and_eq_true,lw n]
  constructor
  ·rintro⟨u,z⟩ k d
   by_cases e:k=n
   ·subst e;exact z
   ·exact u k (by omega)
  ·exact fun h=>⟨fun k d=>h k (by omega),h n (by omega)⟩
theorem GU{S:List Nat}(h:ja (bF S) S.length=true):∀x∈S,aj x=true:=fun x u=>by
 obtain⟨i,d,rfl⟩:=List.getElem_of_mem u
 have:=(lw _).1 h i d
 rw[ev]at this
 rwa[List.getD_eq_getElem?_getD,List.getElem?_eq_getElem d]at this
theorem GV{S:List Nat}(h:∀x∈S,aj x=true):ja (bF S) S.length=true:=(lw _).2 fun k d=>by
 rw[ev,List.getD_eq_getElem?_getD,List.getElem?_eq_getElem d]
 exact h _ (List.getElem_mem d)
theorem p7(r c d:Nat)(u:Option Addr)(S:List Nat)(w:World)(h:Mx w u d r c S)(A:∀x∈S,aj x=true):
  Calls Tryz.prog 17 #[.agg #[.int .i64 r,.int .i64 c,.slice u S.length d]] w fun e z=>∃v,e=.returned v∧aT z v (-2148) (Ab S)∧Below w.heap.size w z:=by
 refine rL r c u S.length d (-2148) (Ab S) w (fun z D=>?_)
 have:=pY u d (bF S) z (h.1.below D) (by rw[aH];have:=h.small;omega) (by rw[aH];exact GV A)
 rw[aH,DU]at this
 exact this
theorem DV{r c:Int}{I:List Int}(h:sO r c I=0):j5 r c I.length=true∧ja I I.length=true:=by
 unfold sO at h
 by_cases d:j5 r c I.length=true
 ·rw[if_pos d]at h
  refine⟨d,?_⟩
  by_cases u:ja I I.length=true
  ·exact u
  ·rw[if_neg u]at h;omega
 ·rw[if_neg d]at h;omega
theorem Mx.asked{w:World}{u:Option Addr}{d:Nat}{I:List Int}{r c:Int}(h:al w u d I)(A:sO r c I=0):∃p q:Nat,r=(p:Int)∧c=(q:Int)∧Mx w u d p q (dh I)∧bF (dh I)=I∧(∀x∈dh I,aj x=true):=by
 obtain⟨D,F⟩:=DV A
 obtain⟨p,q,G,H,J,z⟩:=Mx.of h D
 refine⟨p,q,G,H,J,z,GU ?_⟩
 rw[z,gO]
 exact F
end Go.Proofs.YtcbcmlaogehimaaGreatDoor
namespace Go.Proofs.YtcbcmlaogehimaaGreatDoor
open Go.RowKit
theorem pb(d:List Nat):gl d=true↔∀k,k<d.length→aj (d.getD k 0)=true:=by
 unfold gl
 rw[lw]
 exact⟨fun h k u=>by have:=h k u;rwa[ev]at this,fun h k u=>by rw[ev];exact h k u⟩
def kD(a b:Nat):Bool:=decide (cO a b<0)
end Go.Proofs.YtcbcmlaogehimaaGreatDoor
namespace Go.Proofs.YtcbcmlaogehimaaGreatDoor
def LG(r c:Nat)(S:List Nat)(j k:Nat):Nat:=dj (GM c S j (r-j) k)
def LH(r c:Nat)(S:List Nat)(j:Nat):Nat→Nat
 |0=>j
 |t+1=>if cO (LG r c S j (LH r c S j t)) (LG r c S j (j+t))<0 then j+t else LH r c S j t
def Md(r c:Nat)(S:List Nat)(j:Nat):Nat→Bool
 |0=>true
 |t+1=>Md r c S j t&&aj (LG r c S j (j+t))
theorem DW(r c:Nat)(S:List Nat)(j:Nat):∀t,j≤LH r c S j t
 |0=>Nat.le_refl _
 |t+1=>by
  show j≤if _ then _ else _
  split
  ·exact Nat.le_add_right _ _
  ·exact DW r c S j t
theorem DX(r c:Nat)(S:List Nat)(j:Nat):∀t,0<t→LH r c S j t<j+t
 |0,h=>absurd h (Nat.lt_irrefl 0)
 |t+1,_=>by
  show(if _ then _ else _)<_
  split
  ·exact Nat.lt_succ_self (j+t)
  ·rcases Nat.eq_zero_or_pos t with rfl|h
   ·exact Nat.lt_succ_self j
   ·exact Nat.lt_succ_of_lt (DX r c S j t h)
def Ky(r c:Nat)(S:List Nat)(j:Nat):Nat:=LH r c S j (c-j)
def Mp(r c:Nat)(S:List Nat)(j:Nat):Bool:=Md r c S j (c-j)
theorem J5(r c:Nat)(S:List Nat)(j:Nat):j≤Ky r c S j:=DW _ _ _ _ _
theorem DY(r c:Nat)(S:List Nat){j:Nat}(h:j<c):Ky r c S j<c:=by
 have:=DX r c S j (c-j) (by omega)
 unfold Ky
 omega
def J6(l:List Nat)(i k:Nat):List Nat:=(l.set i (l.getD k 0)).set k (l.getD i 0)
theorem GW(l:List Nat)(i k:Nat):(J6 l i k).length=l.length:=by unfold J6;rw[List.length_set,List.length_set]
theorem uz(l:List Nat)(i x k:Nat)(d:i<l.length):(l.set i x).getD k 0=if k=i then x else l.getD k 0:=by
 simp only[List.getD_eq_getElem?_getD,List.getElem?_set]
 by_cases h:i=k
 ·subst h;simp[d]
 ·rw[if_neg h,if_neg (fun e=>h e.symm)]
theorem J7(l:List Nat){i k:Nat}(d:i<l.length)(h:k<l.length)(q:Nat):(J6 l i k).getD q 0=if q=k then l.getD i 0 else if q=i then l.getD k 0 else l.getD q 0:=by
 unfold J6
 rw[uz _ _ _ _ (by rw[List.length_set];exact h),uz _ _ _ _ d]
def uA(r c:Nat)(S:List Nat)(L:List Nat):List Nat:=mz r L.length (fun i k=>aQ c S i (L.getD k 0))
theorem jd(r c:Nat)(S L:List Nat):(uA r c S L).length=r*L.length:=fk _ _ _
theorem DZ(r c:Nat)(S L:List Nat){p q:Nat}(d:p<r)(h:q<L.length):aQ L.length (uA r c S L) p q=aQ c S p (L.getD q 0):=lm r L.length _ d h
theorem pf{n q:Nat}(h:q<n):(List.range n).getD q 0=q:=by
 rw[List.getD_eq_getElem?_getD,List.getElem?_range h];rfl
def Mk(r c:Nat)(S:List Nat)(j a:Nat):List Nat:=uA r c S (J6 (List.range c) j a)
theorem lD(c j a:Nat):(J6 (List.range c) j a).length=c:=by rw[GW,List.length_range]
def Mo(j a q:Nat):Nat:=if q=a then j else if q=j then a else q
theorem LK(r c:Nat)(S:List Nat){j a p q:Nat}(d:j<c)(h:a<c)(z:p<r)(u:q<c):aQ c (Mk r c S j a) p q=aQ c S p (Mo j a q):=by
 have e:=DZ r c S (J6 (List.range c) j a) z (q:=q) (by rw[lD];exact u)
 rw[lD]at e
 unfold Mk
 rw[e,J7 _ (by rw[List.length_range];exact d) (by rw[List.length_range];exact h),pf d,pf h,pf u]
 rfl
def Ml(r c:Nat)(S:List Nat)(j:Nat):List Nat:=Mk r c S j (Ky r c S j)
open Go.RowKit
attribute [local go_sem ↓] Go.wp_at_zero Go.wp_at_succ
theorem GX(L:List Nat){k:Nat}(d:k<L.length):(bF L)[k]?.getD 0=((L.getD k 0:Nat):Int):=by
 unfold bF
 rw[List.getElem?_map,List.getElem?_eq_getElem d,List.getD_eq_getElem?_getD,List.getElem?_eq_getElem d]
 rfl
end Go.Proofs.YtcbcmlaogehimaaGreatDoor
