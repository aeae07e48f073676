/- Part 29 of the texts. -/
import Derived.Test.YtcbcmlaogehimaaGreatDoorPartp28
set_option maxHeartbeats 8000000
set_option maxRecDepth 20000
namespace Go.Proofs.YtcbcmlaogehimaaGreatDoor
open Go.RowKit
attribute [local go_sem ↓] Go.wp_at_zero Go.wp_at_succ
theorem Ie(c:Nat)(S:List Nat)(i:Nat){j:Nat}(h:j<c):bL (bH (Hv c S i)) j=aP c S i j:=by rw[ev];exact KW c S i j h
theorem oo(r c:Nat)(S:List Nat)(k:Nat):(yT r c S k).length=r:=gG _ _
theorem oq(r c:Nat)(S:List Nat)(k:Nat){j:Nat}(h:j<r):bL (bH (yT r c S k)) j=aP c S j k:=by
 rw[ev]
 simp[yT,lN,List.getD_eq_getElem?_getD,h]
theorem Ew(F G:Option Addr)(c d n:Nat)(I J:List Int)(w:World)(H:ak w F c I)(K:ak w G d J)(U:I.length=n)(L:J.length=n)(X:n≤8)(A:∀k,k<n→ai (bL I k)=true)(D:∀k,k<n→ai (bL J k)=true):
  Calls Tryz.prog 31 #[.slice F n c,.slice G n d] w fun e z=>∃v,e=.returned v∧aY z v (-2148) (cY (fun j=>fZ (bL I j)*fZ (bL J j)) n)∧Below w.heap.size w z:=
 Ib F G c d n I J (-1074) (-2148) (fun k=>fZ (bL I k)) (fun k=>fZ (bL J k)) (fun k=>cY (fun j=>fZ (bL I j)*fZ (bL J j)) k) w H K U L X rfl
  (fun z k h=>oc _ z (H.lt k) (A k h)) (fun z k h=>oc _ z (K.lt k) (D k h)) (fun z k v u h O Q=>Jb (H.lt k) (K.lt k) (A k h) (D k h) O Q)
  (fun z k v u h O Q=>yK O Q (Er k (by omega) _ _ (fun j L=>A j (by omega)) (fun j L=>D j (by omega))) (Ld _ _ (A k h) (D k h)))
theorem yU(u z:Option Addr)(c d n:Nat)(I J:List Int)(x y:Nat→Nat)(w:World)(G:ak w u c I)(H:ak w z d J)(K:I.length=n)(L:J.length=n)(O:n≤8)(A:∀k,k<n→bL I k=x k)(D:∀k,k<n→bL J k=y k)(Q:∀k,ai (x k)=true)(U:∀k,ai (y k)=true):
  Calls Tryz.prog 31 #[.slice u n c,.slice z n d] w fun e F=>∃v,e=.returned v∧aY F v (-2148) (nI n x y)∧Below w.heap.size w F:=by
 have C:=Ew u z c d n I J w G H K L O (fun k h=>by rw[A k h];exact Q k) (fun k h=>by rw[D k h];exact U k)
 have e:cY (fun j=>fZ (bL I j)*fZ (bL J j)) n=nI n x y:=gc n (fun k h=>by show fZ (bL I k)*fZ (bL J k)=_;rw[A k h,D k h])
 rwa[e]at C
theorem Ex(r n c H I J:Nat)(K L O:Option Addr)(A B C:List Nat)(w:World)(Q:Mx w K H r c A)(hB:Mx w L I r n B)(hC:Mx w O J n c C)(fA:∀x∈A,ai x=true)(Y:∀x∈B,ai x=true)(Z:∀x∈C,ai x=true):
  Calls Tryz.prog 25 #[.agg #[.int .i64 r,.int .i64 c,.slice K A.length H],.agg #[.int .i64 r,.int .i64 n,.slice L B.length I],.agg #[.int .i64 n,.int .i64 c,.slice O C.length J]] w fun e d=>∃v,e=.returned v∧aY d v (-4296) (Ho r n c A B C)∧Below w.heap.size w d:=by
 have r6:=Q.2.2.1
 have c6:=Q.2.2.2
 have n6:=hC.2.2.1
 have F:∀i k,fv (-2148) 4200 (tr n c A B C i k):=fun i k=>⟨xw n c A B C i k (by omega) fA Y Z,by decide,by decide,by decide⟩
 have pl:∀i k,fv (-4296) 8407 (tr n c A B C i k*tr n c A B C i k):=fun i k=>(show fv (-4296) 8400 _ from⟨oh (j:=4200) (k:=4200) (V:=8400) (by decide) (F i k).1 (F i k).1,by decide,by decide,by decide⟩).more (by decide) (by decide) (by decide)
 have D:=Ic r n c A.length B.length C.length H I J K L O (fun i k=>aP c A i k) (fun i=>bH (Hv n B i)) (fun k=>bH (yT n c C k)) (-2148) (-4296) (fun i k=>fZ (aP c A i k)*2^1074) (fun i k=>nI n (fun j=>aP n B i j) (fun j=>aP c C j k)) (fun i k=>tr n c A B C i k) (fun i k=>Bs (fun i k=>tr n c A B C i k*tr n c A B C i k) c i k) w r6 c6 rfl (fun i=>(Hp _ c i).symm)
  (fun d i k h U X=>yS r c H i k K A d (Q.below h) U X)
  (fun d i k _ _=>(oc (aP c A i k) d (Q.el_lt i k) (dZ c A i k fA)).mono (by
   rintro e aa ⟨u,rfl,G,h⟩
   refine⟨u,rfl,?_,h⟩
   have:=G.lower 1074
   rwa[show(-1074:Int)-(1074:Nat)= -2148 by decide]at this))
  (fun d i h U=>Eo r n I i L B d (hB.below h) U)
  (fun d k h X=>uV n c J k O C d (hC.below h) X)
  (fun d i k xo xd yo yd _ _ hx hy=>yU xo yo xd yd n _ _ (fun j=>aP n B i j) (fun j=>aP c C j k) d hx hy (by rw[aG,sr]) (by rw[aG,oo]) (by omega) (fun j hj=>Ie n B i hj) (fun j hj=>oq n c C k hj) (fun j=>dZ n B i j Y) (fun j=>dZ c C j k Z))
  (fun d i k v u _ _ z G=>LR z G (Lc _ (dZ c A i k fA)) (Er n (by omega) _ _ (fun l _=>dZ n B i l Y) (fun l _=>dZ c C l k Z)))
  (fun d i k v _ _ z=>D9 z z (F i k) (F i k) (by decide))
  (fun d i k v u U X z G=>by
   rw[Ee]
   exact yK z G ⟨Hs (W:=8400) (V:=8407) (by decide) r c i k (by omega) (by omega) (by omega) (by omega) (fun i k _=>oh (j:=4200) (k:=4200) (V:=8400) (by decide) (F i k).1 (F i k).1),by decide,by decide,by decide⟩ (pl i k))
 rw[Hq]at D
 exact D
theorem xA(H I:Bool)(J K:Option Addr)(L O Q U:Nat)(x y k:Int)(Z e1 m2 e2 m3 G o:Int)(w:World)(hk:0≤k∧k≤200)
  (C1:∀h,Below w.heap.size w h→Calls Tryz.prog 29 #[.agg #[.bool I,.slice K O U,.int .i64 y],.int .i64 (-(2*k))] h fun r z=>∃q,r=.returned q∧aC z q Z e1∧Below h.heap.size h z)
  (C2:∀h v,au 0 h v 1→Calls Tryz.prog 27 #[v,.int .i64 (-4000)] h fun r z=>∃q,r=.returned q∧aC z q m2 e2∧Below h.heap.size h z)
  (C3:∀h v u,aC h v Z e1→aC h u m2 e2→Calls Tryz.prog 19 #[v,u] h fun r z=>∃q,r=.returned q∧aC z q m3 G∧Below h.heap.size h z)
  (C4:∀h v,Below w.heap.size w h→aC h v m3 G→Calls Tryz.prog 33 #[.agg #[.bool H,.slice J L Q,.int .i64 x],v] h fun r z=>r=.returned (.int .i64 o)∧Below h.heap.size h z):
  Calls Tryz.prog 20 #[.agg #[.bool H,.slice J L Q,.int .i64 x],.agg #[.bool I,.slice K O U,.int .i64 y],.int .i64 k] w fun e h=>e=.returned (.bool (decide (o≤0)))∧Below w.heap.size w h:=by
 have A:=ac (AO.start w H I J K L O Q U x y)
 have K1:=ac C1;have K2:=ac C2;have K3:=ac C3;have K4:=ac C4;have K5:=ac MC
 clear C1 C2 C3 C4
 have y0:=(uH A).2.1.c0;have y1:=(uH A).2.1.c1;have y2:=(uH A).2.1.c2
 have hj:IntKind.i64.wrap (-(2*k))= -(2*k):=ef _ (by omega)
 go_enter Tryz.func20,Tryz.ntmps20
 go_wp2_with fail
 refine(uH K1 _ (uH A).2.2).mono ?_
 rintro e w1 ⟨q,rfl,hq,d⟩
 replace A:=ac ((uH A).all d)
 have D:=ac hq
 clear d hq K1 y0 y1 y2
 go_wp2_with fail
 refine(uH K5 _).mono ?_
 rintro e w2 ⟨v,rfl,hv,d⟩
 replace A:=ac ((uH A).all d)
 replace D:=ac ((uH D).below d)
 have HV:=ac (hv.mono (Nat.zero_le _))
 clear d hv K5
 go_wp2_with fail
 refine(uH K2 _ _ (uH HV)).mono ?_
 rintro e w3 ⟨u,rfl,hu,d⟩
 replace A:=ac ((uH A).all d)
 replace D:=ac ((uH D).below d)
 have HU:=ac hu
 clear d hu K2 HV
 go_wp2_with fail
 refine(uH K3 _ _ _ (uH D) (uH HU)).mono ?_
 rintro e w4 ⟨t,rfl,Y,d⟩
 obtain⟨n3,a3,c3,L3,rfl,i3⟩:=Y.num
 generalize L3.length=l3 at*
 have X:=ad w4 (.cells #[.bool n3,.slice a3 l3 c3,.int .i64 G] 35)
 have F:=d.trans (X.mono d.size)
 replace A:=ac ((uH A).all F)
 have HT:=ac (Y.below X)
 have XT:=ac (al.new w4 (.bool n3) (.slice a3 l3 c3) (.int .i64 G))
 clear d Y K3 D HU X F i3
 have x0:=(uH A).1.c0;have x1:=(uH A).1.c1;have x2:=(uH A).1.c2
 go_wp2_with fail
 refine(uH K4 _ _ (uH A).2.2 (uH HT)).mono ?_
 rintro e w5 ⟨rfl,d⟩
 clear x0 x1 x2
 replace A:=ac ((uH A).all d)
 clear d K4
 go_wp2
 go_ret
 exact⟨rfl,(uH A).2.2⟩
theorem AP:(1:Int).natAbs<du:=kz (k:=1) (by decide) (by decide)
theorem lX(r c:Int)(A:Option Addr)(u:Nat)(I:List Int)(w:World)(J:ak w A u I)(K:I.length≤35184372088830):
  Calls Tryz.prog 16 #[.agg #[.int .i64 r,.int .i64 c,.slice A I.length u]] w fun e D=>e=.returned (.int .i64 (tu r c I))∧Below w.heap.size w D:=by
 have F:=ac (fun D=>pC r c A I.length u D)
 have H:=ac (fun D (h:ak D A u I)=>se A u I D h K)
 have z:=ac (ad w (.cells #[.int .i64 r,.int .i64 c,.slice A I.length u] 24))
 have G:=ac (aM.new w (.int .i64 r) (.int .i64 c) (.slice A I.length u))
 have L:=ac J
 unfold tu
 generalize kl r c I.length=b at*
 generalize jd I I.length=f at*
 generalize I.length=n at*
 clear J
 cases b
 ·clear H
  go_enter Tryz.func16,Tryz.ntmps16
  go_wp2_with fail
  refine(uH F _).mono ?_
  rintro e U ⟨rfl,d⟩
  have O:=ac ((uH z).trans (d.mono (uH z).size))
  clear d F G
  go_wp2
  go_ret
  exact⟨rfl,uH O⟩
 ·cases f
  all_goals
   go_enter Tryz.func16,Tryz.ntmps16
   go_wp2_with fail
   refine(uH F _).mono ?_
   rintro e U ⟨rfl,d⟩
   replace z:=ac ((uH z).trans (d.mono (uH z).size));replace G:=ac ((uH G).all d)
   clear d F
   have Q:=(uH G).c2
   go_wp2_with fail
   refine(uH H _ ((uH L).below (uH z))).mono ?_
   rintro e X ⟨rfl,d⟩
   replace z:=ac ((uH z).trans (d.mono (uH z).size))
   clear d H Q
   go_wp2
   go_ret
   exact⟨rfl,uH z⟩
theorem nz(r c:Int)(A:Option Addr)(u:Nat)(I:List Int)(K:Int)(w:World)(J:ak w A u I)(O:I.length≤35184372088830)(L:-5000≤K∧K≤5000):
  Calls Tryz.prog 13 #[.agg #[.int .i64 r,.int .i64 c,.slice A I.length u],.int .i64 K] w fun e D=>e=.returned (.bool (kl r c I.length&&tn K I I.length))∧Below w.heap.size w D:=by
 have F:=ac (fun D=>pC r c A I.length u D)
 have H:=ac (fun D (h:ak D A u I)=>xn A u I K D h O L)
 have z:=ac (ad w (.cells #[.int .i64 r,.int .i64 c,.slice A I.length u] 24))
 have G:=ac (aM.new w (.int .i64 r) (.int .i64 c) (.slice A I.length u))
 have Q:=ac J
 generalize kl r c I.length=b at*
 generalize tn K I I.length=f at*
 generalize I.length=n at*
 clear J L
 cases b
 ·clear H
  go_enter Tryz.func13,Tryz.ntmps13
  go_wp2_with fail
  refine(uH F _).mono ?_
  rintro e Y ⟨rfl,d⟩
  have U:=ac ((uH z).trans (d.mono (uH z).size))
  clear d F G
  go_wp2
  go_ret
  exact⟨rfl,uH U⟩
 ·go_enter Tryz.func13,Tryz.ntmps13
  go_wp2_with fail
  refine(uH F _).mono ?_
  rintro e Y ⟨rfl,d⟩
  replace z:=ac ((uH z).trans (d.mono (uH z).size));replace G:=ac ((uH G).all d)
  clear d F
  have X:=(uH G).c2
  go_wp2_with fail
  refine(uH H _ ((uH Q).below (uH z))).mono ?_
  rintro e Z ⟨rfl,d⟩
  replace z:=ac ((uH z).trans (d.mono (uH z).size))
  clear d H X
  go_wp2
  go_ret
  exact⟨rfl,uH z⟩
theorem su(r c:Int)(Q:Option Addr)(n h:Nat)(lo z:Int)(w:World)
  (C:∀u,Below w.heap.size w u→Calls Tryz.prog 32 #[.slice Q n h] u fun e H=>∃v,e=.returned v∧aY H v lo z∧Below u.heap.size u H):
  Calls Tryz.prog 17 #[.agg #[.int .i64 r,.int .i64 c,.slice Q n h]] w fun e u=>∃v,e=.returned v∧aY u v lo z∧Below w.heap.size w u:=by
 obtain⟨x0,x1,bb⟩:=H7 w r c Q n h
 have X:=ac x0;have Y:=ac x1;have I:=ac bb;have K:=ac C
 clear x0 x1 bb C
 have y2:=(uH X).c2
 go_enter Tryz.func17,Tryz.ntmps17
 go_wp2_with fail
 refine(uH K _ (uH I)).mono ?_
 rintro e w2 ⟨v,rfl,⟨D,F,G,U,rfl,i5⟩,A⟩
 have Z:aY w2 (.agg #[.bool D,.slice F U.length G,.int .i64 (oE z lo)]) lo z:=⟨D,F,G,U,rfl,i5⟩
 generalize U.length=L at*
 generalize oE z lo=O at*
 have d:=(uH Y).all A
 have r0:=d.c0;have r1:=d.c1;have r2:=d.c2;have f0:=d.free 0;have f1:=d.free 1;have f2:=d.free 2
 have J:=d.put (.bool D) (.slice F L G) (.int .i64 O)
 have z0:=J.c0;have z1:=J.c1;have z2:=J.c2
 have HV:=ac (aC.put3 Z d (.bool D) (.slice F L G) (.int .i64 O))
 have HB:=ac (aD ((uH I).trans (A.mono (uH I).size)) (show w.heap.size≤w.heap.size+1 by omega) (.bool D) (.slice F L G) (.int .i64 O))
 clear i5 Z d J A I X Y K y2
 go_wp2
 exact bodyPost_ret (v:=.agg #[.bool D,.slice F L G,.int .i64 O]) (by simp[results,Tryz.results17,go_sem,z0,z1,z2]) rfl ⟨_,rfl,uH HV,uH HB⟩
theorem xB(S:List Nat):∀k,uP (bH S) k=cY (fun p=>fZ (S.getD p 0)*fZ (S.getD p 0)) k
 |0=>rfl
 |k+1=>by
  show uP (bH S) k+fZ (bL (bH S) k)*fZ (bL (bH S) k)=cY _ k+_
  rw[xB S k,ev]
theorem j5{I:List Int}:∀n,jd I n=true↔∀k,k<n→ai (bL I k)=true
 |0=>⟨fun _ k d=>by omega,fun _=>rfl⟩
 |n+1=>by
  show(jd I n&&ai (bL I n))=true↔_
  rw[Bool.and_eq_true,j5 n]
  constructor
  ·rintro⟨u,z⟩ k d
   by_cases e:k=n
   ·subst e;exact z
   ·exact u k (by omega)
  ·exact fun h=>⟨fun k d=>h k (by omega),h n (by omega)⟩
theorem Ig{S:List Nat}(h:jd (bH S) S.length=true):∀x∈S,ai x=true:=fun x u=>by
 obtain⟨i,d,rfl⟩:=List.getElem_of_mem u
 have:=(j5 _).1 h i d
 rw[ev]at this
 rwa[List.getD_eq_getElem?_getD,List.getElem?_eq_getElem d]at this
theorem Ih{S:List Nat}(h:∀x∈S,ai x=true):jd (bH S) S.length=true:=(j5 _).2 fun k d=>by
 rw[ev,List.getD_eq_getElem?_getD,List.getElem?_eq_getElem d]
 exact h _ (List.getElem_mem d)
theorem km(r c d:Nat)(u:Option Addr)(S:List Nat)(w:World)(h:Mx w u d r c S)(A:∀x∈S,ai x=true):
  Calls Tryz.prog 17 #[.agg #[.int .i64 r,.int .i64 c,.slice u S.length d]] w fun e z=>∃v,e=.returned v∧aY z v (-2148) (tq S)∧Below w.heap.size w z:=by
 refine su r c u S.length d (-2148) (tq S) w (fun z D=>?_)
 have:=kj u d (bH S) z (h.1.below D) (by rw[aG];have:=h.small;omega) (by rw[aG];exact Ih A)
 rw[aG,xB]at this
 exact this
theorem Ey{r c:Int}{I:List Int}(h:tu r c I=0):kl r c I.length=true∧jd I I.length=true:=by
 unfold tu at h
 by_cases d:kl r c I.length=true
 ·rw[if_pos d]at h
  refine⟨d,?_⟩
  by_cases u:jd I I.length=true
  ·exact u
  ·rw[if_neg u]at h;omega
 ·rw[if_neg d]at h;omega
theorem Mx.asked{w:World}{u:Option Addr}{d:Nat}{I:List Int}{r c:Int}(h:ak w u d I)(A:tu r c I=0):∃p q:Nat,r=(p:Int)∧c=(q:Int)∧Mx w u d p q (di I)∧bH (di I)=I∧(∀x∈di I,ai x=true):=by
 obtain⟨D,F⟩:=Ey A
 obtain⟨p,q,G,H,J,z⟩:=Mx.of h D
 refine⟨p,q,G,H,J,z,Ig ?_⟩
 rw[z,gU]
 exact F
end Go.Proofs.YtcbcmlaogehimaaGreatDoor
namespace Go.Proofs.YtcbcmlaogehimaaGreatDoor
open Go.RowKit
theorem pE(d:List Nat):gC d=true↔∀k,k<d.length→ai (d.getD k 0)=true:=by
 unfold gC
 rw[j5]
 exact⟨fun h k u=>by have:=h k u;rwa[ev]at this,fun h k u=>by rw[ev];exact h k u⟩
def jo(a b:Nat):Bool:=decide (cO a b<0)
end Go.Proofs.YtcbcmlaogehimaaGreatDoor
namespace Go.Proofs.YtcbcmlaogehimaaGreatDoor
def MD(r c:Nat)(S:List Nat)(j k:Nat):Nat:=cX (H8 c S j (r-j) k)
def ME(r c:Nat)(S:List Nat)(j:Nat):Nat→Nat
 |0=>j
 |t+1=>if cO (MD r c S j (ME r c S j t)) (MD r c S j (j+t))<0 then j+t else ME r c S j t
def MU(r c:Nat)(S:List Nat)(j:Nat):Nat→Bool
 |0=>true
 |t+1=>MU r c S j t&&ai (MD r c S j (j+t))
theorem Ez(r c:Nat)(S:List Nat)(j:Nat):∀t,j≤ME r c S j t
 |0=>Nat.le_refl _
 |t+1=>by
  show j≤if _ then _ else _
  split
  ·exact Nat.le_add_right _ _
  ·exact Ez r c S j t
theorem EA(r c:Nat)(S:List Nat)(j:Nat):∀t,0<t→ME r c S j t<j+t
 |0,h=>absurd h (Nat.lt_irrefl 0)
 |t+1,_=>by
  show(if _ then _ else _)<_
  split
  ·exact Nat.lt_succ_self (j+t)
  ·rcases Nat.eq_zero_or_pos t with rfl|h
   ·exact Nat.lt_succ_self j
   ·exact Nat.lt_succ_of_lt (EA r c S j t h)
def LH(r c:Nat)(S:List Nat)(j:Nat):Nat:=ME r c S j (c-j)
def Nb(r c:Nat)(S:List Nat)(j:Nat):Bool:=MU r c S j (c-j)
theorem Lf(r c:Nat)(S:List Nat)(j:Nat):j≤LH r c S j:=Ez _ _ _ _ _
theorem EB(r c:Nat)(S:List Nat){j:Nat}(h:j<c):LH r c S j<c:=by
 have:=EA r c S j (c-j) (by omega)
 unfold LH
 omega
def Lg(l:List Nat)(i k:Nat):List Nat:=(l.set i (l.getD k 0)).set k (l.getD i 0)
theorem Ii(l:List Nat)(i k:Nat):(Lg l i k).length=l.length:=by unfold Lg;rw[List.length_set,List.length_set]
theorem uY(l:List Nat)(i x k:Nat)(d:i<l.length):(l.set i x).getD k 0=if k=i then x else l.getD k 0:=by
 simp only[List.getD_eq_getElem?_getD,List.getElem?_set]
 by_cases h:i=k
 ·subst h;simp[d]
 ·rw[if_neg h,if_neg (fun e=>h e.symm)]
theorem Lh(l:List Nat){i k:Nat}(d:i<l.length)(h:k<l.length)(q:Nat):(Lg l i k).getD q 0=if q=k then l.getD i 0 else if q=i then l.getD k 0 else l.getD q 0:=by
 unfold Lg
 rw[uY _ _ _ _ (by rw[List.length_set];exact h),uY _ _ _ _ d]
def uZ(r c:Nat)(S:List Nat)(L:List Nat):List Nat:=mQ r L.length (fun i k=>aP c S i (L.getD k 0))
theorem jf(r c:Nat)(S L:List Nat):(uZ r c S L).length=r*L.length:=fr _ _ _
theorem EF(r c:Nat)(S L:List Nat){p q:Nat}(d:p<r)(h:q<L.length):aP L.length (uZ r c S L) p q=aP c S p (L.getD q 0):=lP r L.length _ d h
theorem pF{n q:Nat}(h:q<n):(List.range n).getD q 0=q:=by
 rw[List.getD_eq_getElem?_getD,List.getElem?_range h];rfl
def M5(r c:Nat)(S:List Nat)(j a:Nat):List Nat:=uZ r c S (Lg (List.range c) j a)
theorem lY(c j a:Nat):(Lg (List.range c) j a).length=c:=by rw[Ii,List.length_range]
def Na(j a q:Nat):Nat:=if q=a then j else if q=j then a else q
theorem MF(r c:Nat)(S:List Nat){j a p q:Nat}(d:j<c)(h:a<c)(z:p<r)(u:q<c):aP c (M5 r c S j a) p q=aP c S p (Na j a q):=by
 have e:=EF r c S (Lg (List.range c) j a) z (q:=q) (by rw[lY];exact u)
 rw[lY]at e
 unfold M5
 rw[e,Lh _ (by rw[List.length_range];exact d) (by rw[List.length_range];exact h),pF d,pF h,pF u]
 rfl
def M6(r c:Nat)(S:List Nat)(j:Nat):List Nat:=M5 r c S j (LH r c S j)
open Go.RowKit
attribute [local go_sem ↓] Go.wp_at_zero Go.wp_at_succ
theorem Ij(L:List Nat){k:Nat}(d:k<L.length):(bH L)[k]?.getD 0=((L.getD k 0:Nat):Int):=by
 unfold bH
 rw[List.getElem?_map,List.getElem?_eq_getElem d,List.getD_eq_getElem?_getD,List.getElem?_eq_getElem d]
 rfl
end Go.Proofs.YtcbcmlaogehimaaGreatDoor
