/- Part 29 of the texts. -/
import Derived.Test.YtcbcmlaogehimaaGreatDoorPartr28
set_option maxHeartbeats 8000000
set_option maxRecDepth 20000
namespace Go.Proofs.YtcbcmlaogehimaaGreatDoor
open Go.RowKit
attribute [local go_sem ↓] Go.wp_at_zero Go.wp_at_succ
theorem Gw(c:Nat)(S:List Nat)(i:Nat){j:Nat}(h:j<c):bG (bH (Gj c S i)) j=aS c S i j:=by rw[eg];exact Jy c S i j h
theorem Gx(r c:Nat)(S:List Nat)(k:Nat):(Lj r c S k).length=r:=gu _ _
theorem Gy(r c:Nat)(S:List Nat)(k:Nat){j:Nat}(h:j<r):bG (bH (Lj r c S k)) j=aS c S j k:=by
 rw[eg]
 simp[Lj,lD,List.getD_eq_getElem?_getD,h]
theorem Dn(F G:Option Addr)(c d n:Nat)(I J:List Int)(w:World)(H:ap w F c I)(K:ap w G d J)(Q:I.length=n)(L:J.length=n)(U:n≤8)(A:∀k,k<n→aj (bG I k)=true)(D:∀k,k<n→aj (bG J k)=true):
  Calls Tryz.prog 31 #[.slice F n c,.slice G n d] w fun e z=>∃v,e=.returned v∧bc z v (-2148) (cU (fun j=>fZ (bG I j)*fZ (bG J j)) n)∧Below w.heap.size w z:=
 Gu F G c d n I J (-1074) (-2148) (fun k=>fZ (bG I k)) (fun k=>fZ (bG J k)) (fun k=>cU (fun j=>fZ (bG I j)*fZ (bG J j)) k) w H K Q L U rfl
  (fun z k h=>ns _ z (H.lt k) (A k h)) (fun z k h=>ns _ z (K.lt k) (D k h)) (fun z k v u h N O=>Hj (H.lt k) (K.lt k) (A k h) (D k h) N O)
  (fun z k v u h N O=>xB N O (Dh k (by omega) _ _ (fun j L=>A j (by omega)) (fun j L=>D j (by omega))) (JE _ _ (A k h) (D k h)))
theorem Gz(u z:Option Addr)(c d n:Nat)(I J:List Int)(x y:Nat→Nat)(w:World)(G:ap w u c I)(H:ap w z d J)(K:I.length=n)(L:J.length=n)(N:n≤8)(A:∀k,k<n→bG I k=x k)(D:∀k,k<n→bG J k=y k)(O:∀k,aj (x k)=true)(Q:∀k,aj (y k)=true):
  Calls Tryz.prog 31 #[.slice u n c,.slice z n d] w fun e F=>∃v,e=.returned v∧bc F v (-2148) (Gb n x y)∧Below w.heap.size w F:=by
 have C:=Dn u z c d n I J w G H K L N (fun k h=>by rw[A k h];exact O k) (fun k h=>by rw[D k h];exact Q k)
 have e:cU (fun j=>fZ (bG I j)*fZ (bG J j)) n=Gb n x y:=iA n (fun k h=>by show fZ (bG I k)*fZ (bG J k)=_;rw[A k h,D k h])
 rwa[e]at C
theorem Do(r n c H I J:Nat)(K L N:Option Addr)(A B C:List Nat)(w:World)(O:Mx w K H r c A)(hB:Mx w L I r n B)(hC:Mx w N J n c C)(fA:∀x∈A,aj x=true)(X:∀x∈B,aj x=true)(Y:∀x∈C,aj x=true):
  Calls Tryz.prog 25 #[.agg #[.int .i64 r,.int .i64 c,.slice K A.length H],.agg #[.int .i64 r,.int .i64 n,.slice L B.length I],.agg #[.int .i64 n,.int .i64 c,.slice N C.length J]] w fun e d=>∃v,e=.returned v∧bc d v (-4296) (Gc r n c A B C)∧Below w.heap.size w d:=by
 have r6:=O.2.2.1
 have c6:=O.2.2.2
 have n6:=hC.2.2.1
 have F:∀i k,eY (-2148) 4200 (rZ n c A B C i k):=fun i k=>⟨vX n c A B C i k (by omega) fA X Y,by decide,by decide,by decide⟩
 have pl:∀i k,eY (-4296) 8407 (rZ n c A B C i k*rZ n c A B C i k):=fun i k=>(show eY (-4296) 8400 _ from⟨nv (j:=4200) (k:=4200) (V:=8400) (by decide) (F i k).1 (F i k).1,by decide,by decide,by decide⟩).more (by decide) (by decide) (by decide)
 have D:=Gv r n c A.length B.length C.length H I J K L N (fun i k=>aS c A i k) (fun i=>bH (Gj n B i)) (fun k=>bH (Lj n c C k)) (-2148) (-4296) (fun i k=>fZ (aS c A i k)*2^1074) (fun i k=>Gb n (fun j=>aS n B i j) (fun j=>aS c C j k)) (fun i k=>rZ n c A B C i k) (fun i k=>zV (fun i k=>rZ n c A B C i k*rZ n c A B C i k) c i k) w r6 c6 rfl (fun i=>(Gd _ c i).symm)
  (fun d i k h Q U=>xM r c H i k K A d (O.below h) Q U)
  (fun d i k _ _=>(ns (aS c A i k) d (O.el_lt i k) (gK c A i k fA)).mono (by
   rintro e aa ⟨u,rfl,G,h⟩
   refine⟨u,rfl,?_,h⟩
   have:=G.lower 1074
   rwa[show(-1074:Int)-(1074:Nat)= -2148 by decide]at this))
  (fun d i h Q=>Df r n I i L B d (hB.below h) Q)
  (fun d k h U=>Di n c J k N C d (hC.below h) U)
  (fun d i k xo xd yo yd _ _ hx hy=>Gz xo yo xd yd n _ _ (fun j=>aS n B i j) (fun j=>aS c C j k) d hx hy (by rw[aH,rk]) (by rw[aH,Gx]) (by omega) (fun j Z=>Gw n B i Z) (fun j Z=>Gy n c C k Z) (fun j=>gK n B i j X) (fun j=>gK c C j k Y))
  (fun d i k v u _ _ z G=>Kg z G (JD _ (gK c A i k fA)) (Dh n (by omega) _ _ (fun l _=>gK n B i l X) (fun l _=>gK c C l k Y)))
  (fun d i k v _ _ z=>Lh z z (F i k) (F i k) (by decide))
  (fun d i k v u Q U z G=>by
   rw[CJ]
   exact xB z G ⟨Gg (W:=8400) (V:=8407) (by decide) r c i k (by omega) (by omega) (by omega) (by omega) (fun i k _=>nv (j:=4200) (k:=4200) (V:=8400) (by decide) (F i k).1 (F i k).1),by decide,by decide,by decide⟩ (pl i k))
 rw[Ge]at D
 exact D
theorem wg(H I:Bool)(J K:Option Addr)(L N O Q:Nat)(x y k:Int)(Y Z m2 e2 m3 G o:Int)(w:World)(hk:0≤k∧k≤200)
  (C1:∀h,Below w.heap.size w h→Calls Tryz.prog 29 #[.agg #[.bool I,.slice K N Q,.int .i64 y],.int .i64 (-(2*k))] h fun r z=>∃q,r=.returned q∧aB z q Y Z∧Below h.heap.size h z)
  (C2:∀h v,au 0 h v 1→Calls Tryz.prog 27 #[v,.int .i64 (-4000)] h fun r z=>∃q,r=.returned q∧aB z q m2 e2∧Below h.heap.size h z)
  (C3:∀h v u,aB h v Y Z→aB h u m2 e2→Calls Tryz.prog 19 #[v,u] h fun r z=>∃q,r=.returned q∧aB z q m3 G∧Below h.heap.size h z)
  (C4:∀h v,Below w.heap.size w h→aB h v m3 G→Calls Tryz.prog 33 #[.agg #[.bool H,.slice J L O,.int .i64 x],v] h fun r z=>r=.returned (.int .i64 o)∧Below h.heap.size h z):
  Calls Tryz.prog 20 #[.agg #[.bool H,.slice J L O,.int .i64 x],.agg #[.bool I,.slice K N Q,.int .i64 y],.int .i64 k] w fun e h=>e=.returned (.bool (decide (o≤0)))∧Below w.heap.size w h:=by
 have A:=ac (zt.start w H I J K L N O Q x y)
 have K1:=ac C1;have K2:=ac C2;have K3:=ac C3;have K4:=ac C4;have K5:=ac Lk
 clear C1 C2 C3 C4
 have y0:=(uH A).2.1.c0;have y1:=(uH A).2.1.c1;have y2:=(uH A).2.1.c2
 have hj:IntKind.i64.wrap (-(2*k))= -(2*k):=d7 _ (by omega)
 go_enter Tryz.func20,Tryz.ntmps20
 go_wp2_with fail
 refine(uH K1 _ (uH A).2.2).mono ?_
 rintro e w1 ⟨q,rfl,hq,d⟩
 replace A:=ac ((uH A).all d)
 have D:=ac hq
 clear d hq K1 y0 y1 y2
 go_wp2_with fail
 refine(uH K5 _).mono ?_
 rintro e w2 ⟨v,rfl,hv,d⟩
 replace A:=ac ((uH A).all d)
 replace D:=ac ((uH D).below d)
 have HV:=ac (hv.mono (Nat.zero_le _))
 clear d hv K5
 go_wp2_with fail
 refine(uH K2 _ _ (uH HV)).mono ?_
 rintro e w3 ⟨u,rfl,hu,d⟩
 replace A:=ac ((uH A).all d)
 replace D:=ac ((uH D).below d)
 have HU:=ac hu
 clear d hu K2 HV
 go_wp2_with fail
 refine(uH K3 _ _ _ (uH D) (uH HU)).mono ?_
 rintro e w4 ⟨t,rfl,X,d⟩
 obtain⟨n3,a3,c3,L3,rfl,i3⟩:=X.num
 generalize L3.length=l3 at*
 have U:=ad w4 (.cells #[.bool n3,.slice a3 l3 c3,.int .i64 G] 35)
 have F:=d.trans (U.mono d.size)
 replace A:=ac ((uH A).all F)
 have HT:=ac (X.below U)
 have XT:=ac (ak.new w4 (.bool n3) (.slice a3 l3 c3) (.int .i64 G))
 clear d X K3 D HU U F i3
 have x0:=(uH A).1.c0;have x1:=(uH A).1.c1;have x2:=(uH A).1.c2
 go_wp2_with fail
 refine(uH K4 _ _ (uH A).2.2 (uH HT)).mono ?_
 rintro e w5 ⟨rfl,d⟩
 clear x0 x1 x2
 replace A:=ac ((uH A).all d)
 clear d K4
 go_wp2
 go_ret
 exact⟨rfl,(uH A).2.2⟩
theorem zu:(1:Int).natAbs<dl:=j5 (k:=1) (by decide) (by decide)
theorem k8(r c:Int)(A:Option Addr)(u:Nat)(I:List Int)(w:World)(J:ap w A u I)(K:I.length≤35184372088830):
  Calls Tryz.prog 16 #[.agg #[.int .i64 r,.int .i64 c,.slice A I.length u]] w fun e D=>e=.returned (.int .i64 (sc r c I))∧Below w.heap.size w D:=by
 have F:=ac (fun D=>oQ r c A I.length u D)
 have H:=ac (fun D (h:ap D A u I)=>rh A u I D h K)
 have z:=ac (ad w (.cells #[.int .i64 r,.int .i64 c,.slice A I.length u] 24))
 have G:=ac (aL.new w (.int .i64 r) (.int .i64 c) (.slice A I.length u))
 have L:=ac J
 unfold sc
 generalize kl r c I.length=b at*
 generalize iX I I.length=f at*
 generalize I.length=n at*
 clear J
 cases b
 ·clear H
  go_enter Tryz.func16,Tryz.ntmps16
  go_wp2_with fail
  refine(uH F _).mono ?_
  rintro e Q ⟨rfl,d⟩
  have N:=ac ((uH z).trans (d.mono (uH z).size))
  clear d F G
  go_wp2
  go_ret
  exact⟨rfl,uH N⟩
 ·cases f
  all_goals
   go_enter Tryz.func16,Tryz.ntmps16
   go_wp2_with fail
   refine(uH F _).mono ?_
   rintro e Q ⟨rfl,d⟩
   replace z:=ac ((uH z).trans (d.mono (uH z).size));replace G:=ac ((uH G).all d)
   clear d F
   have O:=(uH G).c2
   go_wp2_with fail
   refine(uH H _ ((uH L).below (uH z))).mono ?_
   rintro e U ⟨rfl,d⟩
   replace z:=ac ((uH z).trans (d.mono (uH z).size))
   clear d H O
   go_wp2
   go_ret
   exact⟨rfl,uH z⟩
theorem t8(r c:Int)(A:Option Addr)(u:Nat)(I:List Int)(K:Int)(w:World)(J:ap w A u I)(N:I.length≤35184372088830)(L:-5000≤K∧K≤5000):
  Calls Tryz.prog 13 #[.agg #[.int .i64 r,.int .i64 c,.slice A I.length u],.int .i64 K] w fun e D=>e=.returned (.bool (kl r c I.length&&tQ K I I.length))∧Below w.heap.size w D:=by
 have F:=ac (fun D=>oQ r c A I.length u D)
 have H:=ac (fun D (h:ap D A u I)=>vU A u I K D h N L)
 have z:=ac (ad w (.cells #[.int .i64 r,.int .i64 c,.slice A I.length u] 24))
 have G:=ac (aL.new w (.int .i64 r) (.int .i64 c) (.slice A I.length u))
 have O:=ac J
 generalize kl r c I.length=b at*
 generalize tQ K I I.length=f at*
 generalize I.length=n at*
 clear J L
 cases b
 ·clear H
  go_enter Tryz.func13,Tryz.ntmps13
  go_wp2_with fail
  refine(uH F _).mono ?_
  rintro e X ⟨rfl,d⟩
  have Q:=ac ((uH z).trans (d.mono (uH z).size))
  clear d F G
  go_wp2
  go_ret
  exact⟨rfl,uH Q⟩
 ·go_enter Tryz.func13,Tryz.ntmps13
  go_wp2_with fail
  refine(uH F _).mono ?_
  rintro e X ⟨rfl,d⟩
  replace z:=ac ((uH z).trans (d.mono (uH z).size));replace G:=ac ((uH G).all d)
  clear d F
  have U:=(uH G).c2
  go_wp2_with fail
  refine(uH H _ ((uH O).below (uH z))).mono ?_
  rintro e Y ⟨rfl,d⟩
  replace z:=ac ((uH z).trans (d.mono (uH z).size))
  clear d H U
  go_wp2
  go_ret
  exact⟨rfl,uH z⟩
theorem rl(r c:Int)(O:Option Addr)(n h:Nat)(lo z:Int)(w:World)
  (C:∀u,Below w.heap.size w u→Calls Tryz.prog 32 #[.slice O n h] u fun e H=>∃v,e=.returned v∧bc H v lo z∧Below u.heap.size u H):
  Calls Tryz.prog 17 #[.agg #[.int .i64 r,.int .i64 c,.slice O n h]] w fun e u=>∃v,e=.returned v∧bc u v lo z∧Below w.heap.size w u:=by
 obtain⟨Z,x1,bb⟩:=Gq w r c O n h
 have U:=ac Z;have X:=ac x1;have I:=ac bb;have K:=ac C
 clear Z x1 bb C
 have y2:=(uH U).c2
 go_enter Tryz.func17,Tryz.ntmps17
 go_wp2_with fail
 refine(uH K _ (uH I)).mono ?_
 rintro e w2 ⟨v,rfl,⟨D,F,G,Q,rfl,i5⟩,A⟩
 have Y:bc w2 (.agg #[.bool D,.slice F Q.length G,.int .i64 (oE z lo)]) lo z:=⟨D,F,G,Q,rfl,i5⟩
 generalize Q.length=L at*
 generalize oE z lo=N at*
 have d:=(uH X).all A
 have r0:=d.c0;have r1:=d.c1;have r2:=d.c2;have f0:=d.free 0;have f1:=d.free 1;have f2:=d.free 2
 have J:=d.put (.bool D) (.slice F L G) (.int .i64 N)
 have z0:=J.c0;have z1:=J.c1;have z2:=J.c2
 have HV:=ac (aB.put3 Y d (.bool D) (.slice F L G) (.int .i64 N))
 have HB:=ac (aC ((uH I).trans (A.mono (uH I).size)) (show w.heap.size≤w.heap.size+1 by omega) (.bool D) (.slice F L G) (.int .i64 N))
 clear i5 Y d J A I U X K y2
 go_wp2
 exact bodyPost_ret (v:=.agg #[.bool D,.slice F L G,.int .i64 N]) (by simp[results,Tryz.results17,go_sem,z0,z1,z2]) rfl ⟨_,rfl,uH HV,uH HB⟩
theorem Dp(S:List Nat):∀k,tR (bH S) k=cU (fun p=>fZ (S.getD p 0)*fZ (S.getD p 0)) k
 |0=>rfl
 |k+1=>by
  show tR (bH S) k+fZ (bG (bH S) k)*fZ (bG (bH S) k)=cU _ k+_
  rw[Dp S k,eg]
theorem lf{I:List Int}:∀n,iX I n=true↔∀k,k<n→aj (bG I k)=true
 |0=>⟨fun _ k d=>by omega,fun _=>rfl⟩
 |n+1=>by
  show(iX I n&&aj (bG I n))=true↔_
  rw[Bool.and_eq_true,lf n]
  constructor
  ·rintro⟨u,z⟩ k d
   by_cases e:k=n
   ·subst e;exact z
   ·exact u k (by omega)
  ·exact fun h=>⟨fun k d=>h k (by omega),h n (by omega)⟩
theorem GA{S:List Nat}(h:iX (bH S) S.length=true):∀x∈S,aj x=true:=fun x u=>by
 obtain⟨i,d,rfl⟩:=List.getElem_of_mem u
 have:=(lf _).1 h i d
 rw[eg]at this
 rwa[List.getD_eq_getElem?_getD,List.getElem?_eq_getElem d]at this
theorem GB{S:List Nat}(h:∀x∈S,aj x=true):iX (bH S) S.length=true:=(lf _).2 fun k d=>by
 rw[eg,List.getD_eq_getElem?_getD,List.getElem?_eq_getElem d]
 exact h _ (List.getElem_mem d)
theorem pJ(r c d:Nat)(u:Option Addr)(S:List Nat)(w:World)(h:Mx w u d r c S)(A:∀x∈S,aj x=true):
  Calls Tryz.prog 17 #[.agg #[.int .i64 r,.int .i64 c,.slice u S.length d]] w fun e z=>∃v,e=.returned v∧bc z v (-2148) (zp S)∧Below w.heap.size w z:=by
 refine rl r c u S.length d (-2148) (zp S) w (fun z D=>?_)
 have:=pF u d (bH S) z (h.1.below D) (by rw[aH];have:=h.small;omega) (by rw[aH];exact GB A)
 rw[aH,Dp]at this
 exact this
theorem Dq{r c:Int}{I:List Int}(h:sc r c I=0):kl r c I.length=true∧iX I I.length=true:=by
 unfold sc at h
 by_cases d:kl r c I.length=true
 ·rw[if_pos d]at h
  refine⟨d,?_⟩
  by_cases u:iX I I.length=true
  ·exact u
  ·rw[if_neg u]at h;omega
 ·rw[if_neg d]at h;omega
theorem Mx.asked{w:World}{u:Option Addr}{d:Nat}{I:List Int}{r c:Int}(h:ap w u d I)(A:sc r c I=0):∃p q:Nat,r=(p:Int)∧c=(q:Int)∧Mx w u d p q (dp I)∧bH (dp I)=I∧(∀x∈dp I,aj x=true):=by
 obtain⟨D,F⟩:=Dq A
 obtain⟨p,q,G,H,J,z⟩:=Mx.of h D
 refine⟨p,q,G,H,J,z,GA ?_⟩
 rw[z,iB]
 exact F
end Go.Proofs.YtcbcmlaogehimaaGreatDoor
namespace Go.Proofs.YtcbcmlaogehimaaGreatDoor
open Go.RowKit
theorem oS(d:List Nat):gq d=true↔∀k,k<d.length→aj (d.getD k 0)=true:=by
 unfold gq
 rw[lf]
 exact⟨fun h k u=>by have:=h k u;rwa[eg]at this,fun h k u=>by rw[eg];exact h k u⟩
def ku(a b:Nat):Bool:=decide (cO a b<0)
end Go.Proofs.YtcbcmlaogehimaaGreatDoor
namespace Go.Proofs.YtcbcmlaogehimaaGreatDoor
def Ll(r c:Nat)(S:List Nat)(j k:Nat):Nat:=de (Gr c S j (r-j) k)
def Lm(r c:Nat)(S:List Nat)(j:Nat):Nat→Nat
 |0=>j
 |t+1=>if cO (Ll r c S j (Lm r c S j t)) (Ll r c S j (j+t))<0 then j+t else Lm r c S j t
def LE(r c:Nat)(S:List Nat)(j:Nat):Nat→Bool
 |0=>true
 |t+1=>LE r c S j t&&aj (Ll r c S j (j+t))
theorem Dr(r c:Nat)(S:List Nat)(j:Nat):∀t,j≤Lm r c S j t
 |0=>Nat.le_refl _
 |t+1=>by
  show j≤if _ then _ else _
  split
  ·exact Nat.le_add_right _ _
  ·exact Dr r c S j t
theorem Ds(r c:Nat)(S:List Nat)(j:Nat):∀t,0<t→Lm r c S j t<j+t
 |0,h=>absurd h (Nat.lt_irrefl 0)
 |t+1,_=>by
  show(if _ then _ else _)<_
  split
  ·exact Nat.lt_succ_self (j+t)
  ·rcases Nat.eq_zero_or_pos t with rfl|h
   ·exact Nat.lt_succ_self j
   ·exact Nat.lt_succ_of_lt (Ds r c S j t h)
def Ka(r c:Nat)(S:List Nat)(j:Nat):Nat:=Lm r c S j (c-j)
def LU(r c:Nat)(S:List Nat)(j:Nat):Bool:=LE r c S j (c-j)
theorem JG(r c:Nat)(S:List Nat)(j:Nat):j≤Ka r c S j:=Dr _ _ _ _ _
theorem Dt(r c:Nat)(S:List Nat){j:Nat}(h:j<c):Ka r c S j<c:=by
 have:=Ds r c S j (c-j) (by omega)
 unfold Ka
 omega
def JH(l:List Nat)(i k:Nat):List Nat:=(l.set i (l.getD k 0)).set k (l.getD i 0)
theorem GC(l:List Nat)(i k:Nat):(JH l i k).length=l.length:=by unfold JH;rw[List.length_set,List.length_set]
theorem t9(l:List Nat)(i x k:Nat)(d:i<l.length):(l.set i x).getD k 0=if k=i then x else l.getD k 0:=by
 simp only[List.getD_eq_getElem?_getD,List.getElem?_set]
 by_cases h:i=k
 ·subst h;simp[d]
 ·rw[if_neg h,if_neg (fun e=>h e.symm)]
theorem JI(l:List Nat){i k:Nat}(d:i<l.length)(h:k<l.length)(q:Nat):(JH l i k).getD q 0=if q=k then l.getD i 0 else if q=i then l.getD k 0 else l.getD q 0:=by
 unfold JH
 rw[t9 _ _ _ _ (by rw[List.length_set];exact h),t9 _ _ _ _ d]
def uc(r c:Nat)(S:List Nat)(L:List Nat):List Nat:=mj r L.length (fun i k=>aS c S i (L.getD k 0))
theorem iZ(r c:Nat)(S L:List Nat):(uc r c S L).length=r*L.length:=eW _ _ _
theorem Du(r c:Nat)(S L:List Nat){p q:Nat}(d:p<r)(h:q<L.length):aS L.length (uc r c S L) p q=aS c S p (L.getD q 0):=kY r L.length _ d h
theorem oT{n q:Nat}(h:q<n):(List.range n).getD q 0=q:=by
 rw[List.getD_eq_getElem?_getD,List.getElem?_range h];rfl
def LO(r c:Nat)(S:List Nat)(j a:Nat):List Nat:=uc r c S (JH (List.range c) j a)
theorem lh(c j a:Nat):(JH (List.range c) j a).length=c:=by rw[GC,List.length_range]
def LT(j a q:Nat):Nat:=if q=a then j else if q=j then a else q
theorem Ln(r c:Nat)(S:List Nat){j a p q:Nat}(d:j<c)(h:a<c)(z:p<r)(u:q<c):aS c (LO r c S j a) p q=aS c S p (LT j a q):=by
 have e:=Du r c S (JH (List.range c) j a) z (q:=q) (by rw[lh];exact u)
 rw[lh]at e
 unfold LO
 rw[e,JI _ (by rw[List.length_range];exact d) (by rw[List.length_range];exact h),oT d,oT h,oT u]
 rfl
def LP(r c:Nat)(S:List Nat)(j:Nat):List Nat:=LO r c S j (Ka r c S j)
open Go.RowKit
attribute [local go_sem ↓] Go.wp_at_zero Go.wp_at_succ
theorem GD(L:List Nat){k:Nat}(d:k<L.length):(bH L)[k]?.getD 0=((L.getD k 0:Nat):Int):=by
 unfold bH
 rw[List.getElem?_map,List.getElem?_eq_getElem d,List.getD_eq_getElem?_getD,List.getElem?_eq_getElem d]
 rfl
end Go.Proofs.YtcbcmlaogehimaaGreatDoor
