/- Part 40 of the texts. -/
import Derived.Test.YtdhmglmccafbnaaGreatDoorPartu38
import Derived.Test.YtdhmglmccafbnaaGreatDoorPartu39
import Derived.Test.YtdhmglmccafbnaaGreatDoorPartu34
import Derived.Test.YtdhmglmccafbnaaGreatDoorPartu24
import Derived.Test.YtdhmglmccafbnaaGreatDoorPartu35
import Derived.Test.YtdhmglmccafbnaaGreatDoorPartu31
import Derived.Test.YtdhmglmccafbnaaGreatDoorPartu28
import Derived.Test.YtdhmglmccafbnaaGreatDoorPartu33
import Derived.Deep.RegionHeld3
import Derived.Test.YtdhmglmccafbnaaGreatDoorPartu20
import Derived.Test.YtdhmglmccafbnaaGreatDoorPartu26
import Derived.Test.YtdhmglmccafbnaaGreatDoorPartu32
namespace Go.Proofs.YtdhmglmccafbnaaGreatDoor
open Go.RowKit
theorem cv_stay (r c:Nat) (S:List Nat) {j:Nat} (hj:j < r):∀ t,j < t→t≤qrN r c→cv c (qrR r c S t) r j j = cv c (qrR r c S (j+1)) r j j:=by
 intro t
 induction t with
 | zero=>intro h _;omega
 | succ t ih =>
  intro h1 h2
  rcases Nat.lt_or_ge j t with g | g
  ·have h3:=(qrN_lt r c t).1 (by omega)
   rw [← ih g (by omega)]
   exact step_ahead (qrR r c S t) g (by omega) hj
  ·rw [show t = j by omega]
theorem diag_mir (r c:Nat) (S:List Nat) {j:Nat} (hj:j < qrN r c):fQ (elM c (facR r c S) j j) = fQ (mrB (qxL r c (qrR r c S j) j)):=by
 have h3:=(qrN_lt r c j).1 hj
 have h:=cv_stay r c S (show j < r by omega) (qrN r c) hj (Nat.le_refl _)
 rw [cv_at _ _ _ _ (show j < r by omega)] at h
 refine h.trans ?_
 exact step_diag (qrR r c S j) (by omega) (by omega)
end Go.Proofs.YtdhmglmccafbnaaGreatDoor
namespace Go.Proofs.YtdhmglmccafbnaaGreatDoor
open Go.RowKit
def qms (r c:Nat) (S:List Nat):Nat→List ((Nat→Rat) × Rat)
 | 0=>[]
 | j+1=>if ngt (qrX r c S j).tail = true then qms r c S j else qms r c S j ++ [(vl j (mrV (qrX r c S j)),fQ (mrT (qrX r c S j)))]
theorem Fac.vals {n c j:Nat} {A:Nat→Nat→Rat} {ms:List ((Nat→Rat) × Rat)} {C D:Nat→List Nat} (h:Fac n c A ms C j) (hD:∀ k,k < c→(D k).length = n∧∀ y ∈ D k,y < 18446744073709551616∧fFin y = true)
  (hv:∀ k,k < c→∀ i,i < n→fc (D k) i = fc (C k) i):Fac n c A ms D j:=by
 refine ⟨h.mirs,h.len,hD,fun k hk hjk=>steps_end n _ ms _ _ _ (h.rest k hk hjk) (fun i hi=>(hv k hk i hi).symm),fun k hk hkj=>?_⟩
 obtain ⟨d1,ms1,ns,z,d2,d3,d4,d5⟩:=h.done k hk hkj
 refine ⟨fun i hi hki=>by rw [hv k hk i hi];exact d1 i hi hki,ms1,ns,z,d2,d3,fun q hq=>(d4 q hq).congr (fun i hi=>by rw [hv k hk i hi]),fun m hm=>?_⟩
 rw [dt_congr (fun _ _=>rfl) (fun i hi=>hv k hk i hi)]
 exact d5 m hm
theorem cv_next {r c:Nat} (W:List Nat) {j k:Nat} (hj:j < r) (hjk:j < k) (hk:k < c) {i:Nat} (hi:i < r) :
  cv c (qrS r c W j) r k i = fc ((colL c W 0 r k).take j ++ apV (mV (mrT (qxL r c W j)) (dtV 0 (mrV (qxL r c W j)) ((colL c W 0 r k).drop j))) (mrV (qxL r c W j)) ((colL c W 0 r k).drop j)) i:=by
 have lX:(qxL r c W j).length = r - j:=colL_len _ _ _ _ _
 have lV:(mrV (qxL r c W j)).length = r - j:=by rw [mrV_len,lX]
 have lC:(colL c W 0 r k).length = r:=colL_len _ _ _ _ _
 rw [cv_at _ _ _ _ hi]
 unfold qrS
 rw [el_cl r c _ j _ hi hk,if_neg (fun e=>by omega),el_ap r c W j j _ _ hi hk,col_drop c W k (by omega)]
 have tl:((colL c W 0 r k).take j).length = j:=by rw [List.length_take,lC];omega
 rcases Nat.lt_or_ge i j with g | g
 ·rw [if_neg (fun e=>by omega),fc_left _ _ i (by omega),fc_take _ j i g]
  exact (cv_at c W r k hi).symm
 ·rw [if_pos ⟨by omega,g,by rw [lV];omega⟩]
  have e1:=fc_right ((colL c W 0 r k).take j) (apV (mV (mrT (qxL r c W j)) (dtV 0 (mrV (qxL r c W j)) (colL c W j (r - j) k))) (mrV (qxL r c W j)) (colL c W j (r - j) k)) (i - j)
  rw [tl,show j+(i - j) = i by omega] at e1
  rw [e1]
  unfold apL fc
  rw [lV]
theorem cv_own {r c:Nat} (W:List Nat) {j:Nat} (_hj:j < r) (hjc:j < c) {i:Nat} (hi:i < r) :
  cv c (qrS r c W j) r j i = if i < j then cv c W r j i else if i = j then fQ (mrB (qxL r c W j)) else 0:=by
 rw [cv_at _ _ _ _ hi]
 unfold qrS
 rw [el_cl r c _ j _ hi hjc]
 rcases Nat.lt_trichotomy i j with g | g | g
 ·rw [if_neg (fun e=>by omega),el_ap r c W j j _ _ hi hjc,if_neg (fun e=>by omega),if_pos g,cv_at _ _ _ _ hi]
 ·rw [if_pos ⟨rfl,by omega,hi⟩,if_pos g,if_neg (by omega),if_pos g]
 ·rw [if_pos ⟨rfl,by omega,hi⟩,if_neg (by omega),if_neg (by omega),if_neg (by omega),fQ_0]
theorem Elt.cols {Z:Rat} {r c:Nat} {S:List Nat} (h:Elt Z r c S) {k:Nat} (hk:k < c):(colL c S 0 r k).length = r∧∀ y ∈ colL c S 0 r k,y < 18446744073709551616∧fFin y = true :=
 ⟨colL_len _ _ _ _ _,fun y hy=>by have:=h.col (i:=0) (n:=r) (by omega) hk y hy;exact ⟨this.1,this.2.1⟩⟩
theorem col_none (j:Nat) (vs Ys:List Nat) (hl:Ys.length≤6) (hlen:j+vs.length = Ys.length) (hv:∀ v ∈ vs,fFin v = true∧1000 * ab (fQ v)≤1001) (hC:Small (p2 290) Ys) {i:Nat} (hi:i < Ys.length) :
  fc (Ys.take j ++ apV (mV 0 (dtV 0 vs (Ys.drop j))) vs (Ys.drop j)) i = fc Ys i:=by
 have hD:Small (p2 290) (Ys.drop j):=hC.drop j
 have lD:(Ys.drop j).length = vs.length:=by rw [List.length_drop];omega
 have P:=p2_pos 290
 have big:16 * p2 290≤p2 900∧p2 900≤p2 1000∧p2 900≤p2 1023:=by
  have h1:=p2_mono (show (290+1+1+1+1:Int)≤900 by decide)
  simp only [p2_succ] at h1
  exact ⟨by grind,p2_mono (by decide),p2_mono (by decide)⟩
 have s1:s1Q (Ys.drop j)≤6 * p2 290:=by
  have key:∀ xs:List Nat,(∀ x ∈ xs,ab (fQ x)≤p2 290)→s1Q xs≤(xs.length:Rat) * p2 290:=by
   intro xs
   induction xs with
   | nil=>intro _;show (0:Rat)≤((0:Nat):Rat) * _;have:((0:Nat):Rat) = 0:=rfl;rw [this];grind
   | cons x xs ih =>
    intro hx
    have i1:=ih (fun y hy=>hx y (List.mem_cons_of_mem _ hy))
    have i2:=hx x List.mem_cons_self
    have e1:s1Q (x :: xs) = ab (fQ x)+s1Q xs:=rfl
    have e2:((x :: xs).length:Rat) = (xs.length:Rat)+1:=by rw [List.length_cons,Rat.natCast_add];rfl
    rw [e1,e2]
    grind
  have k1:=key _ (fun x hx=>(hD x hx).2.2)
  have l6:(Ys.drop j).length≤6:=by omega
  have k2:((Ys.drop j).length:Rat)≤((6:Nat):Rat):=Rat.natCast_le_natCast.2 l6
  have e6:((6:Nat):Rat) = 6:=rfl
  rw [e6] at k2
  have:=Rat.mul_nonneg (show 0≤6 - ((Ys.drop j).length:Rat) by grind) (Rat.le_of_lt P)
  grind
 have da:=da_le vs (Ys.drop j) (fun v h=>(hv v h).2)
 have hη:=eta_p2 0 (by decide)
 have P0:=p2_mono (show (0:Int)≤290 by decide)
 obtain ⟨d1,_⟩:=dot_err0 (7 * p2 290) vs (Ys.drop j) (by omega) (by grind) (by have:=p2_pos (-1075);grind) (fun v h=>(hv v h).1) (fun y hy=>(hD y hy).2.1) (by grind)
 obtain ⟨t1,t2⟩:=mul_noughts 0 (dtV 0 vs (Ys.drop j)) (by decide) d1 (by rw [fQ_0];grind)
 have ls:=ap_same (mV 0 (dtV 0 vs (Ys.drop j))) t1 t2 vs (Ys.drop j) lD.symm (fun v h=>(hv v h).1) (fun y hy=>⟨(hD y hy).1,(hD y hy).2.1,by have:=(hD y hy).2.2;grind⟩)
 obtain ⟨l1,l2⟩:=less_same _ _ _ ls
 have tl:(Ys.take j).length = j:=by rw [List.length_take];omega
 rcases Nat.lt_or_ge i j with g3 | g3
 ·rw [fc_left _ _ i (by omega),fc_take _ j i g3]
 ·have e1:=fc_right (Ys.take j) (apV (mV 0 (dtV 0 vs (Ys.drop j))) vs (Ys.drop j)) (i - j)
  rw [tl,show j+(i - j) = i by omega] at e1
  rw [e1,l2 (i - j) (by omega)]
  have e2:=fc_drop Ys j (i - j)
  rw [show j+(i - j) = i by omega] at e2
  exact e2.symm
theorem step_none {r c:Nat} {W:List Nat} (h:Elt (p2 290) r c W) (r6:r≤6) {j:Nat} (hj:j < r) (hjc:j < c) (hn:ngt (qxL r c W j).tail = true):∀ k,k < c→∀ i,i < r→cv c (qrS r c W j) r k i = cv c W r k i:=by
 have lX:(qxL r c W j).length = r - j:=colL_len _ _ _ _ _
 have hX:Small (p2 290) (qxL r c W j):=h.col (by omega) hjc
 obtain ⟨a,xs,hax⟩:∃ a xs,qxL r c W j = a :: xs:=by
  cases hq:qxL r c W j with
  | nil=>rw [hq] at lX;simp at lX;omega
  | cons a xs=>exact ⟨a,xs,rfl⟩
 have lxs:xs.length+1 = r - j:=by rw [← lX,hax];rfl
 have hn2:ngt xs = true:=by rw [hax] at hn;exact hn
 have eB:mrB (qxL r c W j) = a:=by rw [hax];exact if_pos hn2
 have eT:mrT (qxL r c W j) = 0:=by rw [hax];exact if_pos hn2
 intro k hk i hi
 rcases Nat.lt_trichotomy k j with g | g | g
 ·exact step_ahead W g hjc hi
 ·subst g
  rw [cv_own W hj hjc hi]
  split
  ·rfl
  ·rename_i g1
   have xa:∀ p,p < r - k→cv c W r k (k+p) = fc (a :: xs) p:=fun p hp=>by
    rw [cv_at _ _ _ _ (show k+p < r by omega),← hax]
    unfold fc qxL
    rw [colL_at c W k (r - k) k hp]
   split
   ·rename_i g2
    have:=xa 0 (by omega)
    rw [Nat.add_zero] at this
    rw [g2,this,eB]
    rfl
   ·rename_i g2
    have:=xa (i - k) (by omega)
    rw [show k+(i - k) = i by omega] at this
    rw [this]
    obtain ⟨p,hp⟩:∃ p,i - k = p+1:=⟨i - k - 1,by omega⟩
    rw [hp]
    have e4:fc (a :: xs) (p+1) = fQ (xs.getD p 0):=rfl
    rw [e4]
    have hm:xs.getD p 0 ∈ xs:=by
     rw [List.getD_eq_getElem?_getD,List.getElem?_eq_getElem (by omega)]
     exact List.getElem_mem _
    exact (fQ_nought _ (ngt_true hn2 _ hm)).symm
 ·rw [cv_next W hj g hk hi,eT]
  obtain ⟨c1,c2,c3,c4,c5,c6⟩:=mr_crude (qxL r c W j) (by omega) (hX.mono (p2_mono (by decide)))
  have lC:(colL c W 0 r k).length = r:=colL_len _ _ _ _ _
  exact col_none j (mrV (qxL r c W j)) (colL c W 0 r k) (by omega) (by rw [lC,mrV_len,lX];omega) c4 (h.col (i:=0) (n:=r) (by omega) hk) (by rw [lC];exact hi)
theorem fac_qr {r c:Nat} {S:List Nat} (r6:r≤6) (hS:Elt (p2 200) r c S) (hC:Cols r c (fun k=>cv c S r k)) (J:Nat) (hJ:J≤qrN r c) (hd:∀ j,j < J→p2 (-101)≤ab (fQ (mrB (qxL r c (qrR r c S j) j)))) :
  ∀ j,j≤J→Fac r c (fun k=>cv c S r k) (qms r c S j) (fun k=>colL c (qrR r c S j) 0 r k) j:=by
 intro j
 induction j with
 | zero =>
  intro _
  exact ⟨fun m hm=>(by cases hm),Nat.le_refl _,fun k hk=>hS.cols hk,fun k _ _ i _=>rfl,fun k _ h=>absurd h (Nat.not_lt_zero k)⟩
 | succ j ih =>
  intro hj
  have F:=ih (by omega)
  have hj2:=(qrN_lt r c j).1 (by omega)
  have hjr:j+1 < r:=by omega
  have hjc:j < c:=by omega
  have E:=(hS.qall r6 j (by omega)).1.mono (Y:=p2 290) (p2_mono (by have:qrN r c≤6:=by unfold qrN;omega
                                     omega))
  have E1:=(hS.qall r6 (j+1) (by omega)).1
  have lX:(qxL r c (qrR r c S j) j).length = r - j:=colL_len _ _ _ _ _
  have eR:qrR r c S (j+1) = qrS r c (qrR r c S j) j:=rfl
  by_cases hn:ngt (qrX r c S j).tail = true
  ·have em:qms r c S (j+1) = qms r c S j:=if_pos hn
   rw [em]
   have st:=step_none E r6 (by omega) hjc hn
   refine F.same (fun k hk=>by rw [eR] at E1;exact E1.cols hk) (fun k hk i hi=>st k hk i hi) (fun _ i hi hji=>?_)
   have:=st j hjc i hi
   rw [cv_own _ (by omega) hjc hi,if_neg (by omega),if_neg (by omega)] at this
   exact this.symm
  ·have em:qms r c S (j+1) = qms r c S j ++ [(vl j (mrV (qrX r c S j)),fQ (mrT (qrX r c S j)))]:=if_neg hn
   obtain ⟨a,xs,hax⟩:∃ a xs,qrX r c S j = a :: xs:=by
    cases hq:qrX r c S j with
    | nil=>rw [show qrX r c S j = qxL r c (qrR r c S j) j from rfl] at hq;rw [hq] at lX;simp at lX;omega
    | cons a xs=>exact ⟨a,xs,rfl⟩
   have hn2:¬ ngt xs = true:=by rw [hax] at hn;exact hn
   have hax2:qxL r c (qrR r c S j) j = a :: xs:=hax
   have eB:mrB (a :: xs) = hmB a xs:=if_neg hn2
   have eT:mrT (a :: xs) = dV (aV (hmB a xs) (fN a)) (hmB a xs):=if_neg hn2
   have eV:mrV (a :: xs) = 4607182418800017408 :: xs.map (fun x=>dV x (hmD a xs)):=by
    show 4607182418800017408 :: xs.map (fun x=>if ngt xs = true then 0 else dV x (hmD a xs)) = _
    congr 1
    exact List.map_congr_left (fun x _=>if_neg hn2)
   have hX:Small (p2 290) (a :: xs):=by rw [← hax2];exact E.col (by omega) hjc
   have l6:(a :: xs).length≤6:=by rw [← hax2,lX];omega
   obtain ⟨c1,c2,c3,c4,c5,c6⟩:=mr_crude (a :: xs) l6 (hX.mono (p2_mono (by decide)))
   rw [eB] at c6
   have nl:=nrV_lt (a :: xs)
   obtain ⟨s1,s2⟩:=ld_sign a xs
   have hs:(fQ (hmB a xs) = fQ (nrV (a :: xs))∧fQ a≤0) ∨ (fQ (hmB a xs) = -fQ (nrV (a :: xs))∧0≤fQ a):=by
    unfold hmB
    by_cases e:ldS (a :: xs) = true
    ·rw [if_pos e];exact .inl ⟨rfl,s1 e⟩
    ·rw [if_neg e];exact .inr ⟨fQ_fN _ nl,s2 (by simpa using e)⟩
   have hlow:=hd j (by omega)
   rw [hax2,eB] at hlow
   have hdr:(colL c (qrR r c S j) 0 r j).drop j = a :: xs:=by rw [col_drop c _ j (by omega)];exact hax2
   have M:=F.mirror hC hjc a (hmB a xs) (hmD a xs) (dV (aV (hmB a xs) (fN a)) (hmB a xs)) xs (xs.map (fun x=>dV x (hmD a xs))) hdr (hmB_lt a xs) c6 hlow hs rfl rfl rfl
   rw [em,hax,eV,eT]
   refine M.vals (fun k hk=>E1.cols hk) (fun k hk i hi=>?_)
   have key:cv c (qrS r c (qrR r c S j) j) r k i = _:=rfl
   show cv c (qrS r c (qrR r c S j) j) r k i = _
   unfold stC
   rcases Nat.lt_trichotomy k j with g | g | g
   ·rw [if_pos g]
    exact step_ahead _ g hjc hi
   ·rw [if_neg (by omega),if_pos g]
    subst g
    rw [cv_own _ (by omega) hjc hi,hax2,eB]
    have lC:(colL c (qrR r c S k) 0 r k).length = r:=colL_len _ _ _ _ _
    have tl:((colL c (qrR r c S k) 0 r k).take k).length = k:=by rw [List.length_take,lC];omega
    rcases Nat.lt_trichotomy i k with g3 | g3 | g3
    ·rw [if_pos g3,fc_left _ _ i (by show i < ((colL c (qrR r c S k) 0 r k).take k).length;omega),fc_take _ k i g3];rfl
    ·rw [if_neg (by omega),if_pos g3]
     have e1:=fc_right ((colL c (qrR r c S k) 0 r k).take k) (hmB a xs :: List.replicate ((4607182418800017408 :: xs.map (fun x=>dV x (hmD a xs))).length - 1) 0) 0
     rw [tl,Nat.add_zero] at e1
     rw [g3,e1]
     rfl
    ·rw [if_neg (by omega),if_neg (by omega)]
     obtain ⟨p,hp⟩:∃ p,i = k+(p+1):=⟨i - k - 1,by omega⟩
     have e1:=fc_right ((colL c (qrR r c S k) 0 r k).take k) (hmB a xs :: List.replicate ((4607182418800017408 :: xs.map (fun x=>dV x (hmD a xs))).length - 1) 0) (p+1)
     rw [tl] at e1
     rw [hp,e1]
     unfold fc
     rw [List.getD_eq_getElem?_getD,List.getElem?_cons_succ,List.getElem?_replicate]
     split <;> exact fQ_0.symm
   ·rw [if_neg (by omega),if_neg (by omega),cv_next _ (by omega) g hk hi,hax2,eT,eV]
end Go.Proofs.YtdhmglmccafbnaaGreatDoor
namespace Go.Proofs.YtdhmglmccafbnaaGreatDoor
open Go.RowKit
def qmr (r c:Nat) (S:List Nat) (K:Nat):Nat→List ((Nat→Rat) × Rat)
 | 0=>[]
 | t+1=>if ngt (qrX r c S (K - 1 - t)).tail = true then qmr r c S K t else qmr r c S K t ++ [(vl (K - 1 - t) (mrV (qrX r c S (K - 1 - t))),fQ (mrT (qrX r c S (K - 1 - t))))]
theorem qms_split (r c:Nat) (S:List Nat) (K:Nat):∀ t,t≤K→qms r c S K = qms r c S (K - t) ++ (qmr r c S K t).reverse:=by
 intro t
 induction t with
 | zero=>intro _;show _ = _ ++ [];rw [List.append_nil];rfl
 | succ t ih =>
  intro ht
  rw [ih (by omega)]
  obtain ⟨j,hj⟩:∃ j,K - 1 - t = j:=⟨_,rfl⟩
  rw [show K - t = j+1 by omega,show K - (t+1) = j by omega]
  show (if _ then _ else _) ++ _ = _ ++ (if _ then _ else _:List _).reverse
  rw [hj]
  by_cases g:ngt (qrX r c S j).tail = true
  ·rw [if_pos g,if_pos g]
  ·rw [if_neg g,if_neg g,List.reverse_append,List.append_assoc]
   rfl
theorem qmr_mem {r c:Nat} {S:List Nat} {K t:Nat} (ht:t≤K):∀ m ∈ qmr r c S K t,m ∈ qms r c S K:=fun m hm=>by
 rw [qms_split r c S K t ht]
 exact List.mem_append_right _ (List.mem_reverse.2 hm)
theorem qms_back (r c:Nat) (S:List Nat) (K:Nat):(qmr r c S K K).reverse = qms r c S K:=by
 have h:=qms_split r c S K K (Nat.le_refl K)
 rw [Nat.sub_self] at h
 exact h.symm
theorem cv_ap {r c:Nat} (W:List Nat) {j k:Nat} (vs:List Nat) (tau:Nat) (hlen:j+vs.length = r) (hk:k < c) {i:Nat} (hi:i < r) :
  cv c (apM r c W j 0 vs tau) r k i = fc ((colL c W 0 r k).take j ++ apV (mV tau (dtV 0 vs ((colL c W 0 r k).drop j))) vs ((colL c W 0 r k).drop j)) i:=by
 have lC:(colL c W 0 r k).length = r:=colL_len _ _ _ _ _
 rw [cv_at _ _ _ _ hi,el_ap r c W j 0 _ _ hi hk,col_drop c W k (by omega)]
 have tl:((colL c W 0 r k).take j).length = j:=by rw [List.length_take,lC];omega
 rcases Nat.lt_or_ge i j with g | g
 ·rw [if_neg (fun e=>by omega),fc_left _ _ i (by omega),fc_take _ j i g]
  exact (cv_at c W r k hi).symm
 ·rw [if_pos ⟨by omega,g,by omega⟩]
  have e1:=fc_right ((colL c W 0 r k).take j) (apV (mV tau (dtV 0 vs (colL c W j (r - j) k))) vs (colL c W j (r - j) k)) (i - j)
  rw [tl,show j+(i - j) = i by omega] at e1
  rw [e1,show r - j = vs.length by omega]
  unfold apL fc
  rfl
theorem q_steps {r c:Nat} {S:List Nat} (r6:r≤6) (hS:Elt (p2 200) r c S) (hm:Mirs r (1 / 8796093022208) (qms r c S (qrN r c))) (hl:(qms r c S (qrN r c)).length≤qrN r c) {i:Nat} (hi:i < r) :
  ∀ t,t≤qrN r c→Steps r (288 / 9007199254740992) (qmr r c S (qrN r c) t) (uv i) (cv r (qrQ r c S (qrN r c) t) r i):=by
 have q6:qrN r c≤6:=by unfold qrN;omega
 intro t
 induction t with
 | zero =>
  intro _ p hp
  rw [cv_at _ _ _ _ hp]
  have e:elM r (eyM r) p i = if i = p then 4607182418800017408 else 0:=el_mk r r _ hp hi
  show uv i p = fQ (elM r (eyM r) p i)
  rw [e]
  unfold uv
  by_cases g:p = i
  ·rw [if_pos g,if_pos g.symm,fQ_one]
  ·rw [if_neg g,if_neg (fun h=>g h.symm),fQ_0]
 | succ t ih =>
  intro ht
  have st:=ih (by omega)
  obtain ⟨j,hj⟩:∃ j,qrN r c - 1 - t = j:=⟨_,rfl⟩
  have hj2:=(qrN_lt r c j).1 (by omega)
  have E:=(hS.qQ r6 t (by omega)).mono (Y:=p2 290) (p2_mono (by omega))
  have hjA:=(hS.qall r6 j (by omega)).1
  have hX:Small (p2 300) (qrX r c S j):=(hjA.col (i:=j) (n:=r - j) (by omega) (by omega)).mono (p2_mono (by omega))
  obtain ⟨c1,c2,c3,c4,c5,c6⟩:=mr_crude (qrX r c S j) (by rw [qrX_len];omega) hX
  have eQ:qrQ r c S (qrN r c) (t+1) = apM r r (qrQ r c S (qrN r c) t) (qrN r c - 1 - t) 0 (mrV (qrX r c S (qrN r c - 1 - t))) (mrT (qrX r c S (qrN r c - 1 - t))):=rfl
  have lV:j+(mrV (qrX r c S j)).length = r:=by rw [mrV_len,qrX_len];omega
  have lC:(colL r (qrQ r c S (qrN r c) t) 0 r i).length = r:=colL_len _ _ _ _ _
  have hC:Small (p2 290) (colL r (qrQ r c S (qrN r c) t) 0 r i):=E.col (i:=0) (n:=r) (by omega) hi
  have hmr:Mirs r (1 / 8796093022208) (qmr r c S (qrN r c) t):=fun m h=>hm m (qmr_mem (by omega) m h)
  have hlr:(qmr r c S (qrN r c) t).length≤6:=by
   have e:=congrArg List.length (qms_split r c S (qrN r c) t (by omega))
   rw [List.length_append,List.length_reverse] at e
   omega
  by_cases hn:ngt (qrX r c S j).tail = true
  ·have em:qmr r c S (qrN r c) (t+1) = qmr r c S (qrN r c) t:=by
    show (if _ then _ else _) = _
    rw [hj,if_pos hn]
   rw [em,eQ,hj]
   refine steps_end r _ _ _ _ _ st (fun p hp=>?_)
   rw [cv_ap _ _ _ lV hi hp]
   have eT:mrT (qrX r c S j) = 0:=by
    cases hq:qrX r c S j with
    | nil=>rfl
    | cons a xs =>
     rw [hq] at hn
     exact if_pos hn
   rw [eT]
   exact (col_none j _ _ (by omega) (by rw [lC];exact lV) c4 hC (by rw [lC];exact hp)).symm
  ·have em:qmr r c S (qrN r c) (t+1) = qmr r c S (qrN r c) t ++ [(vl j (mrV (qrX r c S j)),fQ (mrT (qrX r c S j)))]:=by
    show (if _ then _ else _) = _
    rw [hj,if_neg hn]
   rw [em,eQ,hj]
   have P0:=p2_mono (show (0:Int)≤62 by decide)
   rw [p2_0] at P0
   have b:=steps_bd hmr hlr st ((uv_bd r i hi).mono P0)
   have P:=p2_pos 62
   have p900:16 * p2 62≤p2 900:=by
    have h1:=p2_mono (show (62+1+1+1+1:Int)≤900 by decide)
    simp only [p2_succ] at h1
    grind
   have s2:s1Q ((colL r (qrQ r c S (qrN r c) t) 0 r i).drop j)≤p2 900:=by
    have k:=s1_bd (colL r (qrQ r c S (qrN r c) t) 0 r i) j (by omega) _ (by rw [lC];exact b)
    grind
   have s3:∀ a,Bd (colL r (qrQ r c S (qrN r c) t) 0 r i).length (fc (colL r (qrQ r c S (qrN r c) t) 0 r i)) a→1267650600228229401496703205376 * p2 (-1075)≤a:=fun a ha=>by
    rw [lC] at ha
    have lo:=steps_low (by grind) (by grind) (by grind) _ _ _ a hmr st ha
    have k:=lo.at hi
    unfold uv at k
    rw [if_pos rfl,show ab (1:Rat) = 1 by unfold ab;grind] at k
    have p6:=p2_mono (show (((qmr r c S (qrN r c) t).length:Nat):Int)≤6 by omega)
    have m:=Rat.mul_le_mul_of_nonneg_left p6 ha.1
    have e64:p2 6 = 64:=by rw [show (6:Int) = ((6:Nat):Int) by rfl,p2_nat];rfl
    have et:=eta_p2 (-30) (by decide)
    have e:1073741824 * p2 (-30) = 1:=by have:=p2_upW (-30) 30;rw [show (-30:Int)+((30:Nat):Int) = 0 by rfl,p2_0] at this;have e2:((2 ^ 30:Nat):Rat) = 1073741824:=rfl;rw [e2] at this;exact this.symm
    rw [e64] at m
    grind
   obtain ⟨_,_,f3⟩:=col_stepA j (mrT (qrX r c S j)) (mrV (qrX r c S j)) (colL r (qrQ r c S (qrN r c) t) 0 r i) (by omega) (by rw [lC];exact lV) c2 c3 c4 (fun y hy=>(hC y hy).2.1) s2 (.inr s3)
   rw [lC] at f3
   refine steps_end r _ _ _ _ _ (steps_snoc r _ (vl j (mrV (qrX r c S j)),fQ (mrT (qrX r c S j))) _ _ _ _ st f3) (fun p hp=>?_)
   exact (cv_ap _ _ _ lV hi hp).symm
theorem q_near {r c:Nat} {S:List Nat} (r6:r≤6) (hS:Elt (p2 200) r c S) (hm:Mirs r (1 / 8796093022208) (qms r c S (qrN r c))) (hl:(qms r c S (qrN r c)).length≤qrN r c) {i:Nat} (hi:i < r) :
  Bd r (cv r (facQ r c S) r i) (1001 / 1000)∧Bd r (fun p=>cv r (facQ r c S) r i p+(-1) * bakM r (qms r c S (qrN r c)) (uv i) p) (1730 / 9007199254740992):=by
 have q6:qrN r c≤6:=by unfold qrN;omega
 have st:=q_steps r6 hS hm hl hi (qrN r c) (Nat.le_refl _)
 have hmr:Mirs r (1 / 8796093022208) (qmr r c S (qrN r c) (qrN r c)):=fun m h=>hm m (qmr_mem (Nat.le_refl _) m h)
 have hlr:(qmr r c S (qrN r c) (qrN r c)).length≤6:=by
  have e:=congrArg List.length (qms_back r c S (qrN r c))
  rw [List.length_reverse] at e
  omega
 have b1:=steps_bd hmr hlr st (uv_bd r i hi)
 have b2:=steps_err _ _ _ 1 hmr st (uv_bd r i hi)
 refine ⟨b1.mono (by grind),?_⟩
 have e:runM r (qmr r c S (qrN r c) (qrN r c)) (uv i) = bakM r (qms r c S (qrN r c)) (uv i):=by
  rw [← qms_back r c S (qrN r c),← run_reverse,List.reverse_reverse]
 rw [e] at b2
 refine b2.mono ?_
 have e1:=er_six _ hlr
 have hk2:((qmr r c S (qrN r c) (qrN r c)).length:Rat)≤6:=Rat.natCast_le_natCast.2 hlr
 generalize er (1 / 8796093022208) (288 / 9007199254740992) (qmr r c S (qrN r c) (qrN r c)).length = E at *
 grind
end Go.Proofs.YtdhmglmccafbnaaGreatDoor
namespace Go.Proofs.YtdhmglmccafbnaaGreatDoor
open Go.RowKit
theorem sbV_snoc:∀ (rs xs:List Nat) (s r x:Nat),rs.length = xs.length→sbV s (rs ++ [r]) (xs ++ [x]) = aV (sbV s rs xs) (fN (mV r x))
 | [],[],_,_,_,_=>rfl
 | [],_ :: _,_,_,_,h=>by simp at h
 | _ :: _,[],_,_,_,h=>by simp at h
 | a :: rs,b :: xs,s,r,x,h=>by
  show sbV _ (rs ++ [r]) (xs ++ [x]) = aV (sbV _ rs xs) _
  exact sbV_snoc rs xs _ r x (by simpa using h)
theorem trS_sb (T:Nat→Nat→Nat) (X:Nat→Nat) (i s:Nat):∀ q,trS T X dnU i s (i+1+q) = sbV s (rwV T i q) ((List.range q).map (fun p=>X (i+1+p))):=by
 intro q
 induction q with
 | zero =>
  rw [Nat.add_zero,trS_none T X dnU i s (i+1) (fun p hp=>decide_eq_false (by omega))]
  rfl
 | succ q ih =>
  show (if dnU i (i+1+q) = true then aV (trS T X dnU i s (i+1+q)) (fN (mV (T i (i+1+q)) (X (i+1+q)))) else trS T X dnU i s (i+1+q)) = _
  rw [if_pos (show dnU i (i+1+q) = true from decide_eq_true (show i < i+1+q by omega)),ih]
  unfold rwV
  rw [List.range_succ,List.map_append,List.map_append]
  exact (sbV_snoc _ _ s _ _ (by simp)).symm
theorem up_xs (n:Nat) (T:Nat→Nat→Nat) (b:Nat→Nat):∀ m,m≤n→∀ i,i < n→trX n T b (fun m=>n - 1 - m) dnU m i = if n - m≤i then (xsV n T b m).getD (i - (n - m)) 0 else 0:=by
 intro m
 induction m with
 | zero=>intro _ i hi;rw [if_neg (by omega)];rfl
 | succ m ih =>
  intro hm i hi
  have i1:=ih (by omega)
  show (if i = n - 1 - m then _ else _) = _
  by_cases g:i = n - 1 - m
  ·rw [if_pos g,if_pos (by omega)]
   have e:(xsV n T b (m+1)).getD (i - (n - (m+1))) 0 = dV (sbV (b (n - m - 1)) (rwV T (n - m - 1) m) (xsV n T b m)) (T (n - m - 1) (n - m - 1)):=by
    rw [show i - (n - (m+1)) = 0 by omega]
    rfl
   rw [e,show n - m - 1 = n - 1 - m by omega]
   have hs:=trS_sb T (trX n T b (fun m=>n - 1 - m) dnU m) (n - 1 - m) (b (n - 1 - m)) m
   rw [show n - 1 - m+1+m = n by omega] at hs
   rw [hs]
   congr 2
   refine List.ext_getElem (by rw [List.length_map,List.length_range,xs_len]) (fun p h1 h2=>?_)
   rw [List.length_map,List.length_range] at h1
   rw [List.getElem_map,List.getElem_range,i1 (n - 1 - m+1+p) (by omega),if_pos (by omega),show n - 1 - m+1+p - (n - m) = p by omega,List.getD_eq_getElem?_getD,List.getElem?_eq_getElem h2]
   rfl
  ·rw [if_neg g,i1 i hi]
   by_cases g2:n - m≤i
   ·rw [if_pos g2,if_pos (by omega)]
    have e:(xsV n T b (m+1)).getD (i - (n - (m+1))) 0 = (xsV n T b m).getD (i - (n - (m+1)) - 1) 0:=by
     obtain ⟨p,hp⟩:∃ p,i - (n - (m+1)) = p+1:=⟨i - (n - (m+1)) - 1,by omega⟩
     rw [hp]
     rfl
    rw [e,show i - (n - (m+1)) - 1 = i - (n - m) by omega]
   ·rw [if_neg g2,if_neg (by omega)]
theorem up_at {n q:Nat} (R B:List Nat) {i k:Nat} (hi:i < n) (hk:k < q):elM q (upM n q R B) i k = (xsV n (elM n R) (fun p=>elM q B p k) n).getD i 0:=by
 unfold upM trM
 rw [el_mk n q _ hi hk,up_xs n _ _ n (Nat.le_refl n) i hi,if_pos (by omega),show i - (n - n) = i by omega]
def sdM (r c q:Nat) (S B:List Nat):List Nat:=muM c r q (tuM r c (paM r (facQ r c S) 0 0 r c)) B
def lsR (r c:Nat) (S:List Nat):List Nat:=paM c (facR r c S) 0 0 c c
def lsM (r c q:Nat) (S B:List Nat):List Nat:=upM c q (lsR r c S) (sdM r c q S B)
theorem lsR_at {r c:Nat} (S:List Nat) {i k:Nat} (hi:i < c) (hk:k < c):elM c (lsR r c S) i k = elM c (facR r c S) i k:=by
 unfold lsR paM
 rw [el_mk c c _ hi hk,Nat.zero_add,Nat.zero_add]
theorem dtf_dtV:∀ (n:Nat) (x y:Nat→Nat),dtf n x y = dtV 0 ((List.range n).map x) ((List.range n).map y):=by
 have snoc:∀ (xs ys:List Nat) (s a b:Nat),xs.length = ys.length→dtV s (xs ++ [a]) (ys ++ [b]) = aV (dtV s xs ys) (mV a b):=by
  intro xs
  induction xs with
  | nil=>intro ys s a b h;cases ys with | nil=>rfl | cons y ys=>simp at h
  | cons x xs ih=>intro ys s a b h;cases ys with
   | nil=>simp at h
   | cons y ys=>exact ih ys _ a b (by simpa using h)
 intro n x y
 induction n with
 | zero=>rfl
 | succ n ih =>
  rw [List.range_succ,List.map_append,List.map_append]
  show aV (dtf n x y) (mV (x n) (y n)) = _
  rw [ih]
  exact (snoc _ _ 0 _ _ (by simp)).symm
theorem sd_at {r c q:Nat} (S B:List Nat) (_hcr:c≤r) {i k:Nat} (hi:i < c) (hk:k < q):elM q (sdM r c q S B) i k = dtV 0 (colL r (facQ r c S) 0 r i) (colL q B 0 r k):=by
 unfold sdM muM
 rw [el_mk c q _ hi hk,dtf_dtV]
 have e1:(List.range r).map (fun j=>elM r (tuM r c (paM r (facQ r c S) 0 0 r c)) i j) = colL r (facQ r c S) 0 r i:=by
  unfold colL
  refine List.map_congr_left (fun p hp=>?_)
  have:=List.mem_range.1 hp
  unfold tuM paM
  rw [el_mk c r _ hi this,el_mk r c _ this hi,Nat.zero_add,Nat.zero_add]
 have e2:(List.range r).map (fun j=>elM q B j k) = colL q B 0 r k:=by
  unfold colL
  exact List.map_congr_left (fun p _=>by rw [Nat.zero_add])
 rw [e1,e2]
def Tam60 (r c:Nat) (S:List Nat):Prop:=Elt (p2 60) r c S∧∀ p q,p < r→q < c→fQ (elM c S p q) = 0 ∨ p2 (-60)≤ab (fQ (elM c S p q))
theorem Tam60.bd {r c:Nat} {S:List Nat} (h:Tam60 r c S) (r6:r≤6) {k:Nat} (hk:k < c):Bd r (cv c S r k) (p2 62):=by
 have P:=p2_pos 60
 have e:4 * p2 60 = p2 62:=by rw [show (62:Int) = 60+((2:Nat):Int) by rfl,p2_upW];rfl
 exact (bd_points r r6 _ (p2 60) (Rat.le_of_lt P) (fun i hi=>by rw [cv_at _ _ _ _ hi];exact (h.1 i k hi hk).2.2)).mono (by grind)
theorem Tam60.low {r c:Nat} {S:List Nat} (h:Tam60 r c S) {k:Nat} (hk:k < c):(∀ i,i < r→cv c S r k i = 0) ∨ ∃ i,i < r∧p2 (-60)≤ab (cv c S r k i):=by
 by_cases g:∃ i,i < r∧p2 (-60)≤ab (cv c S r k i)
 ·exact .inr g
 ·refine .inl (fun i hi=>?_)
  rcases h.2 i k hi hk with e | e
  ·rw [cv_at _ _ _ _ hi];exact e
  ·exact absurd ⟨i,hi,by rw [cv_at _ _ _ _ hi];exact e⟩ g
theorem Tam60.cols {r c:Nat} {S:List Nat} (h:Tam60 r c S) (r6:r≤6):Cols r c (fun k=>cv c S r k):=⟨r6,fun _ hk=>h.bd r6 hk,fun _ hk=>h.low hk⟩
theorem xsV_congr {c:Nat} {R R':Nat→Nat→Nat} {d d':Nat→Nat} (hR:∀ i k,i≤k→k < c→R i k = R' i k) (hd:∀ i,i < c→d i = d' i):∀ m,m≤c→xsV c R d m = xsV c R' d' m:=by
 intro m
 induction m with
 | zero=>intro _;rfl
 | succ m ih =>
  intro hm
  show dV (sbV (d (c - m - 1)) (rwV R (c - m - 1) m) (xsV c R d m)) (R (c - m - 1) (c - m - 1)) :: xsV c R d m = dV (sbV (d' (c - m - 1)) (rwV R' (c - m - 1) m) (xsV c R' d' m)) (R' (c - m - 1) (c - m - 1)) :: xsV c R' d' m
  have e:rwV R (c - m - 1) m = rwV R' (c - m - 1) m:=List.map_congr_left (fun q hq=>by
   have:=List.mem_range.1 hq
   exact hR _ _ (by omega) (by omega))
  rw [ih (by omega),e,hd _ (by omega),hR _ _ (Nat.le_refl _) (by omega)]
theorem lin_congr {c:Nat} {A:Nat→Nat→Rat} {x y:Nat→Rat} (h:∀ k,k < c→x k = y k) (i:Nat):lin c A x i = lin c A y i:=sm_congr (fun k hk=>by rw [h k hk])
theorem least_tri {r c q:Nat} {S B:List Nat} (r6:r≤6) (hcr:c≤r) (hS:Tam60 r c S) (hB:Tam60 r q B) (hd:∀ j,j < c→p2 (-101)≤ab (fQ (elM c (facR r c S) j j))) {k:Nat} (hk:k < q) :
  Fac r c (fun k=>cv c S r k) (qms r c S (qrN r c)) (fun k=>colL c (facR r c S) 0 r k) (qrN r c) ∧
  Tri c (fun i l=>(colL c (facR r c S) 0 r l).getD i 0) (fun p=>elM q (sdM r c q S B) p k) ∧
  (∀ β,Bd r (cv q B r k) β→p2 (-900)≤β→β≤p2 900→∀ i,i < c→ab (fQ (elM q (sdM r c q S B) i k) - runM r (qms r c S (qrN r c)) (cv q B r k) i)≤1760 / 9007199254740992 * β) ∧
  ((∀ i,i < r→cv q B r k i = 0)→∀ i,i < c→fQ (elM q (sdM r c q S B) i k) = 0):=by
 have q6:qrN r c≤6:=by unfold qrN;omega
 have hE:Elt (p2 200) r c S:=hS.1.mono (p2_mono (by decide))
 have hC:=hS.cols r6
 have F:=fac_qr r6 hE hC (qrN r c) (Nat.le_refl _) (fun j hj=>by rw [← diag_mir r c S hj];exact hd j (by have:=(qrN_lt r c j).1 hj;omega)) (qrN r c) (Nat.le_refl _)
 have hl:=F.len
 have eF:qrR r c S (qrN r c) = facR r c S:=rfl
 rw [eF] at F
 have ER:Elt (p2 290) r c (facR r c S):=(hE.qall r6 (qrN r c) (Nat.le_refl _)).1.mono (p2_mono (by omega))
 have EQ:Elt (p2 290) r r (facQ r c S):=(hE.qQ r6 (qrN r c) (Nat.le_refl _)).mono (p2_mono (by omega))
 have P60:=p2_pos 60
 have e62:4 * p2 60 = p2 62:=by rw [show (62:Int) = 60+((2:Nat):Int) by rfl,p2_upW];rfl
 have bb:=bd_points r r6 (cv q B r k) (p2 60) (Rat.le_of_lt P60) (fun i hi=>by rw [cv_at _ _ _ _ hi];exact (hB.1 i k hi hk).2.2)
 have big:16 * p2 60≤p2 900∧p2 (-900)≤p2 60:=by
  have h1:=p2_mono (show (60+1+1+1+1:Int)≤900 by decide)
  simp only [p2_succ] at h1
  exact ⟨by grind,p2_mono (by decide)⟩
 have dat:∀ i,i < c→elM q (sdM r c q S B) i k = dtV 0 (colL r (facQ r c S) 0 r i) (colL q B 0 r k):=fun i hi=>sd_at S B hcr hi hk
 have dlt:∀ i,i < c→elM q (sdM r c q S B) i k < 18446744073709551616:=fun i hi=>by
  unfold sdM muM
  rw [el_mk c q _ hi hk]
  exact dtf_lt _ _ _
 have side:∀ β,Bd r (cv q B r k) β→p2 (-900)≤β→β≤p2 900→∀ i,i < c→fFin (elM q (sdM r c q S B) i k) = true∧ab (fQ (elM q (sdM r c q S B) i k) - runM r (qms r c S (qrN r c)) (cv q B r k) i)≤1760 / 9007199254740992 * β:=fun β hβ b1 b2 i hi=>by
  obtain ⟨n1,n2⟩:=q_near r6 hE F.mirs hl (show i < r by omega)
  rw [dat i hi]
  exact q_side r r6 (qms r c S (qrN r c)) (colL r (facQ r c S) 0 r i) (colL q B 0 r k) i (by omega) (colL_len _ _ _ _ _) (fun x hx=>(EQ.col (i:=0) (n:=r) (by omega) (show i < r by omega) x hx).2.1) n1 n2 (colL_len _ _ _ _ _) (fun x hx=>(hB.1.col (i:=0) (n:=r) (by omega) hk x hx).2.1) β hβ b1 b2
 have gm:=gw_six _ (show (qms r c S (qrN r c)).length≤6 by omega)
 refine ⟨F,⟨by omega,fun i hi=>?_,fun i l hil hlc=>?_,fun i hi=>?_⟩,fun β hβ b1 b2 i hi=>(side β hβ b1 b2 i hi).2,fun h0 i hi=>?_⟩
 ·obtain ⟨s1,s2⟩:=side _ bb (by grind) (by grind) i hi
  refine ⟨dlt i hi,s1,?_⟩
  have rb:=(run_bd (qms r c S (qrN r c)) (cv q B r k) _ F.mirs bb).at (show i < r by omega)
  have l1:=le_ab (fQ (elM q (sdM r c q S B) i k) - runM r (qms r c S (qrN r c)) (cv q B r k) i);have l2:=le_ab (runM r (qms r c S (qrN r c)) (cv q B r k) i)
  have tt:=ab_le (x:=fQ (elM q (sdM r c q S B) i k)) (y:=ab (fQ (elM q (sdM r c q S B) i k) - runM r (qms r c S (qrN r c)) (cv q B r k) i)+ab (runM r (qms r c S (qrN r c)) (cv q B r k) i)) (by grind) (by grind)
  have m:=Rat.mul_le_mul_of_nonneg_right gm (Rat.le_of_lt P60)
  generalize gw (1 / 8796093022208) (qms r c S (qrN r c)).length = G at *
  have e1:G * (5 / 2 * p2 60) = 5 / 2 * (G * p2 60):=by grind
  rw [e1] at rb
  have e2:1000000 * G * p2 60 = 1000000 * (G * p2 60):=by grind
  rw [e2] at m
  generalize G * p2 60 = z at *
  grind
 ·have ba:=bd_points r r6 (cv c S r l) (p2 60) (Rat.le_of_lt P60) (fun i hi=>by rw [cv_at _ _ _ _ hi];exact (hS.1 i l hi hlc).2.2)
  have f:=(F.final hC q6 (fun k hk hjk=>by unfold qrN at hjk;omega) l hlc _ ba).1
  have rb:=run_bd (qms r c S (qrN r c)) (cv c S r l) _ F.mirs ba
  have tb:=((f.add rb).congr (fun i _=>(by grind:(fc (colL c (facR r c S) 0 r l) i+(-1) * runM r (qms r c S (qrN r c)) (cv c S r l) i)+runM r (qms r c S (qrN r c)) (cv c S r l) i = fc (colL c (facR r c S) 0 r l) i))).at (show i < r by omega)
  have ec:(colL c (facR r c S) 0 r l).getD i 0 = elM c (facR r c S) i l:=by
   rw [colL_at c _ 0 r l (by omega),Nat.zero_add]
  refine ⟨by rw [ec];exact (ER i l (by omega) hlc).1,by rw [ec];exact (ER i l (by omega) hlc).2.1,?_⟩
  show ab (fc (colL c (facR r c S) 0 r l) i)≤_
  have m:=Rat.mul_le_mul_of_nonneg_right gm (Rat.le_of_lt P60)
  generalize gw (1 / 8796093022208) (qms r c S (qrN r c)).length = G at *
  have e1:G * (5 / 2 * p2 60) = 5 / 2 * (G * p2 60):=by grind
  rw [e1] at tb
  have e2:1000000 * G * p2 60 = 1000000 * (G * p2 60):=by grind
  rw [e2] at m
  generalize G * p2 60 = z at *
  grind
 ·show p2 (-101)≤ab (fQ ((colL c (facR r c S) 0 r i).getD i 0))
  rw [colL_at c _ 0 r i (by omega),Nat.zero_add]
  exact hd i hi
 ·rw [dat i hi]
  refine (dot_noughts _ _ 0 (by decide) fQ_0 (fun x hx=>(EQ.col (i:=0) (n:=r) (by omega) (show i < r by omega) x hx).2.1) (fun y hy=>⟨(hB.1.col (i:=0) (n:=r) (by omega) hk y hy).2.1,?_⟩)).2
  obtain ⟨p,hp,rfl⟩:=List.mem_map.1 hy
  have hp2:=List.mem_range.1 hp
  have:=h0 p hp2
  rw [cv_at _ _ _ _ hp2] at this
  rw [Nat.zero_add]
  exact this
theorem ls_at {r c q:Nat} (S B:List Nat) (hcr:c≤r) {i k:Nat} (hi:i < c) (hk:k < q):fQ (elM q (lsM r c q S B) i k) = fc (xsV c (fun i l=>(colL c (facR r c S) 0 r l).getD i 0) (fun p=>elM q (sdM r c q S B) p k) c) i:=by
 unfold lsM
 rw [up_at _ _ hi hk]
 unfold fc
 rw [xsV_congr (R:=elM c (lsR r c S)) (R':=fun i l=>(colL c (facR r c S) 0 r l).getD i 0) (fun i l hil hl=>by
  rw [lsR_at S (by omega) hl,colL_at c _ 0 r l (by omega),Nat.zero_add]) (fun _ _=>rfl) c (Nat.le_refl c)]
theorem least_col {r c q:Nat} {S B:List Nat} (r6:r≤6) (hcr:c≤r) (hS:Tam60 r c S) (hB:Tam60 r q B) (hd:∀ j,j < c→p2 (-101)≤ab (fQ (elM c (facR r c S) j j))) {k:Nat} (hk:k < q) :
  1180591620717411303424 * sm c (fun l=>dt r (cv c S r l) (fun i=>cv q B r k i+(-1) * lin c (fun l=>cv c S r l) (fun i=>fQ (elM q (lsM r c q S B) i k)) i) * dt r (cv c S r l) (fun i=>cv q B r k i+(-1) * lin c (fun l=>cv c S r l) (fun i=>fQ (elM q (lsM r c q S B) i k)) i))
   ≤ sm c (fun l=>dt r (cv c S r l) (cv c S r l)) * (sm c (fun l=>dt r (cv c S r l) (cv c S r l)) * sm c (fun i=>fQ (elM q (lsM r c q S B) i k) * fQ (elM q (lsM r c q S B) i k))+dt r (cv q B r k) (cv q B r k)):=by
 have q6:qrN r c≤6:=by unfold qrN;omega
 have hC:=hS.cols r6
 obtain ⟨F,hT,hside,hz⟩:=least_tri r6 hcr hS hB hd hk
 have hl:=F.len
 obtain ⟨x,hx⟩:∃ x,fc (xsV c (fun i l=>(colL c (facR r c S) 0 r l).getD i 0) (fun p=>elM q (sdM r c q S B) p k) c) = x:=⟨_,rfl⟩
 have xat:∀ i,i < c→fQ (elM q (lsM r c q S B) i k) = x i:=fun i hi=>by rw [ls_at S B hcr hi hk,hx]
 have e1:∀ i,lin c (fun l=>cv c S r l) (fun i=>fQ (elM q (lsM r c q S B) i k)) i = lin c (fun l=>cv c S r l) x i:=fun i=>lin_congr xat i
 have e2:sm c (fun i=>fQ (elM q (lsM r c q S B) i k) * fQ (elM q (lsM r c q S B) i k)) = dt c x x:=sm_congr (fun i hi=>by rw [xat i hi])
 rw [e2]
 have e3:(fun i=>cv q B r k i+(-1) * lin c (fun l=>cv c S r l) (fun i=>fQ (elM q (lsM r c q S B) i k)) i) = fun i=>cv q B r k i+(-1) * lin c (fun l=>cv c S r l) x i:=by
  funext i
  rw [e1 i]
 rw [e3]
 rcases hB.low hk with h0 | hlow
 ·have hxz:=tri_noughts hT (fun i hi=>hz h0 i hi) c (Nat.le_refl c)
  have x0:∀ i,x i = 0:=fun i=>by
   rw [← hx]
   unfold fc
   by_cases g:i < (xsV c (fun i l=>(colL c (facR r c S) 0 r l).getD i 0) (fun p=>elM q (sdM r c q S B) p k) c).length
   ·rw [List.getD_eq_getElem?_getD,List.getElem?_eq_getElem g]
    exact (hxz _ (List.getElem_mem g)).2
   ·rw [List.getD_eq_getElem?_getD,List.getElem?_eq_none (by omega)]
    exact fQ_0
  have g0:∀ l,l < c→dt r (cv c S r l) (fun i=>cv q B r k i+(-1) * lin c (fun l=>cv c S r l) x i) = 0:=fun l _=>by
   refine sm_noughts _ _ (fun i hi=>?_)
   have:lin c (fun l=>cv c S r l) x i = 0:=sm_noughts _ _ (fun p _=>by rw [x0 p];grind)
   show cv c S r l i * (cv q B r k i+(-1) * lin c (fun l=>cv c S r l) x i) = 0
   rw [h0 i hi,this]
   grind
  rw [sm_noughts c _ (fun l hl=>by rw [g0 l hl];grind)]
  have s1:0≤sm c (fun l=>dt r (cv c S r l) (cv c S r l)):=sm_nonneg (fun l _=>dt_sq r _)
  have s2:=dt_sq c x
  have s3:=dt_sq r (cv q B r k)
  have m:=Rat.mul_nonneg s1 s2
  have m2:=Rat.mul_nonneg s1 (show 0≤sm c (fun l=>dt r (cv c S r l) (cv c S r l)) * dt c x x+dt r (cv q B r k) (cv q B r k) by grind)
  grind
 ·exact least_square hC hcr F.mirs (by omega) (fun l hl2 y hy=>(F.final hC q6 (fun k hk hjk=>by unfold qrN at hjk;omega) l hl2 y hy).1) (fun l i hl2 hli hi=>(F.final hC q6 (fun k hk hjk=>by unfold qrN at hjk;omega) l hl2 _ (hC.size l hl2)).2 i hi hli) (hB.bd r6 hk) hlow hside hT x hx.symm
theorem ls_fin {r c q:Nat} {S B:List Nat} (r6:r≤6) (hcr:c≤r) (hS:Tam60 r c S) (hB:Tam60 r q B) (hd:∀ j,j < c→p2 (-101)≤ab (fQ (elM c (facR r c S) j j))):∀ i k,i < c→k < q→fFin (elM q (lsM r c q S B) i k) = true:=by
 intro i k hi hk
 obtain ⟨F,hT,hside,hz⟩:=least_tri r6 hcr hS hB hd hk
 obtain ⟨t1,_⟩:=tri_all hT c (Nat.le_refl c)
 unfold lsM
 rw [up_at _ _ hi hk,xsV_congr (R:=elM c (lsR r c S)) (R':=fun i l=>(colL c (facR r c S) 0 r l).getD i 0) (fun i l hil hl=>by
  rw [lsR_at S (by omega) hl,colL_at c _ 0 r l (by omega),Nat.zero_add]) (fun _ _=>rfl) c (Nat.le_refl c)]
 have g:i < (xsV c (fun i l=>(colL c (facR r c S) 0 r l).getD i 0) (fun p=>elM q (sdM r c q S B) p k) c).length:=by rw [xs_len];exact hi
 rw [List.getD_eq_getElem?_getD,List.getElem?_eq_getElem g]
 exact (t1 _ (List.getElem_mem g)).2
end Go.Proofs.YtdhmglmccafbnaaGreatDoor
namespace Go.Proofs.YtdhmglmccafbnaaGreatDoor
open Go.RowKit
theorem fR_abs (a:Nat) (fa:fFin a = true):fFin (fR a) = true∧fQ (fR a) = ab (fQ a):=by
 have hr:=fR_fin a fa
 have h1:=mag_fZ (fR a) (fR_lt a)
 have hs:fS (fR a) = false:=decide_eq_false (by have:=fR_lt a;omega)
 refine ⟨?_,?_⟩
 ·unfold fFin fP
  refine decide_eq_true ?_
  omega
 ·rw [fQ_sign,hs,fQ_ab,h1.2.1]
  simp
theorem fQ_ltZ {a b:Nat}:fZ a < fZ b ↔ fQ a < fQ b:=by
 constructor
 ·intro h
  unfold fQ
  exact Rat.mul_lt_mul_of_pos_right (Rat.intCast_lt_intCast.2 h) (p2_pos _)
 ·intro h
  rcases Int.lt_or_le (fZ a) (fZ b) with g | g
  ·exact g
  ·exfalso
   have:=fQ_leZ g
   grind
end Go.Proofs.YtdhmglmccafbnaaGreatDoor
namespace Go.Proofs.YtdhmglmccafbnaaGreatDoor
open Go.RowKit
theorem cO_lt17 {a b:Nat} (ha:fFin a = true) (hb:fFin b = true):cO a b < 0 ↔ fQ a < fQ b:=by
 have h1:=(fin_kind ha).2;have h2:=(fin_kind hb).2
 rw [← fQ_ltZ]
 unfold cO cmpI
 rw [if_neg (fun e=>e.elim h1 h2)]
 repeat' split
 all_goals omega
theorem dg_big {r c:Nat} {S:List Nat} (h:Elt (p2 290) r c S):fFin (bgF 0 (dgL r c S)) = true∧bgF 0 (dgL r c S) < 18446744073709551616∧0≤fQ (bgF 0 (dgL r c S))∧(∀ i,i < r→i < c→ab (fQ (elM c S i i))≤fQ (bgF 0 (dgL r c S)))∧(fQ (bgF 0 (dgL r c S)) = 0 ∨ ∃ i,i < r∧i < c∧ab (fQ (elM c S i i)) = fQ (bgF 0 (dgL r c S))):=by
 have hm:∀ x ∈ dgL r c S,∃ i,i < r∧i < c∧x = elM c S i i:=fun x hx=>by
  obtain ⟨i,hi,rfl⟩:=List.mem_map.1 hx
  have:=List.mem_range.1 hi
  exact ⟨i,by omega,by omega,rfl⟩
 obtain ⟨b1,b2,b3,b4⟩:=bgF_fin (dgL r c S) 0 (by decide) (fun x hx=>by obtain ⟨i,h1,h2,rfl⟩:=hm x hx;exact (h i i h1 h2).2.1)
 obtain ⟨z1,z2,z3⟩:=mag_fZ (bgF 0 (dgL r c S)) (by omega)
 have fb:fFin (bgF 0 (dgL r c S)) = true:=(fK_rungs _).2.2.2 (by rw [z2];exact b1)
 have mag:∀ i,i < r→i < c→ab (fQ (elM c S i i)) = (rv (fR (elM c S i i)):Rat) * p2 (-1074):=fun i _ _=>fQ_ab _
 have gq:fQ (bgF 0 (dgL r c S)) = (rv (bgF 0 (dgL r c S)):Rat) * p2 (-1074):=by
  unfold fQ
  rw [z1]
  rfl
 refine ⟨fb,by omega,fQ_pos _ z3,fun i h1 h2=>?_,?_⟩
 ·rw [mag i h1 h2,gq]
  have k:elM c S i i ∈ dgL r c S:=List.mem_map.2 ⟨i,List.mem_range.2 (by omega),rfl⟩
  have:=rv_mono (b3 _ k)
  exact Rat.mul_le_mul_of_nonneg_right (Rat.natCast_le_natCast.2 this) (Rat.le_of_lt (p2_pos _))
 ·rcases b4 with e | ⟨x,hx,e⟩
  ·left;rw [e];exact fQ_0
  ·obtain ⟨i,h1,h2,rfl⟩:=hm x hx
   right
   refine ⟨i,h1,h2,?_⟩
   rw [mag i h1 h2,gq,e]
theorem ft_iff {r c:Nat} {S:List Nat} (_h:Elt (p2 290) r c S):ftB r c S = false ↔ ∀ i,i < r→i < c→cO (xV (bgF 0 (dgL r c S)) (-40)) (fR (elM c S i i)) < 0:=by
 unfold ftB
 rw [List.any_eq_false]
 constructor
 ·intro g i h1 h2
  have:=g (elM c S i i) (List.mem_map.2 ⟨i,List.mem_range.2 (by omega),rfl⟩)
  unfold ltB at this
  simpa using this
 ·intro g x hx
  obtain ⟨i,hi,rfl⟩:=List.mem_map.1 hx
  have:=List.mem_range.1 hi
  have k:=g i (by omega) (by omega)
  unfold ltB
  simp [k]
theorem e40_17:p2 (-40) * 1099511627776 = 1:=by have:=p2_upW (-40) 40;rw [show (-40:Int)+((40:Nat):Int) = 0 by rfl,p2_0] at this;have e2:((2 ^ 40:Nat):Rat) = 1099511627776:=rfl;rw [e2] at this;grind
theorem ft_bound {r c:Nat} {S:List Nat} (h:Elt (p2 290) r c S):fFin (xV (bgF 0 (dgL r c S)) (-40)) = true∧(p2 (-900)≤fQ (bgF 0 (dgL r c S))→fQ (xV (bgF 0 (dgL r c S)) (-40)) = fQ (bgF 0 (dgL r c S)) * p2 (-40))∧0≤fQ (xV (bgF 0 (dgL r c S)) (-40)):=by
 obtain ⟨g1,g2,g3,g4,g5⟩:=dg_big h
 have p40:=p2_pos (-40)
 have top:fQ (bgF 0 (dgL r c S))≤p2 290:=by
  rcases g5 with e | ⟨i,h1,h2,e⟩
  ·rw [e];exact Rat.le_of_lt (p2_pos _)
  ·rw [← e];exact (h i i h1 h2).2.2
 have aa:ab (fQ (bgF 0 (dgL r c S))) = fQ (bgF 0 (dgL r c S)):=ab_pos g3
 have e290:p2 290 * p2 (-40) < p2 1023:=by
  rw [← p2_add]
  exact p2_lt (by decide)
 have m1:=Rat.mul_le_mul_of_nonneg_right top (Rat.le_of_lt p40)
 have hlt:ab (fQ (bgF 0 (dgL r c S))) * p2 (-40) < p2 1023:=by rw [aa];grind
 have hf:=scale_fin (bgF 0 (dgL r c S)) (-40) g2 g1 hlt
 refine ⟨hf,fun hlo=>?_,?_⟩
 ·refine (scale_exact (bgF 0 (dgL r c S)) (-40) g2 g1 hlt ?_).2
  rw [aa]
  have m2:=Rat.mul_le_mul_of_nonneg_right hlo (Rat.le_of_lt p40)
  have e:p2 (-900) * p2 (-40) = p2 (-940):=by rw [← p2_add];rfl
  have:=p2_mono (show (-1022:Int)≤-940 by decide)
  grind
 ·by_cases k0:fK (bgF 0 (dgL r c S)) = 0
  ·rw [xV_nought _ _ k0];exact g3
  ·have hs:fS (bgF 0 (dgL r c S)) = false:=by
    obtain ⟨b1,_⟩:=bgF_fin (dgL r c S) 0 (by decide) (fun x hx=>by
     obtain ⟨i,hi,rfl⟩:=List.mem_map.1 hx
     have:=List.mem_range.1 hi
     exact (h i i (by omega) (by omega)).2.1)
    exact (mag_fZ _ (by omega)).2.2
   rw [xV_fin _ _ g1 k0]
   refine fQ_pos _ ?_
   have hle:=rnd_le (fD (bgF 0 (dgL r c S))).natAbs (fX (bgF 0 (dgL r c S))+-40)
   rw [fS_wrd _ _ (by omega)]
   exact hs
theorem ft_no {r c:Nat} {S:List Nat} (h:Elt (p2 290) r c S) (hf:ftB r c S = false) {i j:Nat} (hi:i < r) (hic:i < c) (hj:j < r) (hjc:j < c) (hlo:p2 (-900)≤ab (fQ (elM c S j j))):ab (fQ (elM c S j j)) < 1099511627776 * ab (fQ (elM c S i i)):=by
 obtain ⟨g1,g2,g3,g4,g5⟩:=dg_big h
 obtain ⟨b1,b2,b3⟩:=ft_bound h
 have k:=(ft_iff h).1 hf i hi hic
 obtain ⟨f1,f2⟩:=fR_abs _ (h i i hi hic).2.1
 rw [cO_lt17 b1 f1,f2,b2 (Rat.le_trans hlo (g4 j hj hjc))] at k
 have e:=e40_17
 have:=g4 j hj hjc
 have p40:=p2_pos (-40)
 have m:=Rat.mul_le_mul_of_nonneg_right this (Rat.le_of_lt p40)
 clear h hf g1 g2 g3 g4 g5 b1 b2 b3 f1 f2 hlo this hi hic hj hjc
 have e2:ab (fQ (elM c S j j)) * p2 (-40) * 1099511627776 = ab (fQ (elM c S j j)):=by rw [Rat.mul_assoc,e,Rat.mul_one]
 generalize ab (fQ (elM c S j j)) = D at *
 generalize ab (fQ (elM c S i i)) = I at *
 generalize fQ (bgF 0 (dgL r c S)) = B at *
 generalize p2 (-40) = p at *
 grind
theorem ft_pos {r c:Nat} {S:List Nat} (h:Elt (p2 290) r c S) (hf:ftB r c S = false) {i:Nat} (hi:i < r) (hic:i < c):0 < ab (fQ (elM c S i i)):=by
 obtain ⟨b1,b2,b3⟩:=ft_bound h
 have k:=(ft_iff h).1 hf i hi hic
 obtain ⟨f1,f2⟩:=fR_abs _ (h i i hi hic).2.1
 rw [cO_lt17 b1 f1,f2] at k
 grind
end Go.Proofs.YtdhmglmccafbnaaGreatDoor
namespace Go.Proofs.YtdhmglmccafbnaaGreatDoor
open Go.RowKit
theorem dep_zero {r c:Nat} {S:List Nat} (h:Elt (p2 200) r c S) (hr:0 < r) (hc:0 < c) (hd:∀ i,i < r→fQ (elM c S i 0) = 0):fQ (elM c (facR r c S) 0 0) = 0:=by
 by_cases hq:0 < qrN r c
 ·rw [diag_mir r c S hq]
  have lX:(qxL r c S 0).length = r:=by rw [qxL_len];rfl
  have hX:Small (p2 200) (qxL r c S 0):=h.col (i:=0) (n:=r - 0) (by omega) hc
  have hz:∀ x ∈ qxL r c S 0,fQ x = 0:=by
   intro x hx
   obtain ⟨p,hp,rfl⟩:=List.mem_map.1 hx
   have hp2:=List.mem_range.1 hp
   rw [Nat.zero_add]
   exact hd p (by omega)
  show fQ (mrB (qxL r c S 0)) = 0
  cases hq:qxL r c S 0 with
  | nil=>exact fQ_0
  | cons a xs =>
   rw [hq] at hX hz
   have hn:ngt xs = true:=List.all_eq_true.2 (fun x hx=>decide_eq_true (fK_0_of (hX x (List.mem_cons_of_mem _ hx)).1 (hX x (List.mem_cons_of_mem _ hx)).2.1 (hz x (List.mem_cons_of_mem _ hx))))
   have e:mrB (a :: xs) = a:=if_pos hn
   rw [e]
   exact hz a List.mem_cons_self
 ·have e:qrN r c = 0:=by omega
  unfold facR
  rw [e]
  exact hd 0 hr
end Go.Proofs.YtdhmglmccafbnaaGreatDoor
