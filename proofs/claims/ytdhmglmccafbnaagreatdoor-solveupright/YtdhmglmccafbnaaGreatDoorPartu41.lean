/- Part 41 of the texts. -/
import Derived.Test.YtdhmglmccafbnaaGreatDoorPartu40
import Derived.Test.YtdhmglmccafbnaaGreatDoorPartu36
import Derived.Test.YtdhmglmccafbnaaGreatDoorPartu35
import Derived.Test.YtdhmglmccafbnaaGreatDoorPartu34
import Derived.Test.YtdhmglmccafbnaaGreatDoorPartu28
import Derived.Test.YtdhmglmccafbnaaGreatDoorPartu22
import Derived.Test.YtdhmglmccafbnaaGreatDoorPartu25
import Derived.Test.YtdhmglmccafbnaaGreatDoorPartu23
import Derived.Test.YtdhmglmccafbnaaGreatDoorPartu20
import Derived.Test.YtdhmglmccafbnaaGreatDoorPartu31
import Derived.Test.YtdhmglmccafbnaaGreatDoorPartu26
import Derived.Test.YtdhmglmccafbnaaGreatDoorPartu33
import Derived.Test.YtdhmglmccafbnaaGreatDoorPartu32
import Derived.Deep.RegionWith
import Derived.Test.YtdhmglmccafbnaaGreatDoorChecked
import Derived.Test.YtdhmglmccafbnaaGreatDoorPartu01
import Derived.ProofKit
import Derived.SizedLaws
import Derived.Lib.SmallJoins
import Derived.Test.YtdhmglmccafbnaaGreatDoorRows
import Derived.Test.YtdhmglmccafbnaaGreatDoorPartu08
import Derived.Lib.LaidTab
import Derived.OpenShut
import Derived.Deep.DeepHandedRow
import Derived.Test.YtdhmglmccafbnaaGreatDoorPartu21
namespace Go.Proofs.YtdhmglmccafbnaaGreatDoor
open Go.RowKit
theorem two_pow_ex (n:Nat):∃ K:Nat,2 ^ n = K∧0 < K:=⟨2 ^ n,rfl,Nat.pow_pos (by decide)⟩
end Go.Proofs.YtdhmglmccafbnaaGreatDoor
namespace Go.Proofs.YtdhmglmccafbnaaGreatDoor
open Go.RowKit
theorem smI_cast (f:Nat→Int):∀ n,((smI f n:Int):Rat) = sm n (fun i=>((f i:Int):Rat))
 | 0=>rfl
 | n+1=>by
  show ((smI f n+f n:Int):Rat) = sm n _+_
  rw [Rat.intCast_add,smI_cast f n]
theorem sm_mulr (n:Nat) (c:Rat) (f:Nat→Rat):sm n (fun i=>f i * c) = sm n f * c:=by
 rw [Rat.mul_comm,← sm_mul]
 exact sm_congr (fun i _=>Rat.mul_comm _ _)
theorem sm_neg17 (n:Nat) (f:Nat→Rat):sm n (fun i=>-(f i)) = -(sm n f):=by
 have h:=sm_mul n (-1) f
 rw [show -(sm n f) = (-1) * sm n f by grind,← h]
 exact sm_congr (fun i _=>by grind)
theorem le_of_eq17 {a b:Rat} (h:a = b):a≤b:=h ▸ Rat.le_refl
theorem two_cast {n K:Nat} (h:2 ^ n = K):((2:Int) ^ n:Int) = ((K:Nat):Int):=by
 have e:((2 ^ n:Nat):Int) = ((K:Nat):Int):=by rw [h]
 rw [Int.natCast_pow] at e
 exact e
theorem two_dbl {n m K:Nat} (h:2 ^ n = K) (e:m = n+n):2 ^ m = K * K:=by rw [e,Nat.pow_add,h]
theorem p2_two17:p2 (-1074) * p2 (-1074) = p2 (-2148):=by rw [← p2_add];rfl
theorem sq_col (r c:Nat) (S:List Nat) (k:Nat):dt r (cv c S r k) (cv c S r k) = ((smI (fun i=>fZ (elM c S i k) * fZ (elM c S i k)) r:Int):Rat) * p2 (-2148):=by
 rw [smI_cast,← sm_mulr,← p2_two17]
 exact sm_congr (fun i hi=>by
  rw [cv_at _ _ _ _ hi,Rat.intCast_mul]
  unfold fQ
  grind)
theorem sq_all {r c:Nat} {S:List Nat} (hl:S.length = r * c):sm c (fun k=>dt r (cv c S r k) (cv c S r k)) = ((sqZ S:Int):Rat) * p2 (-2148):=by
 rw [sqZ_grid r c S hl,smI_swap,smI_cast,← sm_mulr]
 exact sm_congr (fun k _=>sq_col r c S k)
theorem sq_ans {c q:Nat} {X:List Nat} (hl:X.length = c * q):sm q (fun k=>sm c (fun i=>fQ (elM q X i k) * fQ (elM q X i k))) = ((sqZ X:Int):Rat) * p2 (-2148):=by
 rw [← sq_all hl]
 exact sm_congr (fun k _=>sm_congr (fun i hi=>by rw [cv_at _ _ _ _ hi]))
theorem gr_at {r c q:Nat} (S X B:List Nat) {l k:Nat} {K:Nat} (hK:2 ^ 1074 = K):dt r (cv c S r l) (fun i=>cv q B r k i+(-1) * lin c (fun l=>cv c S r l) (fun i=>fQ (elM q X i k)) i) = -(((grZ r c q S X B l k:Int):Rat) * (p2 (-1074) * p2 (-1074) * p2 (-1074))):=by
 have eK:(K:Rat) * p2 (-1074) = 1:=by
  have e:=p2_upW (-1074) 1074
  rw [hK,show (-1074:Int)+((1074:Nat):Int) = 0 by rfl,p2_0] at e
  exact e.symm
 unfold grZ
 rw [smI_cast,← sm_mulr,← sm_neg17]
 refine sm_congr (fun i hi=>?_)
 have e1:lin c (fun l=>cv c S r l) (fun i=>fQ (elM q X i k)) i = ((dtZ c (fun l=>elM c S i l) (fun l=>elM q X l k):Int):Rat) * (p2 (-1074) * p2 (-1074)):=by
  unfold dtZ lin
  rw [smI_cast,← sm_mulr]
  exact sm_congr (fun p _=>by
   show fQ (elM q X p k) * cv c S r p i = ((fZ (elM c S i p) * fZ (elM q X p k):Int):Rat) * (p2 (-1074) * p2 (-1074))
   rw [cv_at _ _ _ _ hi,Rat.intCast_mul]
   unfold fQ
   grind)
 have eP:((2:Int) ^ 1074:Int) = ((K:Nat):Int):=two_cast hK
 show cv c S r l i * (cv q B r k i+(-1) * lin c (fun l=>cv c S r l) (fun i=>fQ (elM q X i k)) i) = -(((fZ (elM c S i l) * (dtZ c (fun l=>elM c S i l) (fun l=>elM q X l k) - fZ (elM q B i k) * 2 ^ 1074):Int):Rat) * (p2 (-1074) * p2 (-1074) * p2 (-1074)))
 rw [cv_at _ _ _ _ hi,cv_at _ _ _ _ hi,e1,Rat.intCast_mul,Rat.intCast_sub,Rat.intCast_mul,eP]
 have e2:(((K:Nat):Int):Rat) = (K:Rat):=rfl
 rw [e2]
 unfold fQ
 generalize ((dtZ c (fun l=>elM c S i l) (fun l=>elM q X l k):Int):Rat) = D at *
 generalize p2 (-1074) = p at *
 grind
theorem diag_low {r c:Nat} {S:List Nat} (r6:r≤6) (hcr:c≤r) (hS:Tam60 r c S) (hf:ftB c c (lsR r c S) = false):∀ j,j < c→p2 (-101)≤ab (fQ (elM c (facR r c S) j j)):=by
 have hE:Elt (p2 200) r c S:=hS.1.mono (p2_mono (by decide))
 have q6:qrN r c≤6:=by unfold qrN;omega
 have ER:Elt (p2 290) r c (facR r c S):=(hE.qall r6 (qrN r c) (Nat.le_refl _)).1.mono (p2_mono (by omega))
 have EL:Elt (p2 290) c c (lsR r c S):=fun p q hp hq=>by rw [lsR_at S hp hq];exact ER p q (by omega) hq
 intro j hj
 have hc0:0 < c:=by omega
 -- the first one
 have h0:p2 (-61)≤ab (fQ (elM c (facR r c S) 0 0)):=by
  have hpos:=ft_pos EL hf hc0 hc0
  rw [lsR_at S hc0 hc0] at hpos
  have hne:∃ i,i < r∧p2 (-60)≤ab (cv c S r 0 i):=by
   rcases hS.low hc0 with g | g
   ·exfalso
    have:=dep_zero hE (by omega) hc0 (fun i hi=>by have:=g i hi;rw [cv_at _ _ _ _ hi] at this;exact this)
    rw [this] at hpos
    unfold ab at hpos
    grind
   ·exact g
  obtain ⟨i,hi,hlow⟩:=hne
  have e61:p2 (-60) = 2 * p2 (-61):=by rw [show (-60:Int) = -61+1 by rfl,p2_succ]
  have P61:=p2_pos (-61)
  by_cases hq:0 < qrN r c
  ·rw [diag_mir r c S hq]
   show _≤ab (fQ (mrB (qxL r c S 0)))
   have lX:(qxL r c S 0).length = r:=by rw [qxL_len];rfl
   have hX:Small (p2 290) (qxL r c S 0):=(hE.col (i:=0) (n:=r - 0) (by omega) hc0).mono (p2_mono (by decide))
   obtain ⟨_,_,_,_,c5,_⟩:=mr_crude (qxL r c S 0) (by omega) (hX.mono (p2_mono (by decide)))
   obtain ⟨n1,n2,n3,n4⟩:=nr_sq (qxL r c S 0) (by omega) (hX.mono (p2_mono (by decide)))
   have es:sumQ (qxL r c S 0) = dt r (cv c S r 0) (cv c S r 0):=by
    have:=msk_sum c S (j:=0) (r:=r) 0 (by omega)
    exact this.symm.trans (dt_congr (fun i _=>by unfold msk;rw [if_neg (by omega)]) (fun i _=>by unfold msk;rw [if_neg (by omega)]))
   have hm:=sm_mem (f:=fun i=>cv c S r 0 i * cv c S r 0 i) (fun i _=>sq_nonneg _) hi
   have s1:p2 (-60) * p2 (-60)≤sumQ (qxL r c S 0):=by
    rw [es]
    have q:=Rat.mul_nonneg (show 0≤ab (cv c S r 0 i) - p2 (-60) by grind) (show 0≤ab (cv c S r 0 i)+p2 (-60) by have:=p2_pos (-60);grind)
    have e2:=ab_sq (cv c S r 0 i)
    have:dt r (cv c S r 0) (cv c S r 0) = sm r (fun i=>cv c S r 0 i * cv c S r 0 i):=rfl
    rw [this]
    grind
   have t0:p2 (-1700)≤p2 (-61) * p2 (-61):=by rw [← p2_two];exact p2_mono (by decide)
   have l:=le_ab (fQ (nrV (qxL r c S 0)) * fQ (nrV (qxL r c S 0)) - sumQ (qxL r c S 0))
   refine le_of_sq (ab_0 _) ?_
   rw [ab_sq]
   have e3:p2 (-60) * p2 (-60) = 4 * (p2 (-61) * p2 (-61)):=by rw [e61];grind
   rw [e3] at s1
   rcases c5 (fun e=>by rw [e] at lX;simp at lX;omega) with g | g
   ·rw [g]
    generalize fQ (nrV (qxL r c S 0)) * fQ (nrV (qxL r c S 0)) = NN at *
    generalize sumQ (qxL r c S 0) = SS at *
    generalize ab (NN - SS) = z at *
    generalize p2 (-61) * p2 (-61) = PP at *
    grind
   ·rw [g]
    have:=Rat.mul_nonneg (Rat.le_of_lt P61) (Rat.le_of_lt P61)
    grind
  ·have e:qrN r c = 0:=by omega
   have hr1:r = 1:=by unfold qrN at e;omega
   unfold facR
   rw [e]
   show _≤ab (fQ (elM c S 0 0))
   rw [cv_at _ _ _ _ hi] at hlow
   rw [show i = 0 by omega] at hlow
   grind
 have k:=ft_no EL hf hj hj hc0 hc0 (by rw [lsR_at S hc0 hc0];have:=p2_mono (show (-900:Int)≤-61 by decide);grind)
 rw [lsR_at S hc0 hc0,lsR_at S hj hj] at k
 have e101:p2 (-61) = 1099511627776 * p2 (-101):=by rw [show (-61:Int) = -101+((40:Nat):Int) by rfl,p2_upW];rfl
 grind
theorem upright_int {r c q:Nat} {S B:List Nat} (r6:r≤6) (hcr:c≤r) (hS:Tam60 r c S) (hB:Tam60 r q B) (lS:S.length = r * c) (lB:B.length = r * q) (hf:ftB c c (lsR r c S) = false) :
  grQ r c q S (lsM r c q S B) B * 2 ^ 70≤sqZ S * (sqZ S * sqZ (lsM r c q S B)+sqZ B * 2 ^ 2148):=by
 obtain ⟨K,hK,hK0⟩:=two_pow_ex 1074
 have hd:=diag_low r6 hcr hS hf
 have lX:(lsM r c q S B).length = c * q:=trM_len _ _ _ _ _ _
 obtain ⟨X,hX⟩:∃ X,lsM r c q S B = X:=⟨_,rfl⟩
 have cols:=fun k (hk:k < q)=>least_col r6 hcr hS hB hd hk
 rw [hX] at cols lX ⊢
 obtain ⟨p,hp⟩:∃ p,p2 (-1074) = p:=⟨_,rfl⟩
 have p0:0 < p:=by rw [← hp];exact p2_pos _
 have e2:p2 (-2148) = p * p:=by rw [← p2_two17,hp]
 have eK:(K:Rat) * p = 1:=by
  have e:=p2_upW (-1074) 1074
  rw [hK,show (-1074:Int)+((1074:Nat):Int) = 0 by rfl,p2_0,hp] at e
  exact e.symm
 obtain ⟨SA,hSA⟩:∃ SA,sm c (fun l=>dt r (cv c S r l) (cv c S r l)) = SA:=⟨_,rfl⟩
 have eA:SA = ((sqZ S:Int):Rat) * (p * p):=by rw [← hSA,sq_all lS,e2]
 -- each column,then all
 have big:1180591620717411303424 * sm q (fun k=>sm c (fun l=>((grZ r c q S X B l k:Int):Rat) * ((grZ r c q S X B l k:Int):Rat) * (p * p * p * (p * p * p))))≤sm q (fun k=>SA * (SA * sm c (fun i=>fQ (elM q X i k) * fQ (elM q X i k))+dt r (cv q B r k) (cv q B r k))):=by
  rw [← sm_mul]
  refine sm_le (fun k hk=>?_)
  have h:=cols k hk
  rw [hSA] at h
  refine Rat.le_trans (le_of_eq17 (congrArg (fun z=>1180591620717411303424 * z) (sm_congr (fun l _=>?_)))) h
  rw [gr_at S X B hK,hp]
  grind
 have eR:sm q (fun k=>SA * (SA * sm c (fun i=>fQ (elM q X i k) * fQ (elM q X i k))+dt r (cv q B r k) (cv q B r k))) = SA * (SA * (((sqZ X:Int):Rat) * (p * p))+((sqZ B:Int):Rat) * (p * p)):=by
  rw [sm_mul,sm_add,sm_mul,sq_ans lX,sq_all lB,e2]
 have eL:sm q (fun k=>sm c (fun l=>((grZ r c q S X B l k:Int):Rat) * ((grZ r c q S X B l k:Int):Rat) * (p * p * p * (p * p * p)))) = ((grQ r c q S X B:Int):Rat) * (p * p * p * (p * p * p)):=by
  unfold grQ
  rw [smI_cast,← sm_mulr]
  refine sm_congr (fun k _=>?_)
  rw [smI_cast,← sm_mulr]
  exact sm_congr (fun l _=>by rw [Rat.intCast_mul])
 rw [eL,eR,eA] at big
 have P6:0 < p * p * p * (p * p * p):=Rat.mul_pos (Rat.mul_pos (Rat.mul_pos p0 p0) p0) (Rat.mul_pos (Rat.mul_pos p0 p0) p0)
 have eK2:((2:Int) ^ 2148:Int) = ((K:Nat):Int) * ((K:Nat):Int):=by
  have:=@two_dbl 1074 2148 K hK rfl
  rw [← Int.natCast_mul]
  exact @two_cast 2148 (K * K) this
 have e70:((2:Int) ^ 70:Int) = 1180591620717411303424:=by decide
 rw [e70,eK2]
 have fin:p * p * p * (p * p * p) * (((grQ r c q S X B * 1180591620717411303424:Int)):Rat)≤p * p * p * (p * p * p) * ((sqZ S * (sqZ S * sqZ X+sqZ B * (((K:Nat):Int) * ((K:Nat):Int))):Int):Rat):=by
  rw [Rat.intCast_mul,Rat.intCast_mul,Rat.intCast_add,Rat.intCast_mul,Rat.intCast_mul,Rat.intCast_mul]
  have c1:((1180591620717411303424:Int):Rat) = 1180591620717411303424:=rfl
  have c2:(((K:Nat):Int):Rat) = (K:Rat):=rfl
  rw [c1,c2]
  generalize ((grQ r c q S X B:Int):Rat) = g at *
  generalize ((sqZ S:Int):Rat) = a at *
  generalize ((sqZ X:Int):Rat) = x at *
  generalize ((sqZ B:Int):Rat) = b at *
  have e3:p * p * p * (p * p * p) * (a * (a * x+b * ((K:Rat) * (K:Rat)))) = a * (p * p) * (a * (p * p) * (x * (p * p))+b * (p * p) * (((K:Rat) * p) * ((K:Rat) * p))):=by grind
  rw [e3,eK]
  clear cols hSA eA eL eR
  grind
 have:=div_le P6 fin
 exact Rat.intCast_le_intCast.1 this
end Go.Proofs.YtdhmglmccafbnaaGreatDoor
namespace Go.Proofs.YtdhmglmccafbnaaGreatDoor
open Go.RowKit
theorem tame17 {x:Nat} (hx:x < 18446744073709551616) (h:tmB 60 x = true):x < 18446744073709551616∧fFin x = true∧ab (fQ x)≤p2 60∧(fQ x = 0 ∨ p2 (-60)≤ab (fQ x)):=by
 unfold tmB at h
 rw [Bool.and_eq_true,Bool.or_eq_true,decide_eq_true_eq,decide_eq_true_eq] at h
 obtain ⟨hf,h2⟩:=h
 by_cases h0:fK x = 0
 ·rw [fQ_nought x h0]
  refine ⟨hx,hf,?_,.inl rfl⟩
  have:=p2_pos 60
  unfold ab;grind
 ·obtain ⟨g1,g2⟩:=h2.resolve_left h0
  obtain ⟨t1,t2⟩:=eX_top x hx hf h0
  refine ⟨hx,hf,?_,.inr (Rat.le_trans (p2_mono g1) t1)⟩
  exact Rat.le_trans (Rat.le_of_lt t2) (p2_mono (by omega))
theorem mul17 {x y:Int} {m n V:Nat} (h:m+n≤V) (hx:x.natAbs < 2 ^ m) (hy:y.natAbs < 2 ^ n):(x * y).natAbs < 2 ^ V:=by
 refine Nat.lt_of_lt_of_le ?_ (Nat.pow_le_pow_right (by decide) h)
 rw [Int.natAbs_mul,Nat.pow_add]
 exact Nat.mul_lt_mul'' hx hy
theorem up17 {x:Int} {m k V:Nat} (h:m+k≤V) (hx:x.natAbs < 2 ^ m):(x * 2 ^ k).natAbs < 2 ^ V:=by
 refine Nat.lt_of_lt_of_le ?_ (Nat.pow_le_pow_right (by decide) h)
 rw [Int.natAbs_mul,Nat.pow_add]
 have e:((2:Int) ^ k).natAbs = 2 ^ k:=by rw [Int.natAbs_pow];rfl
 rw [e]
 exact Nat.mul_lt_mul_of_pos_right hx (Nat.pow_pos (by decide))
theorem add17 {x y:Int} {m V:Nat} (h:m+1≤V) (hx:x.natAbs < 2 ^ m) (hy:y.natAbs < 2 ^ m):(x+y).natAbs < 2 ^ V:=by
 refine Nat.lt_of_lt_of_le ?_ (Nat.pow_le_pow_right (by decide) h)
 rw [Nat.pow_succ]
 omega
theorem le17 {x:Int} {m V:Nat} (h:m≤V) (hx:x.natAbs < 2 ^ m):x.natAbs < 2 ^ V:=Nat.lt_of_lt_of_le hx (Nat.pow_le_pow_right (by decide) h)
theorem cmp17 {x y:Int} (h:x≤y):cmpI x y≤0:=by
 unfold cmpI
 repeat' split
 all_goals omega
theorem sqZ_lt17 {r c:Nat} {S:List Nat} (hl:S.length = r * c) (r6:r≤6) (c6:c≤6) (fS:∀ x ∈ S,fFin x = true):(sqZ S).natAbs < 2 ^ 4202:=by
 rw [sqZ_grid r c S hl]
 exact smI_ltV (W:=4199) (V:=4202) (by decide) r (by omega) (fun i _=>smI_ltV (W:=4196) (V:=4199) (by decide) c (by omega) (fun k _=>mul17 (m:=2098) (n:=2098) (V:=4196) (by decide) (fZ_lt _ (el_fin c S i k fS)) (fZ_lt _ (el_fin c S i k fS))))
theorem grQ_lt17 {r n c:Nat} {A X B:List Nat} (r6:r≤6) (n6:n≤6) (c6:c≤6) (fA:∀ x ∈ A,fFin x = true) (fX:∀ x ∈ X,fFin x = true) (fB:∀ x ∈ B,fFin x = true):(grQ r n c A X B).natAbs < 2 ^ 12608:=by
 unfold grQ
 exact smI_ltV (W:=12605) (V:=12608) (by decide) _ (by omega) (fun k _=>smI_ltV (W:=12602) (V:=12605) (by decide) _ (by omega) (fun l _=>mul17 (m:=6301) (n:=6301) (V:=12602) (by decide) (grZ_lt r n c A X B _ _ (by omega) (by omega) fA fX fB) (grZ_lt r n c A X B _ _ (by omega) (by omega) fA fX fB)))
theorem fin_grid17 {r c:Nat} {S:List Nat} (hl:S.length = r * c) (h:∀ i k,i < r→k < c→fFin (elM c S i k) = true):finL S = true:=by
 rw [finL_all,hl]
 intro x hx
 obtain ⟨h1,h2,h3⟩:=place_in hx
 have:=h _ _ h1 h2
 unfold elM at this
 rwa [h3] at this
theorem fin_mem17 {S:List Nat} (h:finL S = true):∀ x ∈ S,fFin x = true:=by
 rw [finL_all] at h
 intro x hx
 obtain ⟨k,hk,e⟩:=List.getElem_of_mem hx
 have:=h k hk
 rw [List.getD_eq_getElem?_getD,List.getElem?_eq_getElem hk] at this
 rw [← e]
 exact this
theorem rwithin17 {w:World} {v u:Value} {z1 z2:Int} (hv:IsLv w v (-6444) z1) (hu:IsLv w u (-6444) z2) (h1:z1.natAbs < 2 ^ 12608) (h2:z2.natAbs < 2 ^ 12607) (hle:z1 * 2 ^ 70≤z2) :
  Calls Tryz.prog 27 #[v,u,.int .i64 35] w fun e w'=>e = .returned (.bool true)∧Below w.heap.size w w':=by
 obtain ⟨t,ht⟩:∃ t:Nat,t = 2514:=⟨_,rfl⟩
 have L1:Lvl (-6444) 12608 z1:=⟨h1,by decide,by decide,by decide⟩
 have L2:Lvl (-6444) 12607 z2:=⟨h2,by decide,by decide,by decide⟩
 have hP:((2:Int) ^ t).natAbs < 2 ^ (t+1):=by
  rw [Int.natAbs_pow]
  exact Nat.pow_lt_pow_right (by decide) (by omega)
 have hP0:(0:Int)≤2 ^ t:=Int.pow_nonneg (by decide)
 have b2:z2.natAbs < 2 ^ 12699:=le17 (V:=12699) (m:=12607) (by decide) h2
 have bp:((2:Int) ^ t).natAbs < 2 ^ 12699:=le17 (V:=12699) (m:=t+1) (by rw [ht];decide) hP
 have L3:Lvl (-6514) 12700 z2:=⟨le17 (V:=12700) (m:=12699) (by decide) b2,by decide,by decide,by decide⟩
 have L4:Lvl (-6514) 12700 (2 ^ t):=⟨le17 (V:=12700) (m:=12699) (by decide) bp,by decide,by decide,by decide⟩
 have L5:Lvl (-6514) 12700 (z2+2 ^ t):=⟨add17 (V:=12700) (m:=12699) (by decide) b2 bp,by decide,by decide,by decide⟩
 have L6:Lvl (-6514) 12700 (z1 * 2 ^ 70):=⟨up17 (V:=12700) (m:=12608) (by decide) h1,by decide,by decide,by decide⟩
 have hc:decide (cmpI (z1 * 2 ^ 70) (z2+2 ^ t)≤0) = true:=decide_eq_true (cmp17 (by omega))
 obtain ⟨na,ao,ca,A,rfl,a1,a2,a3,a4,a5⟩:=IsDy.right hv L1.right.2
 obtain ⟨nb,bo,cb,B,rfl,b1,b2',b3,b4,b5⟩:=IsDy.right hu L2.right.2
 have:=rWithin_of na nb ao bo A.length B.length ca cb (oE z1 (-6444)) (oE z2 (-6444)) 35 (oM z2) (oE z2 (-6514)) (oM (2 ^ t)) (oE (2 ^ t) (-6514)) (oM (z2+2 ^ t)) (oE (z2+2 ^ t) (-6514)) (cmpI (z1 * 2 ^ 70) (z2+2 ^ t)) w (by decide)
  (fun w' hb=>by
   have h:=rscaleL (-(2 * 35)) (hu.below hb) L2 (by decide)
   rw [show (-6444:Int)+-(2 * 35) = -6514 by decide] at h
   exact h)
  (fun w' v hv2=>by
   refine (rof_small (-4000) (hv2.toM one_TOP11) (by decide) (by decide)).mono ?_
   rintro e w'' ⟨q,k1,k2,k3⟩
   refine ⟨q,k1,?_,k3⟩
   have h4:IsLv w'' q (-4000) 1:=k2
   have h5:=h4.lower t
   rw [show (-4000:Int) - ((t:Nat):Int) = -6514 by omega,Int.one_mul] at h5
   exact h5)
  (fun w' v u hv2 hu2=>raddL (W:=12700) hv2 hu2 L3 L4)
  (fun w' v hb hv2=>by
   have h7:=(show IsLv w' _ _ z1 from IsLv.below hv hb).lower 70
   rw [show (-6444:Int) - ((70:Nat):Int) = -6514 by decide] at h7
   exact rcmpN h7 hv2 L6 L5)
 rw [hc] at this
 exact this
theorem solveUpright_walk (r c:Int) (ao:Option Addr) (cap:Nat) (I:List Int) (p s:Int) (bo:Option Addr) (d:Nat) (J:List Int) (w:World) (hI:BitsAt w ao cap I) (hl:I.length≤17592186043904) (_hr:-9223372036854775808≤r∧r≤9223372036854775807) (_hc:-9223372036854775808≤c∧c≤9223372036854775807) (hJ:BitsAt w bo d J) (hlj:J.length≤17592186043904) (_hp:-9223372036854775808≤p∧p≤9223372036854775807) (_hs:-9223372036854775808≤s∧s≤9223372036854775807) (hT:Tab w) :
  Calls Tryz.prog 4 #[.agg #[.int .i64 r,.int .i64 c,.slice ao I.length cap],.agg #[.int .i64 p,.int .i64 s,.slice bo J.length d]] w fun e w'=>e = .returned (.bool true)∧Below w.heap.size w w':=by
 have C1:=fun w' (hb:Below w.heap.size w w')=>r11tame_any r c ao cap I 60 w' (hI.below hb) (by omega) (by decide)
 have C2:=fun w' (hb:Below w.heap.size w w')=>r11tame_any p s bo d J 60 w' (hJ.below hb) (by omega) (by decide)
 have CA:=awake17_any w hT
 cases h1:(okB r c I.length && tmK 60 I I.length)
 ·rw [h1] at C1
  exact solveUpright_one r c p s ao bo I.length cap J.length d w C1 CA
 rw [h1] at C1
 cases h2:(okB p s J.length && tmK 60 J J.length)
 ·rw [h2] at C2
  exact solveUpright_two r c p s ao bo I.length cap J.length d w C1 C2 CA
 rw [h2] at C2
 rw [Bool.and_eq_true] at h1 h2
 obtain ⟨n,m,rfl,rfl,hM,hS⟩:=Mx.of hI h1.1
 obtain ⟨n2,q,rfl,rfl,hM2,hS2⟩:=Mx.of hJ h2.1
 have lI:(natL I).length = I.length:=natL_len I
 have lJ:(natL J).length = J.length:=natL_len J
 have r6:=hM.2.2.1;have c6:=hM.2.2.2;have q6:=hM2.2.2.2
 have T1:Tam60 n m (natL I):=by
  have hE:∀ i k,i < n→k < m→tmB 60 (elM m (natL I) i k) = true:=fun i k hi hk=>by
   have hb:=tmK_at 60 I I.length (i * m+k) (by rw [← lI,hM.2.1];exact place_lt hi hk) h1.2
   rw [← hS,mxL_at] at hb
   exact hb
  exact ⟨fun i k hi hk=>by obtain ⟨a,b,d,_⟩:=tame17 (hM.el_lt i k) (hE i k hi hk);exact ⟨a,b,d⟩,fun i k hi hk=>(tame17 (hM.el_lt i k) (hE i k hi hk)).2.2.2⟩
 have T2:Tam60 n2 q (natL J):=by
  have hE:∀ i k,i < n2→k < q→tmB 60 (elM q (natL J) i k) = true:=fun i k hi hk=>by
   have hb:=tmK_at 60 J J.length (i * q+k) (by rw [← lJ,hM2.2.1];exact place_lt hi hk) h2.2
   rw [← hS2,mxL_at] at hb
   exact hb
  exact ⟨fun i k hi hk=>by obtain ⟨a,b,d,_⟩:=tame17 (hM2.el_lt i k) (hE i k hi hk);exact ⟨a,b,d⟩,fun i k hi hk=>(tame17 (hM2.el_lt i k) (hE i k hi hk)).2.2.2⟩
 have fI:finL (natL I) = true:=T1.1.fins hM.2.1
 have fJ:finL (natL J) = true:=T2.1.fins hM2.2.1
 by_cases hsh:(n:Int) < (m:Int) ∨ (¬ (n:Int) < (m:Int)∧¬ (n:Int) = (n2:Int))
 ·refine solveUpright_err 3 n m n2 q ao bo I.length cap J.length d w (.inl rfl) C1 C2 (fun w' hb=>least_shape n m n2 q I.length cap J.length d ao bo w' hsh (fun w'' hb2=>?_)) CA
  have:=chk17 ((hM.below hb).below hb2) ((hM2.below hb).below hb2) fI fJ
  rw [lI,lJ] at this
  exact this
 have en:n2 = n:=by omega
 subst en
 have hcr:m≤n2:=by omega
 obtain ⟨k1,_,k3⟩:=fac_ends (T1.1.mono (p2_mono (by decide))) hM.2.1 r6
 have LM:=fun w' (hb:Below w.heap.size w w')=>least_mx n2 m q cap d ao bo (natL I) (natL J) w' (hM.below hb) (hM2.below hb) fI fJ hcr (hT.all hb)
 cases hf:ftB m m (lsR n2 m (natL I))
 rotate_left
 ·have e5:lqE n2 m q (natL I) (natL J) = 5:=by
   unfold lqE
   rw [if_pos k1,if_pos (show ftB m m (lqT n2 m (natL I)) = true from hf)]
  rw [e5] at LM
  refine solveUpright_err 5 n2 m n2 q ao bo I.length cap J.length d w (.inr rfl) C1 C2 (fun w' hb=>?_) CA
  have:=LM w' hb
  rw [lI,lJ] at this
  refine this.mono ?_
  rintro e w'' ⟨hans,hb2⟩
  rcases hans with ⟨h0,_⟩ | ⟨_,rfl⟩
  ·cases h0
  ·exact ⟨rfl,hb2⟩
 have hd:=diag_low r6 hcr T1 hf
 have EL:Elt (p2 290) m m (lsR n2 m (natL I)):=fun a b ha hb=>by rw [lsR_at (natL I) ha hb];exact k3 a b (by omega) hb
 have lY:(sdM n2 m q (natL I) (natL J)).length = m * q:=by unfold sdM muM;exact mkM_len _ _ _
 have lU:(lsM n2 m q (natL I) (natL J)).length = m * q:=trM_len _ _ _ _ _ _
 have fY:finL (sdM n2 m q (natL I) (natL J)) = true:=fin_grid17 lY (fun i k hi hk=>by
  obtain ⟨_,hTr,_,_⟩:=least_tri r6 hcr T1 T2 hd hk
  exact (hTr.side i hi).2.1)
 have fU:finL (lsM n2 m q (natL I) (natL J)) = true:=fin_grid17 lU (ls_fin r6 hcr T1 T2 hd)
 have hz:zdB (dgL m m (lsR n2 m (natL I))) = false:=zd_no (fun i hi e=>by
  have:=ft_pos EL hf hi hi
  rw [fQ_nought _ e] at this
  unfold ab at this
  grind)
 have e0:lqE n2 m q (natL I) (natL J) = 0:=by
  unfold lqE
  rw [if_pos k1,if_neg (by rw [show ftB m m (lqT n2 m (natL I)) = false from hf];decide),if_pos (show finL (lqY n2 m q (natL I) (natL J)) = true from fY)]
  unfold usE
  rw [if_neg (by rw [show zdB (dgL m m (lqT n2 m (natL I))) = false from hz];decide),if_pos (show finL (lqU n2 m q (natL I) (natL J)) = true from fU)]
 rw [e0] at LM
 have up:=upright_int r6 hcr T1 T2 hM.2.1 hM2.2.1 hf
 obtain ⟨U,hU⟩:∃ U,lsM n2 m q (natL I) (natL J) = U:=⟨_,rfl⟩
 rw [hU] at lU fU up
 have LM2:=fun w' (hb:Below w.heap.size w w')=>(LM w' hb).mono (fun e w'' h=>show SvAns w' w'' 0 m q U e∧Below w'.heap.size w' w'' by rw [← hU];exact h)
 have sI:=fin_mem17 fI;have sJ:=fin_mem17 fJ;have sU:=fin_mem17 fU
 have bI:=sqZ_lt17 hM.2.1 r6 c6 sI
 have bJ:=sqZ_lt17 hM2.2.1 r6 q6 sJ
 have bU:=sqZ_lt17 lU c6 q6 sU
 have bG:=grQ_lt17 (A:=natL I) (X:=U) (B:=natL J) r6 c6 q6 sI sU sJ
 have b4:(sqZ (natL I) * sqZ U).natAbs < 2 ^ 8404:=mul17 (V:=8404) (m:=4202) (n:=4202) (by decide) bI bU
 obtain ⟨t,ht⟩:∃ t:Nat,t = 2148:=⟨_,rfl⟩
 rw [← ht] at up
 have b3:(sqZ (natL J) * 2 ^ t).natAbs < 2 ^ 8404:=up17 (V:=8404) (m:=4202) (k:=t) (by rw [ht];decide) bJ
 have b5:(sqZ (natL I) * sqZ U+sqZ (natL J) * 2 ^ t).natAbs < 2 ^ 8405:=add17 (V:=8405) (m:=8404) (by decide) b4 b3
 have b6:(sqZ (natL I) * (sqZ (natL I) * sqZ U+sqZ (natL J) * 2 ^ t)).natAbs < 2 ^ 12607:=mul17 (V:=12607) (m:=4202) (n:=8405) (by decide) bI b5
 refine solveUpright_of n2 m q (m * q) ao bo I.length cap J.length d (mxL U) (-2148) (-4296) (-6444) (sqZ (natL I)) (sqZ U) (sqZ (natL J)) (sqZ (natL I) * sqZ U) (sqZ (natL I) * sqZ U+sqZ (natL J) * 2 ^ t) (sqZ (natL I) * (sqZ (natL I) * sqZ U+sqZ (natL J) * 2 ^ t)) (grQ n2 m q (natL I) U (natL J)) w C1 C2 (fun w' hb=>?_) (fun w' xo xc hb hx=>?_) (fun w' hb=>?_) (fun w' xo xc hb hx=>?_) (fun w' hb=>?_) (fun w' v u hv hu=>?_) (fun w' v u hv hu=>?_) (fun w' v u hv hu=>?_) (fun w' xo xc hb hx=>?_) (fun w' v u hv hu=>?_) CA
 ·have:=LM2 w' hb
  rw [lI,lJ] at this
  refine this.mono ?_
  rintro e w'' ⟨hans,hb2⟩
  rcases hans with ⟨_,xo,xc,rfl,_,h3,_,_⟩ | ⟨h0,_⟩
  ·exact ⟨⟨xo,xc,rfl,h3⟩,hb2⟩
  ·exact absurd rfl h0
 ·have hX:Mx w' xo xc m q U:=⟨hx,lU,c6,q6⟩
  have:=r11check_any (m:Int) (q:Int) xo xc (mxL U) w' hx (by rw [mxL_len];have:=hX.small;omega)
  rw [ck_mx hX fU,mxL_len,lU] at this
  exact this
 ·have:=r11square_any n2 m cap ao (natL I) w' (hM.below hb) sI
  rw [lI] at this
  exact this
 ·have:=r11square_any m q xc xo U w' ⟨hx,lU,c6,q6⟩ sU
  rw [lU] at this
  exact this
 ·have:=r11square_any n2 q d bo (natL J) w' (hM2.below hb) sJ
  rw [lJ] at this
  exact this
 ·have:=rmulL (W1:=4202) (W2:=4202) hv hu ⟨bI,by decide,by decide,by decide⟩ ⟨bU,by decide,by decide,by decide⟩ (by decide)
  rw [show (-2148:Int)+-2148 = -4296 by decide] at this
  exact this
 ·have h5:=hu.lower t
  rw [show (-2148:Int) - ((t:Nat):Int) = -4296 by omega] at h5
  exact raddL (W:=8404) hv h5 ⟨b4,by decide,by decide,by decide⟩ ⟨b3,by decide,by decide,by decide⟩
 ·have:=rmulL (W1:=4202) (W2:=8405) hv hu ⟨bI,by decide,by decide,by decide⟩ ⟨b5,by decide,by decide,by decide⟩ (by decide)
  rw [show (-2148:Int)+-4296 = -6444 by decide] at this
  exact this
 ·have:=rGrad_any n2 m q cap xc d ao xo bo (natL I) U (natL J) w' (hM.below hb) ⟨hx,lU,c6,q6⟩ (hM2.below hb) sI sU sJ
  rw [lI,lJ,lU] at this
  exact this
 ·exact rwithin17 hv hu bG b6 up
end Go.Proofs.YtdhmglmccafbnaaGreatDoor
namespace Go.Proofs.YtdhmglmccafbnaaGreatDoor
open Go.ChangeShapes Go.WideShapes Go.ChangeAt Go.RowKit Go.Joins
theorem Tryz.own:ownKnob Tryz.prog.godebug = none:=by kernel_rfl
theorem Tryz.laidOut:laidOutB Tryz.prog = true:=by kernel_rfl
end Go.Proofs.YtdhmglmccafbnaaGreatDoor
namespace Go.Proofs.YtdhmglmccafbnaaGreatDoor
theorem bounds_of_i64 {x:Int} (h:(Lit.int .i64 x).wf = true):-9223372036854775808≤x∧x≤9223372036854775807:=by
 simp [Lit.wf,IntKind.min,IntKind.max,IntKind.signed,IntKind.bits] at h
 omega
end Go.Proofs.YtdhmglmccafbnaaGreatDoor
namespace Go.Proofs.YtdhmglmccafbnaaGreatDoor
open Go.ChangeShapes Go.WideShapes Go.ChangeAt Go.RowKit Go.Joins
theorem Tryz.tabName:Tryz.prog.globalNamed "math/bits.deBruijn32tab" = some 1:=by kernel_rfl
theorem Tryz.tabType:(Tryz.prog.globals[1]?).map (·.type) = some 264:=by kernel_rfl
theorem Tryz.tabCells:Tryz.prog.cellsOf 264 = 32:=by kernel_rfl
theorem Tryz.byteCells:Tryz.prog.cellsOf 5 = 1:=by kernel_rfl
theorem tab_getD:∀ j,j < Lib.deBruijn32tab.length→(List.map Int.ofNat Lib.deBruijn32tab).getD j 0 = ((Lib.deBruijn32tab.getD j 0:Nat):Int):=by decide
theorem tab_of_laid {W:World} (h:laidMetH Tryz.prog [("math/bits.deBruijn32tab",Rows.laid_math_bits_deBruijn32tab)] W):Tab W:=by
 have ht:=Lib.tabIs_of_head (zs:=Lib.deBruijn32tab.map Int.ofNat) (rest:=[]) Tryz.tabName Tryz.tabType Tryz.underlying264 Tryz.underlying5 Tryz.byteCells Tryz.tabCells h
 intro j hj
 have:=ht.cell Tryz.tabName j (by simpa using hj)
 rw [this]
 congr 2
 exact tab_getD j hj
end Go.Proofs.YtdhmglmccafbnaaGreatDoor
namespace Go.Proofs.YtdhmglmccafbnaaGreatDoor
open Go.ChangeShapes Go.WideShapes Go.ChangeAt Go.RowKit Go.Joins Go.Deep
theorem Tryz.cellsBits:Tryz.prog.cellsOf 28 = 1:=by kernel_rfl
theorem Tryz.bytesBits:Tryz.prog.bytesOf 28 = 8:=by kernel_rfl
theorem cellOf_plain {W:World} {a:Addr} {v:Value} (h:W.cell? a = some v):a.spot = none∧a.block < W.heap.size:=⟨World.cell?_spot h,World.block_lt_of_cell? W _ h⟩
theorem addOf_plain (b off i:Nat):(⟨b,off,none⟩:Addr).add i = ⟨b,off+i,none⟩:=by simp [Addr.add]
theorem bounds_of_u64 {x:Int} (h:(Lit.int .u64 x).wf = true):0≤x∧x≤18446744073709551615:=by
 simp [Lit.wf,IntKind.min,IntKind.max,IntKind.signed,IntKind.bits] at h
 omega
end Go.Proofs.YtdhmglmccafbnaaGreatDoor
