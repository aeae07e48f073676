/- Part 38 of the texts. -/
import Derived.Test.YtdhmglmccafbnaaGreatDoorPartu37
import Derived.Test.YtdhmglmccafbnaaGreatDoorPartu30
import Derived.Test.YtdhmglmccafbnaaGreatDoorPartu29
import Derived.Test.YtdhmglmccafbnaaGreatDoorPartu15
import Derived.Test.YtdhmglmccafbnaaGreatDoorPartu31
import Derived.Test.YtdhmglmccafbnaaGreatDoorPartu22
import Derived.Deep.RegionHeld3
import Derived.Test.YtdhmglmccafbnaaGreatDoorPartu27
import Derived.Test.YtdhmglmccafbnaaGreatDoorPartu26
import Derived.Test.YtdhmglmccafbnaaGreatDoorPartu04
import Derived.Maps.AppendAt
import Derived.OwnWalk
import Derived.Test.YtdhmglmccafbnaaGreatDoorPartu20
import Derived.Deep.RegionWith
import Derived.Test.YtdhmglmccafbnaaGreatDoorPartu23
import Derived.Test.YtdhmglmccafbnaaGreatDoorPartu35
import Derived.Test.YtdhmglmccafbnaaGreatDoorPartu28
import Derived.Test.YtdhmglmccafbnaaGreatDoorPartu33
import Derived.Test.YtdhmglmccafbnaaGreatDoorPartu32
import Derived.Test.YtdhmglmccafbnaaGreatDoorPartu18
import Derived.Test.YtdhmglmccafbnaaGreatDoorPartu36
namespace Go.Proofs.YtdhmglmccafbnaaGreatDoor
open Go.RowKit
def Elt (Z:Rat) (r c:Nat) (S:List Nat):Prop:=∀ p q,p < r→q < c→elM c S p q < 18446744073709551616∧fFin (elM c S p q) = true∧ab (fQ (elM c S p q))≤Z
theorem Elt.mono {Z Y:Rat} {r c:Nat} {S:List Nat} (h:Elt Z r c S) (hz:Z≤Y):Elt Y r c S:=fun p q hp hq=>⟨(h p q hp hq).1,(h p q hp hq).2.1,Rat.le_trans (h p q hp hq).2.2 hz⟩
theorem Elt.col {Z:Rat} {r c:Nat} {S:List Nat} (h:Elt Z r c S) {i n q:Nat} (hi:i+n≤r) (hq:q < c):Small Z (colL c S i n q):=by
 intro x hx
 obtain ⟨j,hj,rfl⟩:=List.mem_map.1 hx
 have:=List.mem_range.1 hj
 exact h (i+j) q (by omega) hq
theorem Elt.fins {Z:Rat} {r c:Nat} {S:List Nat} (h:Elt Z r c S) (hl:S.length = r * c):finL S = true:=by
 rw [finL_all]
 intro k hk
 rw [hl] at hk
 obtain ⟨h1,h2,h3⟩:=place_in hk
 have:=(h (k / c) (k % c) h1 h2).2.1
 unfold elM at this
 rwa [h3] at this
theorem Elt.ap {Z:Rat} {r c:Nat} {S:List Nat} (h:Elt Z r c S) (i k:Nat) (vs:List Nat) (tau:Nat) (h6:vs.length≤6) (hi:i+vs.length≤r) (ft:fFin tau = true) (ht:1000 * ab (fQ tau)≤2001) (hv:∀ v ∈ vs,fFin v = true∧1000 * ab (fQ v)≤1001) (hZ:6 * Z≤p2 900) (hη:1267650600228229401496703205376 * p2 (-1075)≤Z):Elt (24 * Z) r c (apM r c S i k vs tau):=by
 intro p q hp hq
 have Z0:0≤Z:=by have:=p2_pos (-1075);grind
 rw [el_ap r c S i k vs tau hp hq]
 split
 ·rename_i g
  have hc:=h.col (n:=vs.length) hi hq
  have hj:p - i < vs.length:=by omega
  have hcr:=col_crude tau Z vs (colL c S i vs.length q) h6 (colL_len _ _ _ _ _).symm ft ht hv (fun y hy=>⟨(hc y hy).2.1,(hc y hy).2.2⟩) hZ hη
  have hmem:(apL c S i q vs tau).getD (p - i) 0 ∈ apL c S i q vs tau:=by
   rw [List.getD_eq_getElem?_getD,List.getElem?_eq_getElem (by rw [apL_len];exact hj)]
   exact List.getElem_mem _
  have:=hcr _ hmem
  refine ⟨?_,this.1,this.2⟩
  rw [apL_at c S i q vs tau hj]
  exact aV_lt _ _ (h (i+(p - i)) q (by omega) hq).1 (fN_lt _ (mV_lt _ _))
 ·have:=h p q hp hq
  exact ⟨this.1,this.2.1,by grind⟩
theorem Elt.cl {Z:Rat} {r c:Nat} {S:List Nat} (h:Elt Z r c S) (j:Nat) (b:Nat) (Z0:0≤Z) (hb:b < 18446744073709551616∧fFin b = true∧ab (fQ b)≤Z):Elt Z r c (clM r c S j b):=by
 intro p q hp hq
 rw [el_cl r c S j b hp hq]
 repeat' split
 ·exact hb
 ·rw [fQ_0];exact ⟨by decide,by decide,by unfold ab;grind⟩
 ·exact h p q hp hq
theorem mrB_size (X:List Nat) (Z:Rat) (hl:X.length≤6) (hX:Small Z X) (hZ:Z≤p2 290) (hη:p2 (-800)≤Z):mrB X < 18446744073709551616∧fFin (mrB X) = true∧ab (fQ (mrB X))≤24 * Z:=by
 have hX3:Small (p2 300) X:=hX.mono (Rat.le_trans hZ (p2_mono (by decide)))
 obtain ⟨c1,c2,c3,c4,c5,c6⟩:=mr_crude X hl hX3
 obtain ⟨x1,x2,x3,x4⟩:=nr_sq X hl hX3
 have p0:=p2_pos (-800)
 have Z0:0 < Z:=by grind
 refine ⟨mrB_lt X (fun x hx=>(hX x hx).1),c6,?_⟩
 by_cases hn:X = []
 ·rw [hn]
  show ab (fQ 0)≤_
  rw [fQ_0];unfold ab;grind
 have S0:=sumQ_nonneg X
 have hS:sumQ X≤6 * (Z * Z):=by
  have h1:=sum_len Z X (fun x h=>(hX x h).2.2)
  have hl2:(X.length:Rat)≤6:=Rat.natCast_le_natCast.2 hl
  have:=Rat.mul_nonneg (show 0≤6 - (X.length:Rat) by grind) (sq_nonneg Z)
  grind
 have hZZ:p2 (-1700)≤Z * Z:=by
  have q0:=p2_pos (-800)
  have h1:=Rat.mul_nonneg (show 0≤Z - p2 (-800) by grind) (show 0≤Z+p2 (-800) by grind)
  have h2:p2 (-1600) = p2 (-800) * p2 (-800):=by rw [← p2_two];rfl
  have h3:=p2_mono (show (-1700:Int)≤-1600 by decide)
  grind
 have l:=le_ab (fQ (nrV X) * fQ (nrV X) - sumQ X)
 have key:fQ (mrB X) * fQ (mrB X)≤24 * Z * (24 * Z):=by
  have e:24 * Z * (24 * Z) = 576 * (Z * Z):=by grind
  rw [e]
  rcases c5 hn with g | g
  ·rw [g]
   generalize fQ (nrV X) * fQ (nrV X) = NN at *
   generalize Z * Z = ZZ at *
   generalize sumQ X = SS at *
   generalize ab (NN - SS) = z at *
   grind
  ·rw [g]
   generalize Z * Z = ZZ at *
   grind
 refine le_of_sq (by grind) ?_
 rw [show ab (fQ (mrB X)) * ab (fQ (mrB X)) = fQ (mrB X) * fQ (mrB X) by rw [← ab_mul];exact ab_pos (sq_nonneg _)]
 exact key
theorem Elt.eye (r:Nat):Elt (p2 0) r r (eyM r):=by
 intro p q hp hq
 rw [show elM r (eyM r) p q = if q = p then 4607182418800017408 else 0 from el_mk r r _ hp hq,p2_0]
 split
 ·rw [fQ_one];exact ⟨by decide,by decide,by unfold ab;grind⟩
 ·rw [fQ_0];exact ⟨by decide,by decide,by unfold ab;grind⟩
end Go.Proofs.YtdhmglmccafbnaaGreatDoor
namespace Go.Proofs.YtdhmglmccafbnaaGreatDoor
open Go.RowKit
theorem fQ_leZ {a b:Nat} (h:fZ a≤fZ b):fQ a≤fQ b:=by
 unfold fQ
 have h1:(fZ a:Rat)≤(fZ b:Rat):=Rat.intCast_le_intCast.2 h
 exact Rat.mul_le_mul_of_nonneg_right h1 (Rat.le_of_lt (p2_pos _))
end Go.Proofs.YtdhmglmccafbnaaGreatDoor
namespace Go.Proofs.YtdhmglmccafbnaaGreatDoor
open Go.RowKit
def cv (c:Nat) (T:List Nat) (r k:Nat):Nat→Rat:=fc (colL c T 0 r k)
theorem cv_at (c:Nat) (T:List Nat) (r k:Nat) {i:Nat} (hi:i < r):cv c T r k i = fQ (elM c T i k):=by
 unfold cv fc
 rw [colL_at c T 0 r k hi,Nat.zero_add]
theorem col_drop (c:Nat) (T:List Nat) {j r:Nat} (k:Nat) (hj:j≤r):(colL c T 0 r k).drop j = colL c T j (r - j) k:=by
 refine List.ext_getElem (by rw [List.length_drop,colL_len,colL_len]) (fun i h1 h2=>?_)
 rw [colL_len] at h2
 have a1:=colL_at c T 0 r k (j:=j+i) (by omega)
 have a2:=colL_at c T j (r - j) k h2
 rw [List.getD_eq_getElem?_getD,List.getElem?_eq_getElem (by rw [colL_len];omega)] at a1
 rw [List.getD_eq_getElem?_getD,List.getElem?_eq_getElem (by rw [colL_len];exact h2)] at a2
 simp only [Option.getD_some] at a1 a2
 rw [List.getElem_drop,a1,a2,Nat.zero_add]
theorem msk_sum (c:Nat) (T:List Nat) {j r:Nat} (k:Nat) (hj:j≤r):dt r (msk j (cv c T r k)) (msk j (cv c T r k)) = sumQ (colL c T j (r - j) k):=by
 have e:=dt_vl j (r - j) (colL c T j (r - j) k) (vl j (colL c T j (r - j) k))
 rw [show j+(r - j) = r by omega] at e
 rw [← sum_fc,colL_len]
 have e2:dt r (msk j (cv c T r k)) (msk j (cv c T r k)) = dt r (vl j (colL c T j (r - j) k)) (vl j (colL c T j (r - j) k)):=by
  have key:∀ i,i < r→msk j (cv c T r k) i = vl j (colL c T j (r - j) k) i:=fun i hi=>by
   unfold msk vl
   split
   ·rfl
   ·rename_i g
    rw [cv_at c T r k hi]
    unfold fc
    rw [colL_at c T j (r - j) k (by omega),show j+(i - j) = i by omega]
  exact dt_congr key key
 rw [e2,e]
 refine dt_congr (fun _ _=>rfl) (fun i hi=>?_)
 unfold vl
 rw [if_neg (by omega),show j+i - j = i by omega]
theorem step_ahead {r c:Nat} (W:List Nat) {j k:Nat} (hk:k < j) (hjc:j < c) {i:Nat} (hi:i < r):cv c (qrS r c W j) r k i = cv c W r k i:=by
 rw [cv_at _ _ _ _ hi,cv_at _ _ _ _ hi]
 unfold qrS
 rw [el_cl r c _ j _ hi (by omega),if_neg (fun e=>by omega),el_ap r c W j j _ _ hi (by omega),if_neg (fun e=>by omega)]
end Go.Proofs.YtdhmglmccafbnaaGreatDoor
namespace Go.Proofs.YtdhmglmccafbnaaGreatDoor
open Go.RowKit
theorem ab_sq (x:Rat):ab x * ab x = x * x:=by rw [← ab_mul];exact ab_pos (sq_nonneg _)
theorem step_diag {r c:Nat} (W:List Nat) {j:Nat} (hr:j < r) (hk:j < c):cv c (qrS r c W j) r j j = fQ (mrB (qxL r c W j)):=by
 rw [cv_at _ _ _ _ hr]
 unfold qrS
 rw [el_cl r c _ j _ hr hk,if_pos ⟨rfl,Nat.le_refl _,hr⟩,if_pos rfl]
end Go.Proofs.YtdhmglmccafbnaaGreatDoor
namespace Go.Proofs.YtdhmglmccafbnaaGreatDoor
open Go.RowKit
structure Cols (n c:Nat) (A:Nat→Nat→Rat):Prop where
 six:n≤6
 size:∀ k,k < c→Bd n (A k) (p2 62)
 low:∀ k,k < c→(∀ i,i < n→A k i = 0) ∨ ∃ i,i < n∧p2 (-60)≤ab (A k i)
structure Fac (n c:Nat) (A:Nat→Nat→Rat) (ms:List ((Nat→Rat) × Rat)) (C:Nat→List Nat) (j:Nat):Prop where
 mirs:Mirs n (1 / 8796093022208) ms
 len:ms.length≤j
 cols:∀ k,k < c→(C k).length = n∧∀ y ∈ C k,y < 18446744073709551616∧fFin y = true
 rest:∀ k,k < c→j≤k→Steps n (288 / 9007199254740992) ms (A k) (fc (C k))
 done:∀ k,k < c→k < j→(∀ i,i < n→k < i→fc (C k) i = 0)∧∃ ms1 ns z,ms = ms1 ++ ns∧Steps n (288 / 9007199254740992) ms1 (A k) z∧(∀ q,Bd n (A k) q→Bd n (fun i=>fc (C k) i+(-1) * z i) (2300 / 9007199254740992 * q))∧∀ m ∈ ns,dt n m.1 (fc (C k)) = 0
theorem gw_six:∀ k,k≤6→1000000 * gw (1 / 8796093022208) k≤1000001:=by
 intro k hk
 have h:k = 0 ∨ k = 1 ∨ k = 2 ∨ k = 3 ∨ k = 4 ∨ k = 5 ∨ k = 6:=by omega
 rcases h with rfl | rfl | rfl | rfl | rfl | rfl | rfl <;> decide +kernel
theorem er_six:∀ k,k≤6→1000 * er (1 / 8796093022208) (288 / 9007199254740992) k≤1000 * (k:Rat)+1:=by
 intro k hk
 have h:k = 0 ∨ k = 1 ∨ k = 2 ∨ k = 3 ∨ k = 4 ∨ k = 5 ∨ k = 6:=by omega
 rcases h with rfl | rfl | rfl | rfl | rfl | rfl | rfl <;> decide +kernel
theorem steps_bd {n:Nat} {ms:List ((Nat→Rat) × Rat)} {y z:Nat→Rat} {q:Rat} (hm:Mirs n (1 / 8796093022208) ms) (hl:ms.length≤6) (hs:Steps n (288 / 9007199254740992) ms y z) (hq:Bd n y q):Bd n z (1001 / 1000 * q):=by
 have b1:=steps_err ms y z q hm hs hq
 have b2:=run_bd ms y q hm hq
 have q0:=hq.1
 have g:=gw_six _ hl
 have e:=er_six _ hl
 have hk:(ms.length:Rat)≤6:=Rat.natCast_le_natCast.2 hl
 have m1:=Rat.mul_nonneg (show 0≤1000001 - 1000000 * gw (1 / 8796093022208) ms.length by grind) q0
 have m2:=Rat.mul_nonneg (show 0≤7 - er (1 / 8796093022208) (288 / 9007199254740992) ms.length by grind) q0
 refine ((b1.add b2).congr (fun i _=>(by grind:(z i+(-1) * runM n ms y i)+runM n ms y i = z i))).mono ?_
 have e2:er (1 / 8796093022208) (288 / 9007199254740992) ms.length * (288 / 9007199254740992 * q) = 288 / 9007199254740992 * (er (1 / 8796093022208) (288 / 9007199254740992) ms.length * q):=by grind
 rw [e2]
 generalize er (1 / 8796093022208) (288 / 9007199254740992) ms.length = E at *
 generalize gw (1 / 8796093022208) ms.length = G at *
 have e3:(7 - E) * q = 7 * q - E * q:=by grind
 have e4:(1000001 - 1000000 * G) * q = 1000001 * q - 1000000 * (G * q):=by grind
 rw [e3] at m2
 rw [e4] at m1
 generalize E * q = z1 at *
 generalize G * q = z2 at *
 grind
theorem fc_mem (xs:List Nat) (x:Nat) (h:x ∈ xs):∃ i,i < xs.length∧fc xs i = fQ x:=by
 obtain ⟨i,hi,rfl⟩:=List.mem_iff_getElem.1 h
 refine ⟨i,hi,?_⟩
 unfold fc
 rw [List.getD_eq_getElem?_getD,List.getElem?_eq_getElem hi]
 rfl
theorem Fac.sizes {n c j:Nat} {A:Nat→Nat→Rat} {ms:List ((Nat→Rat) × Rat)} {C:Nat→List Nat} (hC:Cols n c A) (h:Fac n c A ms C j) (hj:j≤6) (k:Nat) (hk:k < c) (hjk:j≤k) :
  (∀ y ∈ C k,ab (fQ y)≤p2 100)∧s1Q ((C k).drop j)≤p2 900∧((∀ y ∈ C k,fQ y = 0) ∨ ∀ a,Bd (C k).length (fc (C k)) a→1267650600228229401496703205376 * p2 (-1075)≤a):=by
 have hl:=h.len
 obtain ⟨c1,c2⟩:=h.cols k hk
 have hs:=h.rest k hk hjk
 have b:=steps_bd h.mirs (by omega) hs (hC.size k hk)
 have P:=p2_pos 62
 have p100:16 * p2 62≤p2 100∧p2 100≤p2 900:=by
  have h1:=p2_mono (show (62+1+1+1+1:Int)≤100 by decide)
  simp only [p2_succ] at h1
  exact ⟨by grind,p2_mono (by decide)⟩
 refine ⟨fun y hy=>?_,?_,?_⟩
 ·obtain ⟨i,hi,e⟩:=fc_mem _ _ hy
  have k:=b.at (k:=i) (by omega)
  rw [e] at k
  grind
 ·have h6:=hC.six
  have k:=s1_bd (C k) j (by omega) _ (by rw [c1];exact b)
  grind
 ·rcases hC.low k hk with z | ⟨i,hi,z⟩
  ·refine .inl (fun y hy=>?_)
   obtain ⟨i,hi,e⟩:=fc_mem _ _ hy
   rw [← e]
   exact steps_noughts ms _ _ h.mirs hs z i (by omega)
  ·refine .inr (fun a ha=>?_)
   rw [c1] at ha
   have lo:=steps_low (by grind) (by grind) (by grind) ms _ _ a h.mirs hs ha
   have k:=lo.at hi
   have p6:=p2_mono (show ((ms.length:Nat):Int)≤6 by omega)
   have m:=Rat.mul_le_mul_of_nonneg_left p6 ha.1
   have e64:p2 6 = 64:=by rw [show (6:Int) = ((6:Nat):Int) by rfl,p2_nat];rfl
   have h66:p2 (-60) = 64 * p2 (-66):=by rw [show (-60:Int) = 6+-66 by rfl,p2_add,e64]
   have et:=eta_p2 (-202) (by decide)
   have m2:=p2_mono (show (-202:Int)≤-66 by decide)
   rw [e64] at m
   grind
end Go.Proofs.YtdhmglmccafbnaaGreatDoor
namespace Go.Proofs.YtdhmglmccafbnaaGreatDoor
open Go.RowKit
def stC (C:Nat→List Nat) (j t b:Nat) (v:List Nat) (k:Nat):List Nat :=
 if k < j then C k else if k = j then (C k).take j ++ b :: List.replicate (v.length - 1) 0 else (C k).take j ++ apV (mV t (dtV 0 v ((C k).drop j))) v ((C k).drop j)
theorem ap_lt (t:Nat):∀ (vs ys:List Nat),(∀ y ∈ ys,y < 18446744073709551616)→∀ u ∈ apV t vs ys,u < 18446744073709551616:=by
 intro vs
 induction vs with
 | nil=>intro ys _ u hu;cases ys <;> cases hu
 | cons v vs ih =>
  intro ys h u hu
  cases ys with
  | nil=>cases hu
  | cons y ys =>
   rcases List.mem_cons.1 hu with rfl | hu
   ·exact aV_lt _ _ (h y List.mem_cons_self) (fN_lt _ (mV_lt _ _))
   ·exact ih ys (fun w hw=>h w (List.mem_cons_of_mem _ hw)) u hu
theorem Fac.mirror {n c j:Nat} {A:Nat→Nat→Rat} {ms:List ((Nat→Rat) × Rat)} {C:Nat→List Nat} (hC:Cols n c A) (h:Fac n c A ms C j) (hj:j < c) (a b d t:Nat) (xs vs:List Nat) (hX:(C j).drop j = a :: xs)
  (hb:b < 18446744073709551616) (fb:fFin b = true) (hlow:p2 (-101)≤ab (fQ b))
  (hs:(fQ b = fQ (nrV (a :: xs))∧fQ a≤0) ∨ (fQ b = -fQ (nrV (a :: xs))∧0≤fQ a)) (hd:d = aV a (fN b)) (ht:t = dV (aV b (fN a)) b) (hv:vs = xs.map (fun x=>dV x d)) :
  Fac n c A (ms ++ [(vl j (4607182418800017408 :: vs),fQ t)]) (stC C j t b (4607182418800017408 :: vs)) (j+1):=by
 have h6:=hC.six
 obtain ⟨cj1,cj2⟩:=h.cols j hj
 have hjn:j < n:=by
  have k:((C j).drop j).length = xs.length+1:=by rw [hX];rfl
  rw [List.length_drop] at k
  omega
 obtain ⟨z1,z2,z3⟩:=h.sizes hC (by omega) j hj (Nat.le_refl _)
 obtain ⟨q1,q2,q3,q4,q5,u,us,q6,q7,q8⟩:=qr_mirror n j a b d t (C j) xs vs cj1 h6 hX (fun y hy=>⟨(cj2 y hy).1,(cj2 y hy).2,z1 y hy⟩) hb fb hlow hs hd ht hv
 have hl:=h.len
 have hvl:(4607182418800017408 :: vs).length - 1 = xs.length:=by rw [hv];simp
 -- the columns that come out
 have S1:∀ k,k < j→stC C j t b (4607182418800017408 :: vs) k = C k:=fun k hk=>by unfold stC;rw [if_pos hk]
 have S2:stC C j t b (4607182418800017408 :: vs) j = (C j).take j ++ b :: List.replicate us.length 0:=by
  unfold stC
  rw [if_neg (by omega),if_pos rfl,hvl,q7]
 have S3:∀ k,j < k→stC C j t b (4607182418800017408 :: vs) k = (C k).take j ++ apV (mV t (dtV 0 (4607182418800017408 :: vs) ((C k).drop j))) (4607182418800017408 :: vs) ((C k).drop j):=fun k hk=>by
  unfold stC
  rw [if_neg (by omega),if_neg (by omega)]
 generalize hv1:4607182418800017408 :: vs = v at *
 have col:=fun k (hk:k < c) (hjk:j≤k)=>by
  obtain ⟨s1,s2,s3⟩:=h.sizes hC (by omega) k hk hjk
  obtain ⟨c1,c2⟩:=h.cols k hk
  exact col_stepA j t v (C k) (by omega) (by rw [c1];exact q5) q2 q3 q4 (fun y hy=>(c2 y hy).2) s2 s3
 refine ⟨?_,?_,?_,?_,?_⟩
 ·intro m hm
  rcases List.mem_append.1 hm with g | g
  ·exact h.mirs m g
  ·rw [List.mem_singleton.1 g]
   exact q1
 ·rw [List.length_append,List.length_singleton]
  omega
 ·intro k hk
  obtain ⟨c1,c2⟩:=h.cols k hk
  rcases Nat.lt_trichotomy k j with g | g | g
  ·rw [S1 k g]
   exact ⟨c1,c2⟩
  ·subst g
   rw [S2]
   have tl:((C k).take k).length = k:=by rw [List.length_take];omega
   have q5':k+v.length = n:=q5
   have hvl2:v.length = us.length+1:=by
    rw [q7,← hvl,← hv1];simp
   refine ⟨by rw [List.length_append,tl,List.length_cons,List.length_replicate];omega,fun y hy=>?_⟩
   rcases List.mem_append.1 hy with g | g
   ·exact c2 y (List.mem_of_mem_take g)
   ·rcases List.mem_cons.1 g with rfl | g
    ·exact ⟨hb,fb⟩
    ·rw [(List.mem_replicate.1 g).2]
     exact ⟨by decide,by decide⟩
  ·rw [S3 k g]
   obtain ⟨f1,f2,_⟩:=col k hk (by omega)
   refine ⟨by rw [f2];exact c1,fun y hy=>⟨?_,f1 y hy⟩⟩
   rcases List.mem_append.1 hy with g | g
   ·exact (c2 y (List.mem_of_mem_take g)).1
   ·exact ap_lt _ _ _ (fun w hw=>(c2 w (List.mem_of_mem_drop hw)).1) y g
 ·intro k hk hjk
  rw [S3 k (by omega)]
  obtain ⟨c1,c2⟩:=h.cols k hk
  obtain ⟨_,_,f3⟩:=col k hk (by omega)
  rw [c1] at f3
  exact steps_snoc n _ (vl j v,fQ t) ms _ _ _ (h.rest k hk (by omega)) f3
 ·intro k hk hkj
  rcases Nat.lt_or_ge k j with g | g
  ·rw [S1 k g]
   obtain ⟨d1,ms1,ns,z,d2,d3,d4,d5⟩:=h.done k hk g
   refine ⟨d1,ms1,ns ++ [(vl j v,fQ t)],z,by rw [d2,List.append_assoc],d3,d4,fun m hm=>?_⟩
   rcases List.mem_append.1 hm with g2 | g2
   ·exact d5 m g2
   ·rw [List.mem_singleton.1 g2]
    exact dt_apart n j v _ (fun i hi hji=>d1 i hi (by omega))
  ·have e:k = j:=by omega
   subst e
   rw [S2]
   obtain ⟨_,_,f3⟩:=col k hk (Nat.le_refl _)
   rw [cj1,hX,q6] at f3
   have tl:((C k).take k).length = k:=by rw [List.length_take];omega
   refine ⟨fun i hi hki=>?_,ms ++ [(vl k v,fQ t)],[],fc ((C k).take k ++ u :: us),by rw [List.append_nil],steps_snoc n _ (vl k v,fQ t) ms _ _ _ (h.rest k hk (Nat.le_refl _)) f3,fun q hq=>?_,fun m hm=>by cases hm⟩
   ·obtain ⟨p,rfl⟩:∃ p,i = k+(p+1):=⟨i - k - 1,by omega⟩
    have e2:=fc_right ((C k).take k) (b :: List.replicate us.length 0) (p+1)
    rw [tl] at e2
    rw [e2]
    unfold fc
    rw [List.getD_eq_getElem?_getD,List.getElem?_cons_succ,List.getElem?_replicate]
    split <;> exact fQ_0
   ·have b1:=steps_bd h.mirs (by omega) (h.rest k hk (Nat.le_refl _)) hq
    have q0:=hq.1
    exact (q8 _ b1).mono (by grind)
end Go.Proofs.YtdhmglmccafbnaaGreatDoor
namespace Go.Proofs.YtdhmglmccafbnaaGreatDoor
open Go.RowKit
theorem Fac.same {n c j:Nat} {A:Nat→Nat→Rat} {ms:List ((Nat→Rat) × Rat)} {C D:Nat→List Nat} (h:Fac n c A ms C j) (hD:∀ k,k < c→(D k).length = n∧∀ y ∈ D k,y < 18446744073709551616∧fFin y = true)
  (hv:∀ k,k < c→∀ i,i < n→fc (D k) i = fc (C k) i) (h0:j < c→∀ i,i < n→j < i→fc (C j) i = 0):Fac n c A ms D (j+1):=by
 refine ⟨h.mirs,by have:=h.len;omega,hD,fun k hk hjk=>?_,fun k hk hkj=>?_⟩
 ·exact steps_end n _ ms _ _ _ (h.rest k hk (by omega)) (fun i hi=>(hv k hk i hi).symm)
 ·rcases Nat.lt_or_ge k j with g | g
  ·obtain ⟨d1,ms1,ns,z,d2,d3,d4,d5⟩:=h.done k hk g
   refine ⟨fun i hi hki=>by rw [hv k hk i hi];exact d1 i hi hki,ms1,ns,z,d2,d3,fun q hq=>(d4 q hq).congr (fun i hi=>by rw [hv k hk i hi]),fun m hm=>?_⟩
   rw [← d5 m hm]
   exact dt_congr (fun _ _=>rfl) (fun i hi=>hv k hk i hi)
  ·have e:k = j:=by omega
   subst e
   refine ⟨fun i hi hki=>by rw [hv k hk i hi];exact h0 hk i hi hki,ms,[],fc (C k),by rw [List.append_nil],h.rest k hk (Nat.le_refl _),fun q hq=>?_,fun m hm=>by cases hm⟩
   have q0:=hq.1
   exact ((Bd.nought n).congr (fun i hi=>(by rw [hv k hk i hi];grind:(0:Rat) = fc (D k) i+(-1) * fc (C k) i))).mono (by grind)
theorem ap_same (t:Nat) (ft:fFin t = true) (t0:fQ t = 0):∀ (vs ys:List Nat),vs.length = ys.length→(∀ v ∈ vs,fFin v = true)→(∀ y ∈ ys,y < 18446744073709551616∧fFin y = true∧ab (fQ y) < p2 1023)→lessQ 0 0 vs ys (apV t vs ys):=by
 intro vs
 induction vs with
 | nil =>
  intro ys h _ _
  cases ys with
  | nil=>exact trivial
  | cons y ys=>simp at h
 | cons v vs ih =>
  intro ys h hv hy
  cases ys with
  | nil=>simp at h
  | cons y ys =>
   obtain ⟨y0,y1,y2⟩:=hy y List.mem_cons_self
   obtain ⟨m1,m2⟩:=mul_noughts t v ft (hv v List.mem_cons_self) (by rw [t0];grind)
   have pl:=mV_lt t v
   have fn:fFin (fN (mV t v)) = true:=by rw [fFin_fN _ pl];exact m1
   have qn:=fQ_fN _ pl
   obtain ⟨a1,a2⟩:=add_same y (fN (mV t v)) y0 y1 fn (by rw [qn,m2];grind) y2
   show lessQ 0 0 (v :: vs) (y :: ys) (aV y (fN (mV t v)) :: apV t vs ys)
   unfold lessQ
   refine ⟨⟨a1,?_⟩,ih ys (by simpa using h) (fun w hw=>hv w (List.mem_cons_of_mem _ hw)) (fun w hw=>hy w (List.mem_cons_of_mem _ hw))⟩
   rw [a2,show fQ y - (fQ y - 0 * fQ v) = 0 by grind,show ab (0:Rat) = 0 by unfold ab;grind]
   grind
theorem less_same (vs ys us:List Nat) (h:lessQ 0 0 vs ys us):us.length = ys.length∧∀ i,i < ys.length→fc us i = fc ys i:=by
 obtain ⟨h1,h2⟩:=less_at 0 0 vs ys us h
 refine ⟨h1,fun i hi=>?_⟩
 have k:=h2 i hi
 have l:=le_ab (fc us i - (fc ys i - 0 * fc vs i))
 grind
theorem Fac.final {n c j:Nat} {A:Nat→Nat→Rat} {ms:List ((Nat→Rat) × Rat)} {C:Nat→List Nat} (hC:Cols n c A) (h:Fac n c A ms C j) (hj:j≤6) (hrest:∀ k,k < c→j≤k→n≤k+1) (k:Nat) (hk:k < c) (q:Rat) (hq:Bd n (A k) q) :
  Bd n (fun i=>fc (C k) i+(-1) * runM n ms (A k) i) (4040 / 9007199254740992 * q)∧∀ i,i < n→k < i→fc (C k) i = 0:=by
 have hl:=h.len
 have h6:=hC.six
 have q0:=hq.1
 have num:∀ l,l≤6→er (1 / 8796093022208) (288 / 9007199254740992) l * (288 / 9007199254740992 * q)≤1730 / 9007199254740992 * q:=fun l hl6=>by
  have e:=er_six l hl6
  have hk:(l:Rat)≤6:=Rat.natCast_le_natCast.2 hl6
  have m2:=Rat.mul_nonneg (show 0≤6001 - 1000 * er (1 / 8796093022208) (288 / 9007199254740992) l by grind) q0
  generalize er (1 / 8796093022208) (288 / 9007199254740992) l = E at *
  have e3:(6001 - 1000 * E) * q = 6001 * q - 1000 * (E * q):=by grind
  rw [e3] at m2
  have e2:E * (288 / 9007199254740992 * q) = 288 / 9007199254740992 * (E * q):=by grind
  rw [e2]
  generalize E * q = z1 at *
  grind
 rcases Nat.lt_or_ge k j with g | g
 ·obtain ⟨d1,ms1,ns,z,d2,d3,d4,d5⟩:=h.done k hk g
  refine ⟨?_,d1⟩
  have hm:=h.mirs
  rw [d2] at hm hl ⊢
  rw [List.length_append] at hl
  refine (cleared_err hm d3 hq (d4 q hq) d5).mono ?_
  have n1:=num ms1.length (by omega)
  have g1:=gw_six ns.length (by omega)
  have e0:=er_0 (1 / 8796093022208) (288 / 9007199254740992) (by grind) (by grind) ms1.length
  have w0:=Rat.mul_nonneg e0 (show 0≤288 / 9007199254740992 * q by grind)
  generalize er (1 / 8796093022208) (288 / 9007199254740992) ms1.length * (288 / 9007199254740992 * q) = W at *
  have m:=Rat.mul_nonneg (show 0≤1000001 - 1000000 * gw (1 / 8796093022208) ns.length by grind) (show 0≤2300 / 9007199254740992 * q+W by grind)
  generalize gw (1 / 8796093022208) ns.length = G at *
  have e3:(1000001 - 1000000 * G) * (2300 / 9007199254740992 * q+W) = 1000001 * (2300 / 9007199254740992 * q+W) - 1000000 * (G * (2300 / 9007199254740992 * q+W)):=by grind
  rw [e3] at m
  generalize G * (2300 / 9007199254740992 * q+W) = Z at *
  grind
 ·refine ⟨(steps_err ms _ _ q h.mirs (h.rest k hk g) hq).mono ?_,fun i hi hki=>?_⟩
  ·have n1:=num ms.length (by omega)
   grind
  ·have:=hrest k hk g
   omega
end Go.Proofs.YtdhmglmccafbnaaGreatDoor
