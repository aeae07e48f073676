/- Part 19 of the texts. -/
import Derived.Test.YtdhmglmccafbnaaGreatDoorPartu18
import Derived.Test.YtdhmglmccafbnaaGreatDoorPartu14
import Derived.Test.YtdhmglmccafbnaaGreatDoorPartu13
import Derived.Deep.Cut
import Derived.BigQuiet
import Derived.Test.YtdhmglmccafbnaaGreatDoorPartu12
import Derived.Test.YtdhmglmccafbnaaGreatDoorPartu16
import Derived.Test.YtdhmglmccafbnaaGreatDoorPartu08
import Derived.Test.YtdhmglmccafbnaaGreatDoorPartu05
import Derived.Test.YtdhmglmccafbnaaGreatDoorPartu15
import Derived.Test.YtdhmglmccafbnaaGreatDoorPartu10
import Derived.Test.YtdhmglmccafbnaaGreatDoorPartu09
import Derived.Deep.RegionHeld3
set_option maxHeartbeats 4000000
set_option maxRecDepth 20000
namespace Go.Proofs.YtdhmglmccafbnaaGreatDoor
open Go.RowKit
def fc (xs:List Nat) (i:Nat):Rat:=fQ (xs.getD i 0)
def vl (j:Nat) (xs:List Nat) (i:Nat):Rat:=if i < j then 0 else fc xs (i - j)
theorem fQ_0:fQ 0 = 0:=fQ_nought 0 (by decide)
theorem sm_shift:∀ (n:Nat) (f:Nat→Rat),sm (n+1) f = f 0+sm n (fun i=>f (i+1)):=by
 intro n
 induction n with
 | zero=>intro f;show (0:Rat)+f 0 = f 0+0;grind
 | succ n ih =>
  intro f
  show sm (n+1) f+f (n+1) = f 0+(sm n (fun i=>f (i+1))+f (n+1))
  rw [ih]
  grind
theorem sm_split (j:Nat) (f:Nat→Rat):∀ n,sm (j+n) f = sm j f+sm n (fun i=>f (j+i)):=by
 intro n
 induction n with
 | zero=>show sm j f = sm j f+0;grind
 | succ n ih =>
  show sm (j+n) f+f (j+n) = sm j f+(sm n (fun i=>f (j+i))+f (j+n))
  rw [ih]
  grind
theorem sm_noughts:∀ (n:Nat) (f:Nat→Rat),(∀ i,i < n→f i = 0)→sm n f = 0:=by
 intro n
 induction n with
 | zero=>intro f _;rfl
 | succ n ih =>
  intro f h
  show sm n f+f n = 0
  rw [ih f (fun i hi=>h i (by omega)),h n (by omega)]
  grind
theorem dt_fc:∀ (vs ys:List Nat),vs.length = ys.length→dt vs.length (fc vs) (fc ys) = dtQ vs ys:=by
 intro vs
 induction vs with
 | nil =>
  intro ys h
  have:ys = []:=by cases ys with | nil=>rfl | cons y ys=>simp at h
  subst this
  rfl
 | cons v vs ih =>
  intro ys h
  cases ys with
  | nil=>simp at h
  | cons y ys =>
   have e:=ih ys (by simpa using h)
   have e2:dtQ (v :: vs) (y :: ys) = fQ v * fQ y+dtQ vs ys:=rfl
   rw [e2,← e]
   show sm (vs.length+1) _ = _
   rw [sm_shift]
   rfl
theorem sum_fc:∀ (xs:List Nat),dt xs.length (fc xs) (fc xs) = sumQ xs:=by
 intro xs
 induction xs with
 | nil=>rfl
 | cons x xs ih =>
  have e2:sumQ (x :: xs) = fQ x * fQ x+sumQ xs:=rfl
  rw [e2,← ih]
  show sm (xs.length+1) _ = _
  rw [sm_shift]
  rfl
theorem dt_vl (j n:Nat) (vs:List Nat) (y:Nat→Rat):dt (j+n) (vl j vs) y = dt n (fc vs) (fun i=>y (j+i)):=by
 unfold dt
 rw [sm_split,sm_noughts j _ (fun i hi=>by unfold vl;rw [if_pos hi];grind)]
 rw [show ∀ z:Rat,(0:Rat)+z = z from fun z=>by grind]
 exact sm_congr (fun i _=>by
  show vl j vs (j+i) * y (j+i) = fc vs i * y (j+i)
  unfold vl
  rw [if_neg (by omega),show j+i - j = i by omega])
theorem fc_drop (xs:List Nat) (j i:Nat):fc xs (j+i) = fc (xs.drop j) i:=by
 unfold fc
 rw [List.getD_eq_getElem?_getD,List.getD_eq_getElem?_getD,List.getElem?_drop]
theorem fc_left (xs ys:List Nat) (i:Nat) (h:i < xs.length):fc (xs ++ ys) i = fc xs i:=by
 unfold fc
 rw [List.getD_eq_getElem?_getD,List.getD_eq_getElem?_getD,List.getElem?_append_left h]
theorem fc_right (xs ys:List Nat) (i:Nat):fc (xs ++ ys) (xs.length+i) = fc ys i:=by
 unfold fc
 rw [List.getD_eq_getElem?_getD,List.getD_eq_getElem?_getD,List.getElem?_append_right (by omega),show xs.length+i - xs.length = i by omega]
theorem fc_take (xs:List Nat) (j i:Nat) (h:i < j):fc (xs.take j) i = fc xs i:=by
 unfold fc
 rw [List.getD_eq_getElem?_getD,List.getD_eq_getElem?_getD,List.getElem?_take_of_lt h]
theorem less_at (c E:Rat):∀ (vs ys us:List Nat),lessQ c E vs ys us→us.length = ys.length∧∀ i,i < ys.length→9007199254740992 * ab (fc us i - (fc ys i - c * fc vs i))≤E:=by
 intro vs
 induction vs with
 | nil =>
  intro ys us h
  cases ys with
  | cons y ys=>exact absurd h (by unfold lessQ;exact id)
  | nil =>
   cases us with
   | cons u us=>exact absurd h (by unfold lessQ;exact id)
   | nil=>exact ⟨rfl,fun i hi=>absurd hi (by simp)⟩
 | cons v vs ih =>
  intro ys us h
  cases ys with
  | nil=>exact absurd h (by unfold lessQ;exact id)
  | cons y ys =>
   cases us with
   | nil=>exact absurd h (by unfold lessQ;exact id)
   | cons u us =>
    unfold lessQ at h
    obtain ⟨⟨_,h1⟩,h2⟩:=h
    obtain ⟨i1,i2⟩:=ih ys us h2
    refine ⟨by simp [i1],fun i hi=>?_⟩
    cases i with
    | zero=>exact h1
    | succ i=>exact i2 i (by simpa using hi)
theorem bd_points (n:Nat) (hn:n≤6) (x:Nat→Rat) (e:Rat) (he:0≤e) (h:∀ i,i < n→ab (x i)≤e):Bd n x (5 / 2 * e):=by
 refine ⟨by grind,?_⟩
 have k:∀ m,m≤n→dt m x x≤(m:Rat) * (e * e):=by
  intro m
  induction m with
  | zero=>intro _;show (0:Rat)≤((0:Nat):Rat) * _;have:((0:Nat):Rat) = 0:=rfl;rw [this];grind
  | succ m ih =>
   intro hm
   have i1:=ih (by omega)
   have e1:dt (m+1) x x = dt m x x+x m * x m:=rfl
   have e2:((m+1:Nat):Rat) = (m:Rat)+1:=by rw [Rat.natCast_add];rfl
   have q:x m * x m≤e * e:=by
    have h1:=h m (by omega)
    have h0:=ab_0 (x m)
    have e3:x m * x m = ab (x m) * ab (x m):=by rw [← ab_mul];exact (ab_pos (sq_nonneg _)).symm
    have k1:=Rat.mul_nonneg (show 0≤e - ab (x m) by grind) (show 0≤e+ab (x m) by grind)
    rw [e3]
    grind
   rw [e1,e2]
   grind
 have k2:=k n (Nat.le_refl _)
 have hn2:(n:Rat)≤6:=Rat.natCast_le_natCast.2 hn
 have k3:=Rat.mul_nonneg (show 0≤6 - (n:Rat) by grind) (sq_nonneg e)
 have k4:=sq_nonneg e
 grind
theorem col_step (j tau:Nat) (Y:Rat) (vs Ys:List Nat) (hl:Ys.length≤6) (hlen:j+vs.length = Ys.length) (ft:fFin tau = true) (ht:1000 * ab (fQ tau)≤2001) (hv:∀ v ∈ vs,fFin v = true∧1000 * ab (fQ v)≤1001) (hy:∀ y ∈ Ys,fFin y = true)
  (hYs:s1Q (Ys.drop j)≤Y) (hY:Y≤p2 900) (hη:1267650600228229401496703205376 * p2 (-1075)≤Y) :
  Bd Ys.length (fun i=>fc (Ys.take j ++ apV (mV tau (dtV 0 vs (Ys.drop j))) vs (Ys.drop j)) i+(-1) * mir Ys.length (vl j vs) (fQ tau) (fc Ys) i) (115 / 9007199254740992 * Y):=by
 have hdl:(Ys.drop j).length = vs.length:=by rw [List.length_drop];omega
 have hls:=col_lessY tau Y vs (Ys.drop j) (by omega) hdl.symm ft ht hv (fun y h=>hy y (List.mem_of_mem_drop h)) hYs hY hη
 generalize apV (mV tau (dtV 0 vs (Ys.drop j))) vs (Ys.drop j) = us at *
 obtain ⟨l1,l2⟩:=less_at _ _ vs (Ys.drop j) us hls
 have hdt:dt Ys.length (vl j vs) (fc Ys) = dtQ vs (Ys.drop j):=by
  rw [← hlen,dt_vl,← dt_fc vs (Ys.drop j) hdl.symm]
  exact dt_congr (fun _ _=>rfl) (fun i _=>fc_drop Ys j i)
 have hp:=p2_pos (-1075)
 have b:=bd_points Ys.length hl (fun i=>fc (Ys.take j ++ us) i+(-1) * mir Ys.length (vl j vs) (fQ tau) (fc Ys) i) (46 / 9007199254740992 * Y) (by grind) (fun i hi=>by
  have tl:(Ys.take j).length = j:=by rw [List.length_take];omega
  unfold mir
  rw [hdt]
  rcases Nat.lt_or_ge i j with g | g
  ·have e1:=fc_left (Ys.take j) us i (by omega)
   rw [fc_take Ys j i g] at e1
   have e2:vl j vs i = 0:=by unfold vl;rw [if_pos g]
   rw [e1,e2,show fc Ys i+(-1) * (fc Ys i+-(fQ tau * dtQ vs (Ys.drop j)) * 0) = 0 by grind]
   unfold ab
   grind
  ·obtain ⟨k,rfl⟩:∃ k,i = j+k:=⟨i - j,by omega⟩
   have e1:=fc_right (Ys.take j) us k
   rw [tl] at e1
   have e2:vl j vs (j+k) = fc vs k:=by unfold vl;rw [if_neg (by omega),show j+k - j = k by omega]
   have e3:=fc_drop Ys j k
   have h:=l2 k (by omega)
   rw [e1,e2,e3,show fc us k+(-1) * (fc (Ys.drop j) k+-(fQ tau * dtQ vs (Ys.drop j)) * fc vs k) = fc us k - (fc (Ys.drop j) k - fQ tau * dtQ vs (Ys.drop j) * fc vs k) by grind]
   generalize ab (fc us k - (fc (Ys.drop j) k - fQ tau * dtQ vs (Ys.drop j) * fc vs k)) = z at *
   grind)
 exact b.mono (by grind)
end Go.Proofs.YtdhmglmccafbnaaGreatDoor
namespace Go.Proofs.YtdhmglmccafbnaaGreatDoor
open Go.RowKit
theorem mul_noughts (a b:Nat) (fa:fFin a = true) (fb:fFin b = true) (h:fQ a * fQ b = 0):fFin (mV a b) = true∧fQ (mV a b) = 0:=by
 have a0:ab (0:Rat) = 0:=by unfold ab;grind
 have hf:=mul_fin a b fa fb (by rw [h,a0];exact p2_pos _)
 refine ⟨hf,?_⟩
 have e:=mul_err a b fa fb hf
 rw [h,a0,show fQ (mV a b) - 0 = fQ (mV a b) by grind] at e
 rcases e with e | ⟨_,e⟩
 ·have:=le_ab (fQ (mV a b));have:=ab_0 (fQ (mV a b));grind
 ·have hp:=p2_pos (-1074)
  unfold fQ at e ⊢
  rw [ab_mul,ab_pos (Rat.le_of_lt hp)] at e
  obtain ⟨z,hz⟩:∃ z:Int,fZ (mV a b) = z:=⟨_,rfl⟩
  rw [hz] at e ⊢
  rcases Int.lt_trichotomy z 0 with g | g | g
  ·exfalso
   have k:(z:Rat)≤((-1:Int):Rat):=Rat.intCast_le_intCast.2 (by omega)
   have k2:((-1:Int):Rat) = -1:=rfl
   have l:=le_ab (z:Rat)
   have m:=Rat.mul_le_mul_of_nonneg_left (show 1≤ab (z:Rat) by grind) (Rat.le_of_lt hp)
   generalize p2 (-1074) = P at *
   grind
  ·rw [g]
   have k2:((0:Int):Rat) = 0:=rfl
   rw [k2]
   grind
  ·exfalso
   have k:((1:Int):Rat)≤(z:Rat):=Rat.intCast_le_intCast.2 (by omega)
   have k2:((1:Int):Rat) = 1:=rfl
   have l:=le_ab (z:Rat)
   have m:=Rat.mul_le_mul_of_nonneg_left (show 1≤ab (z:Rat) by grind) (Rat.le_of_lt hp)
   generalize p2 (-1074) = P at *
   grind
theorem add_noughts (a b:Nat) (fa:fFin a = true) (fb:fFin b = true) (h:fQ a+fQ b = 0):fFin (aV a b) = true∧fQ (aV a b) = 0:=by
 have a0:ab (0:Rat) = 0:=by unfold ab;grind
 have hf:=add_fin a b fa fb (by rw [h,a0];exact p2_pos _)
 refine ⟨hf,?_⟩
 have e:=add_err a b fa fb hf
 rw [h,a0,show fQ (aV a b) - 0 = fQ (aV a b) by grind] at e
 have:=le_ab (fQ (aV a b));have:=ab_0 (fQ (aV a b));grind
theorem dot_noughts:∀ (vs ys:List Nat) (s:Nat),fFin s = true→fQ s = 0→(∀ v ∈ vs,fFin v = true)→(∀ y ∈ ys,fFin y = true∧fQ y = 0)→fFin (dtV s vs ys) = true∧fQ (dtV s vs ys) = 0:=by
 intro vs
 induction vs with
 | nil =>
  intro ys s f1 f2 _ _
  have e:dtV s [] ys = s:=by cases ys <;> rfl
  rw [e]
  exact ⟨f1,f2⟩
 | cons v vs ih =>
  intro ys s f1 f2 hv hy
  cases ys with
  | nil=>exact ⟨f1,f2⟩
  | cons y ys =>
   obtain ⟨y1,y2⟩:=hy y List.mem_cons_self
   obtain ⟨m1,m2⟩:=mul_noughts v y (hv v List.mem_cons_self) y1 (by rw [y2];grind)
   obtain ⟨a1,a2⟩:=add_noughts s (mV v y) f1 m1 (by rw [f2,m2];grind)
   exact ih ys _ a1 a2 (fun w hw=>hv w (List.mem_cons_of_mem _ hw)) (fun w hw=>hy w (List.mem_cons_of_mem _ hw))
theorem ap_noughts (t:Nat) (ft:fFin t = true) (t0:fQ t = 0):∀ (vs ys:List Nat),vs.length = ys.length→(∀ v ∈ vs,fFin v = true)→(∀ y ∈ ys,fFin y = true∧fQ y = 0)→∀ E,0≤E→lessQ 0 E vs ys (apV t vs ys):=by
 intro vs
 induction vs with
 | nil =>
  intro ys h _ _ E _
  cases ys with
  | nil=>exact trivial
  | cons y ys=>simp at h
 | cons v vs ih =>
  intro ys h hv hy E hE
  cases ys with
  | nil=>simp at h
  | cons y ys =>
   obtain ⟨y1,y2⟩:=hy y List.mem_cons_self
   obtain ⟨m1,m2⟩:=mul_noughts t v ft (hv v List.mem_cons_self) (by rw [t0];grind)
   have pl:=mV_lt t v
   have fn:fFin (fN (mV t v)) = true:=by rw [fFin_fN _ pl];exact m1
   have qn:=fQ_fN _ pl
   obtain ⟨a1,a2⟩:=add_noughts y (fN (mV t v)) y1 fn (by rw [qn,m2,y2];grind)
   show lessQ 0 E (v :: vs) (y :: ys) (aV y (fN (mV t v)) :: apV t vs ys)
   unfold lessQ
   refine ⟨⟨a1,?_⟩,ih ys (by simpa using h) (fun w hw=>hv w (List.mem_cons_of_mem _ hw)) (fun w hw=>hy w (List.mem_cons_of_mem _ hw)) E hE⟩
   rw [a2,y2,show (0:Rat) - (0 - 0 * fQ v) = 0 by grind,show ab (0:Rat) = 0 by unfold ab;grind]
   grind
theorem fins_of:∀ (vs ys us:List Nat) (c E:Rat),lessQ c E vs ys us→∀ u ∈ us,fFin u = true:=by
 intro vs
 induction vs with
 | nil =>
  intro ys us c E h u hu
  cases ys with
  | cons y ys=>exact absurd h (by unfold lessQ;exact id)
  | nil =>
   cases us with
   | nil=>cases hu
   | cons w us=>exact absurd h (by unfold lessQ;exact id)
 | cons v vs ih =>
  intro ys us c E h u hu
  cases ys with
  | nil=>exact absurd h (by unfold lessQ;exact id)
  | cons y ys =>
   cases us with
   | nil=>cases hu
   | cons w us =>
    unfold lessQ at h
    rcases List.mem_cons.1 hu with rfl | hu
    ·exact h.1.1
    ·exact ih ys us c E h.2 u hu
theorem s1_bd (Ys:List Nat) (j:Nat) (hl:Ys.length≤6) (a:Rat) (hb:Bd Ys.length (fc Ys) a):s1Q (Ys.drop j)≤5 / 2 * a:=by
 have h0:=hb.1
 have h1:=hb.2
 rw [sum_fc] at h1
 have hd:sumQ (Ys.drop j)≤sumQ Ys:=by
  have key:∀ (zs:List Nat) (j:Nat),sumQ (zs.drop j)≤sumQ zs:=by
   intro zs
   induction zs with
   | nil=>intro j;rw [List.drop_nil];exact Rat.le_refl
   | cons z zs ih =>
    intro j
    cases j with
    | zero=>exact Rat.le_refl
    | succ j =>
     have i:=ih j
     have e:sumQ (z :: zs) = fQ z * fQ z+sumQ zs:=rfl
     have q:=sq_nonneg (fQ z)
     rw [List.drop_succ_cons,e]
     grind
  exact key Ys j
 have q:=s1Q_sq (Ys.drop j)
 have S0:=sumQ_nonneg (Ys.drop j)
 have hl2:((Ys.drop j).length:Rat)≤6:=Rat.natCast_le_natCast.2 (show (Ys.drop j).length≤6 by rw [List.length_drop];omega)
 have m:=Rat.mul_nonneg (show 0≤6 - ((Ys.drop j).length:Rat) by grind) S0
 refine le_of_sq (by grind) ?_
 have:=sq_nonneg a
 grind
theorem col_stepA (j tau:Nat) (vs Ys:List Nat) (hl:Ys.length≤6) (hlen:j+vs.length = Ys.length) (ft:fFin tau = true) (ht:1000 * ab (fQ tau)≤2001) (hv:∀ v ∈ vs,fFin v = true∧1000 * ab (fQ v)≤1001) (hy:∀ y ∈ Ys,fFin y = true)
  (hY:s1Q (Ys.drop j)≤p2 900) (hη:(∀ y ∈ Ys,fQ y = 0) ∨ ∀ a,Bd Ys.length (fc Ys) a→1267650600228229401496703205376 * p2 (-1075)≤a) :
  (∀ u ∈ Ys.take j ++ apV (mV tau (dtV 0 vs (Ys.drop j))) vs (Ys.drop j),fFin u = true)∧(Ys.take j ++ apV (mV tau (dtV 0 vs (Ys.drop j))) vs (Ys.drop j)).length = Ys.length ∧
  ∀ a,Bd Ys.length (fc Ys) a→Bd Ys.length (fun i=>fc (Ys.take j ++ apV (mV tau (dtV 0 vs (Ys.drop j))) vs (Ys.drop j)) i+(-1) * mir Ys.length (vl j vs) (fQ tau) (fc Ys) i) (288 / 9007199254740992 * a):=by
 have hdl:(Ys.drop j).length = vs.length:=by rw [List.length_drop];omega
 have tl:(Ys.take j).length = j:=by rw [List.length_take];omega
 have fin:∀ us c E,lessQ c E vs (Ys.drop j) us→(∀ u ∈ Ys.take j ++ us,fFin u = true)∧(Ys.take j ++ us).length = Ys.length:=by
  intro us c E hls
  refine ⟨fun u hu=>?_,?_⟩
  ·rcases List.mem_append.1 hu with h | h
   ·exact hy u (List.mem_of_mem_take h)
   ·exact fins_of _ _ _ _ _ hls u h
  ·rw [List.length_append,tl,(less_at _ _ _ _ _ hls).1,hdl]
   omega
 have hp:=p2_pos (-1075)
 have big:1267650600228229401496703205376 * p2 (-1075)≤p2 900:=by
  obtain ⟨q1,q2,q3⟩:=eta_small
  have h1:=p2_mono (show (0:Int)≤900 by decide)
  rw [p2_0] at h1
  grind
 rcases hη with hz | hη
 ·obtain ⟨d1,d2⟩:=dot_noughts vs (Ys.drop j) 0 (by decide) fQ_0 (fun v h=>(hv v h).1) (fun y h=>⟨hy y (List.mem_of_mem_drop h),hz y (List.mem_of_mem_drop h)⟩)
  obtain ⟨m1,m2⟩:=mul_noughts tau _ ft d1 (by rw [d2];grind)
  have hls:=ap_noughts _ m1 m2 vs (Ys.drop j) hdl.symm (fun v h=>(hv v h).1) (fun y h=>⟨hy y (List.mem_of_mem_drop h),hz y (List.mem_of_mem_drop h)⟩) 0 (by grind)
  generalize apV (mV tau (dtV 0 vs (Ys.drop j))) vs (Ys.drop j) = us at *
  obtain ⟨g1,g2⟩:=fin us _ _ hls
  refine ⟨g1,g2,fun a ha=>?_⟩
  have h0:=ha.1
  obtain ⟨l1,l2⟩:=less_at _ _ vs (Ys.drop j) us hls
  have fz:∀ i,fc Ys i = 0:=fun i=>by
   unfold fc
   rw [List.getD_eq_getElem?_getD]
   rcases Nat.lt_or_ge i Ys.length with g | g
   ·rw [List.getElem?_eq_getElem g]
    exact hz _ (List.getElem_mem g)
   ·rw [List.getElem?_eq_none g]
    exact fQ_0
  have hdt:dt Ys.length (vl j vs) (fc Ys) = 0:=sm_noughts _ _ (fun i _=>by show vl j vs i * fc Ys i = 0;rw [fz i];grind)
  refine ((Bd.nought Ys.length).congr (fun i hi=>?_)).mono (by grind)
  show (0:Rat) = _
  unfold mir
  rw [hdt,fz i]
  rcases Nat.lt_or_ge i j with g | g
  ·have e1:=fc_left (Ys.take j) us i (by omega)
   rw [fc_take Ys j i g,fz i] at e1
   rw [e1]
   grind
  ·obtain ⟨k,rfl⟩:∃ k,i = j+k:=⟨i - j,by omega⟩
   have e1:=fc_right (Ys.take j) us k
   rw [tl] at e1
   have h:=l2 k (by omega)
   rw [← fc_drop,fz (j+k)] at h
   have l:=le_ab (fc us k - (0 - 0 * fc vs k))
   have:fc us k = 0:=by grind
   rw [e1,this]
   grind
 ·have hls:=fun Y (h1:s1Q (Ys.drop j)≤Y) h2 h3=>col_lessY tau Y vs (Ys.drop j) (by omega) hdl.symm ft ht hv (fun y h=>hy y (List.mem_of_mem_drop h)) h1 h2 h3
  have hst:=fun Y (h1:s1Q (Ys.drop j)≤Y) h2 h3=>col_step j tau Y vs Ys hl hlen ft ht hv hy h1 h2 h3
  generalize apV (mV tau (dtV 0 vs (Ys.drop j))) vs (Ys.drop j) = us at *
  obtain ⟨g1,g2⟩:=fin us _ _ (hls (p2 900) hY Rat.le_refl big)
  refine ⟨g1,g2,fun a ha=>?_⟩
  have h0:=hη a ha
  have hs:=s1_bd Ys j hl a ha
  rcases Rat.le_total (a:=s1Q (Ys.drop j)) (b:=1267650600228229401496703205376 * p2 (-1075)) with g | g
  ·exact (hst _ g big Rat.le_refl).mono (by grind)
  ·exact (hst _ Rat.le_refl hY g).mono (by grind)
theorem mir_of (j t:Nat) (vs:List Nat) (n:Nat) (hn:n = j+vs.length) (h1:8796093022208 * ab (fQ t * sumQ vs - 2)≤1) (h2:0≤fQ t):Mir n (vl j vs) (fQ t) (1 / 8796093022208):=by
 have e:dt n (vl j vs) (vl j vs) = sumQ vs:=by
  rw [hn,dt_vl,← sum_fc]
  exact dt_congr (fun _ _=>rfl) (fun i _=>by
   show vl j vs (j+i) = fc vs i
   unfold vl
   rw [if_neg (by omega),show j+i - j = i by omega])
 refine ⟨by grind,by grind,?_,h2⟩
 rw [e]
 grind
end Go.Proofs.YtdhmglmccafbnaaGreatDoor
namespace Go.Proofs.YtdhmglmccafbnaaGreatDoor
open Go.RowKit
def aO (s t:Bool):Nat:=if (s && t) = true then 9223372036854775808 else 0
theorem nought_any (a b:Nat) (w:World) (ha:a < 18446744073709551616) (hb:b < 18446744073709551616) :
  Calls Tryz.prog 296 #[.int .u64 a,.int .u64 b] w fun e w'=>e = .returned (.int .u64 (aO (fS a) (fS b):Nat))∧Below w.heap.size w w':=by
 have C1:=hide (fun w'=>ssign_any a w' ha)
 have C2:=hide (fun w'=>ssign_any b w' hb)
 generalize fS a = s at *
 generalize fS b = t at *
 clear ha hb
 go_enter Tryz.func296,Tryz.ntmps296
 go_wp2_with fail
 refine (uH C1 _).mono ?_
 rintro e w1 ⟨rfl,hb1⟩
 cases s
 ·go_wp2
  go_ret
  exact ⟨rfl,hb1⟩
 ·go_wp2_with fail
  refine (uH C2 _).mono ?_
  rintro e w2 ⟨rfl,hb2⟩
  cases t
  ·go_wp2
   go_ret
   exact ⟨rfl,hb1.trans (hb2.mono hb1.size)⟩
  ·go_wp2
   go_ret
   exact ⟨rfl,hb1.trans (hb2.mono hb1.size)⟩
theorem dy_len {w:World} {n:Bool} {a:Option Addr} {l c:Nat} {e m X:Int} (h:IsDy w (.agg #[.bool n,.slice a l c,.int .i64 e]) m X):((l:Int) == 0) = decide (m = 0):=by
 obtain ⟨n',a',c',L',e1,_,e3,_,e5,_⟩:=h.parts
 simp only [Value.agg.injEq,Array.mk.injEq,List.cons.injEq,Value.slice.injEq] at e1
 have e2:=e1.2.1.2.1
 by_cases h0:m = 0
 ·have:L' = []:=(val_zero_of_canon L' e3).1 (by rw [e5,h0];rfl)
  rw [decide_eq_true h0,e2,this];rfl
 ·have:L'.length ≠ 0:=fun h1=>by
   have:L' = []:=List.length_eq_zero_iff.1 h1
   rw [this] at e5
   simp [val] at e5
   omega
  rw [decide_eq_false h0];simp;omega
theorem addFinite_z (a b:Nat) (z1 z2 X1 X2 X3:Int) (w:World) (o:Nat)
  (C1:∀ w',Below w.heap.size w w'→Calls Tryz.prog 207 #[.int .u64 a] w' fun r w''=>DyR w'' r 0 z1 X1∧Below w'.heap.size w' w'')
  (C2:∀ w',Below w.heap.size w w'→Calls Tryz.prog 207 #[.int .u64 b] w' fun r w''=>DyR w'' r 0 z2 X2∧Below w'.heap.size w' w'')
  (C3:∀ w' v u,Below w.heap.size w w'→IsDy w' v z1 X1→IsDy w' u z2 X2→Calls Tryz.prog 295 #[v,u] w' fun r w''=>DyR w'' r 0 0 X3∧Below w'.heap.size w' w'')
  (C4:∀ w',Calls Tryz.prog 296 #[.int .u64 a,.int .u64 b] w' fun r w''=>r = .returned (.int .u64 (o:Nat))∧Below w'.heap.size w' w'') :
  Calls Tryz.prog 277 #[.int .u64 a,.int .u64 b] w fun r w'=>r = .returned (.tuple #[.int .u64 (o:Nat),.int .u8 0])∧Below w.heap.size w w':=by
 have K1:=hide C1;have K2:=hide C2;have K3:=hide C3;have K4:=hide C4
 clear C1 C2 C3 C4
 go_enter Tryz.func277,Tryz.ntmps277
 go_wp2_with fail
 refine (uH K1 _ (Below.refl _ _)).mono ?_
 rintro e w1 ⟨⟨v,rfl,hv⟩,hb1⟩
 obtain ⟨n1,a1,c1,L1,rfl,i1⟩:=hv
 have hb1a:Below w1.heap.size w1 (w1.alloc (.cells #[.bool n1,.slice a1 L1.length c1,.int .i64 X1] 41)):=(Below.refl _ _).alloc (Nat.le_refl _) _
 have HV:=hide ((show IsDy w1 (.agg #[.bool n1,.slice a1 L1.length c1,.int .i64 X1]) z1 X1 from ⟨n1,a1,c1,L1,rfl,i1⟩).below hb1a)
 have X:=hide (Box3.new w1 (.bool n1) (.slice a1 L1.length c1) (.int .i64 X1))
 have B1:=hide (hb1.trans (hb1a.mono hb1.size))
 clear i1 hb1 hb1a K1
 go_wp2_with fail
 refine (uH K2 _ (uH B1)).mono ?_
 rintro e w2 ⟨⟨v,rfl,hv⟩,hb1⟩
 obtain ⟨n2,a2,c2,L2,rfl,i2⟩:=hv
 have hb1a:Below w2.heap.size w2 (w2.alloc (.cells #[.bool n2,.slice a2 L2.length c2,.int .i64 X2] 41)):=(Below.refl _ _).alloc (Nat.le_refl _) _
 have HU:=hide ((show IsDy w2 (.agg #[.bool n2,.slice a2 L2.length c2,.int .i64 X2]) z2 X2 from ⟨n2,a2,c2,L2,rfl,i2⟩).below hb1a)
 have HV2:=hide (((uH HV).below hb1).below hb1a)
 have x1:=((uH X).all hb1).all hb1a
 have x2:=Box3.new w2 (.bool n2) (.slice a2 L2.length c2) (.int .i64 X2)
 have B2:=hide ((uH B1).trans ((hb1.trans (hb1a.mono hb1.size)).mono (uH B1).size))
 have y0:=x1.c0;have y1:=x1.c1;have y2:=x1.c2;have u0:=x2.c0;have u1:=x2.c1;have u2:=x2.c2
 clear i2 hb1 hb1a K2 B1 HV X x1 x2
 go_wp2_with fail
 refine (uH K3 _ _ _ (uH B2) (uH HV2) (uH HU)).mono ?_
 rintro e w3 ⟨⟨v,rfl,hv⟩,hb1⟩
 clear y0 y1 y2 u0 u1 u2
 obtain ⟨n3,a3,c3,L3,rfl,i3⟩:=hv
 have hb1a:Below w3.heap.size w3 (w3.alloc (.cells #[.bool n3,.slice a3 L3.length c3,.int .i64 X3] 41)):=(Below.refl _ _).alloc (Nat.le_refl _) _
 have HX:=hide ((show IsDy w3 (.agg #[.bool n3,.slice a3 L3.length c3,.int .i64 X3]) 0 X3 from ⟨n3,a3,c3,L3,rfl,i3⟩).below hb1a)
 have hl:=dy_len (uH HX)
 rw [decide_eq_true rfl] at hl
 have B3:=hide ((uH B2).trans ((hb1.trans (hb1a.mono hb1.size)).mono (uH B2).size))
 have x3:=Box3.new w3 (.bool n3) (.slice a3 L3.length c3) (.int .i64 X3)
 have y0:=x3.c0;have y1:=x3.c1;have y2:=x3.c2
 clear i3 hb1 hb1a K3 B2 HV2 HU x3
 generalize L3.length = l3 at *
 go_wp2_with fail
 refine (uH K4 _).mono ?_
 rintro e w4 ⟨rfl,hb1⟩
 have B4:=hide ((uH B3).trans (hb1.mono (uH B3).size))
 clear hb1 K4 B3
 go_wp2
 exact bodyPost_ret (v:=.tuple #[.int .u64 o,.int .u8 0]) (by simp [results,Tryz.results277,go_sem]) rfl ⟨rfl,uH B4⟩
theorem addFinite_n (a b:Nat) (z1 z2 z3 X1 X2 X3 fl:Int) (w:World) (o:Nat) (h0:z3 ≠ 0)
  (C1:∀ w',Below w.heap.size w w'→Calls Tryz.prog 207 #[.int .u64 a] w' fun r w''=>DyR w'' r 0 z1 X1∧Below w'.heap.size w' w'')
  (C2:∀ w',Below w.heap.size w w'→Calls Tryz.prog 207 #[.int .u64 b] w' fun r w''=>DyR w'' r 0 z2 X2∧Below w'.heap.size w' w'')
  (C3:∀ w' v u,Below w.heap.size w w'→IsDy w' v z1 X1→IsDy w' u z2 X2→Calls Tryz.prog 295 #[v,u] w' fun r w''=>DyR w'' r 0 z3 X3∧Below w'.heap.size w' w'')
  (C4:∀ w' v,Below w.heap.size w w'→IsDy w' v z3 X3→Calls Tryz.prog 251 #[v] w' fun r w''=>r = .returned (.tuple #[.int .u64 (o:Nat),.int .u8 fl,.int .i64 0])∧Below w'.heap.size w' w'') :
  Calls Tryz.prog 277 #[.int .u64 a,.int .u64 b] w fun r w'=>r = .returned (.tuple #[.int .u64 (o:Nat),.int .u8 fl])∧Below w.heap.size w w':=by
 have K1:=hide C1;have K2:=hide C2;have K3:=hide C3;have K4:=hide C4
 clear C1 C2 C3 C4
 go_enter Tryz.func277,Tryz.ntmps277
 go_wp2_with fail
 refine (uH K1 _ (Below.refl _ _)).mono ?_
 rintro e w1 ⟨⟨v,rfl,hv⟩,hb1⟩
 obtain ⟨n1,a1,c1,L1,rfl,i1⟩:=hv
 have hb1a:Below w1.heap.size w1 (w1.alloc (.cells #[.bool n1,.slice a1 L1.length c1,.int .i64 X1] 41)):=(Below.refl _ _).alloc (Nat.le_refl _) _
 have HV:=hide ((show IsDy w1 (.agg #[.bool n1,.slice a1 L1.length c1,.int .i64 X1]) z1 X1 from ⟨n1,a1,c1,L1,rfl,i1⟩).below hb1a)
 have X:=hide (Box3.new w1 (.bool n1) (.slice a1 L1.length c1) (.int .i64 X1))
 have B1:=hide (hb1.trans (hb1a.mono hb1.size))
 clear i1 hb1 hb1a K1
 go_wp2_with fail
 refine (uH K2 _ (uH B1)).mono ?_
 rintro e w2 ⟨⟨v,rfl,hv⟩,hb1⟩
 obtain ⟨n2,a2,c2,L2,rfl,i2⟩:=hv
 have hb1a:Below w2.heap.size w2 (w2.alloc (.cells #[.bool n2,.slice a2 L2.length c2,.int .i64 X2] 41)):=(Below.refl _ _).alloc (Nat.le_refl _) _
 have HU:=hide ((show IsDy w2 (.agg #[.bool n2,.slice a2 L2.length c2,.int .i64 X2]) z2 X2 from ⟨n2,a2,c2,L2,rfl,i2⟩).below hb1a)
 have HV2:=hide (((uH HV).below hb1).below hb1a)
 have x1:=((uH X).all hb1).all hb1a
 have x2:=Box3.new w2 (.bool n2) (.slice a2 L2.length c2) (.int .i64 X2)
 have B2:=hide ((uH B1).trans ((hb1.trans (hb1a.mono hb1.size)).mono (uH B1).size))
 have y0:=x1.c0;have y1:=x1.c1;have y2:=x1.c2;have u0:=x2.c0;have u1:=x2.c1;have u2:=x2.c2
 clear i2 hb1 hb1a K2 B1 HV X x1 x2
 go_wp2_with fail
 refine (uH K3 _ _ _ (uH B2) (uH HV2) (uH HU)).mono ?_
 rintro e w3 ⟨⟨v,rfl,hv⟩,hb1⟩
 clear y0 y1 y2 u0 u1 u2
 obtain ⟨n3,a3,c3,L3,rfl,i3⟩:=hv
 have hb1a:Below w3.heap.size w3 (w3.alloc (.cells #[.bool n3,.slice a3 L3.length c3,.int .i64 X3] 41)):=(Below.refl _ _).alloc (Nat.le_refl _) _
 have HX:=hide ((show IsDy w3 (.agg #[.bool n3,.slice a3 L3.length c3,.int .i64 X3]) z3 X3 from ⟨n3,a3,c3,L3,rfl,i3⟩).below hb1a)
 have hl:=dy_len (uH HX)
 rw [decide_eq_false h0] at hl
 have B3:=hide ((uH B2).trans ((hb1.trans (hb1a.mono hb1.size)).mono (uH B2).size))
 have x3:=Box3.new w3 (.bool n3) (.slice a3 L3.length c3) (.int .i64 X3)
 have y0:=x3.c0;have y1:=x3.c1;have y2:=x3.c2
 clear i3 hb1 hb1a K3 B2 HV2 HU x3
 generalize L3.length = l3 at *
 go_wp2_with fail
 refine (uH K4 _ _ (uH B3) (uH HX)).mono ?_
 rintro e w4 ⟨rfl,hb1⟩
 have B4:=hide ((uH B3).trans (hb1.mono (uH B3).size))
 clear hb1 K4 B3
 go_wp2
 exact bodyPost_ret (v:=.tuple #[.int .u64 o,.int .u8 fl]) (by simp [results,Tryz.results277,go_sem]) rfl ⟨rfl,uH B4⟩
theorem addFinite_any (a b:Nat) (w:World) (ha:a < 18446744073709551616) (hb:b < 18446744073709551616) (fa:fFin a = true) (fb:fFin b = true) (hT:Tab w) :
  Calls Tryz.prog 277 #[.int .u64 a,.int .u64 b] w fun r w'=>r = .returned (.tuple #[.int .u64 (aV a b:Nat),.int .u8 (aF a b)])∧Below w.heap.size w w':=by
 obtain ⟨a3,a4⟩:fK a ≠ 3∧fK a ≠ 4:=by
  rcases fK_cases a with ⟨h,_⟩ | ⟨_,h⟩
  ·rw [fa] at h;cases h
  ·omega
 obtain ⟨b3,b4⟩:fK b ≠ 3∧fK b ≠ 4:=by
  rcases fK_cases b with ⟨h,_⟩ | ⟨_,h⟩
  ·rw [fb] at h;cases h
  ·omega
 obtain ⟨d1,d2⟩:=fZ_level a ha fa
 obtain ⟨d3,d4⟩:=fZ_level b hb fb
 have l3:=aZ_Lvl a b fa fb
 have C1:∀ w',Below w.heap.size w w'→_:=fun w' h=>value_some a w' ha fa (hT.all h)
 have C2:∀ w',Below w.heap.size w w'→_:=fun w' h=>value_some b w' hb fb (hT.all h)
 have C3:∀ w' v u,Below w.heap.size w w'→IsDy w' v (fD a) (fX a)→IsDy w' u (fD b) (fX b)→_:=fun w' v u h hv hu =>
  addN (W:=2099) (lo:=-1074) (z1:=fZ a) (z2:=fZ b) (by rw [d1,d2];exact hv) (by rw [d3,d4];exact hu) (fZ_Lvl a fa) (fZ_Lvl b fb) l3 (hT.all h)
 rw [(add_f a b a3 a4 b3 b4).1,(add_f a b a3 a4 b3 b4).2]
 by_cases h0:aZ a b = 0
 ·rw [if_pos h0,if_pos h0]
  have hz:fZ a+fZ b = 0:=h0
  rw [hz,oM_zero] at C3
  exact addFinite_z a b _ _ _ _ _ w _ C1 C2 C3 (fun w'=>nought_any a b w' ha hb)
 ·rw [if_neg h0,if_neg h0]
  have C4:∀ w' v,Below w.heap.size w w'→IsDy w' v (oM (aZ a b)) (oE (aZ a b) (-1074))→_:=fun w' v h hv=>round_dy hv l3.right.2 l3.right.1 (hT.all h)
  rw [(rnd_odd (aZ a b) (-1074)).1,oM_sign] at C4
  exact addFinite_n a b _ _ _ _ _ _ _ w _ (oM_ne _ h0).1 C1 C2 C3 C4
end Go.Proofs.YtdhmglmccafbnaaGreatDoor
namespace Go.Proofs.YtdhmglmccafbnaaGreatDoor
open Go.RowKit
theorem sadd_n1 (a b:Nat) (kb:Int) (w:World) 
  (C1:∀ w',Calls Tryz.prog 113 #[.int .u64 a] w' fun r w''=>r = .returned (.int .i64 4)∧Below w'.heap.size w' w'')
  (C2:∀ w',Calls Tryz.prog 113 #[.int .u64 b] w' fun r w''=>r = .returned (.int .i64 kb)∧Below w'.heap.size w' w'') :
  Calls Tryz.prog 252 #[.int .u64 a,.int .u64 b] w fun r w'=>r = .returned (.tuple #[.int .u64 9221120237041090560,.int .u8 0])∧Below w.heap.size w w':=by
 have K1:=hide C1;have K2:=hide C2
 clear C1 C2
 go_enter Tryz.func252,Tryz.ntmps252
 go_wp2_with fail
 refine (uH K1 _).mono ?_
 rintro e w1 ⟨rfl,hb1⟩
 go_wp2_with fail
 refine (uH K2 _).mono ?_
 rintro e w2 ⟨rfl,hb2⟩
 have B:=hide (hb1.trans (hb2.mono hb1.size))
 clear hb1 hb2 K1 K2
 go_wp2
 exact bodyPost_ret (v:=.tuple #[.int .u64 9221120237041090560,.int .u8 0]) (by simp [results,Tryz.results252,go_sem]) rfl ⟨rfl,uH B⟩
theorem sadd_n2 (a b:Nat) (ka:Int) (w:World) (h1:(ka == 4) = false)
  (C1:∀ w',Calls Tryz.prog 113 #[.int .u64 a] w' fun r w''=>r = .returned (.int .i64 ka)∧Below w'.heap.size w' w'')
  (C2:∀ w',Calls Tryz.prog 113 #[.int .u64 b] w' fun r w''=>r = .returned (.int .i64 4)∧Below w'.heap.size w' w'') :
  Calls Tryz.prog 252 #[.int .u64 a,.int .u64 b] w fun r w'=>r = .returned (.tuple #[.int .u64 9221120237041090560,.int .u8 0])∧Below w.heap.size w w':=by
 have K1:=hide C1;have K2:=hide C2
 clear C1 C2
 go_enter Tryz.func252,Tryz.ntmps252
 go_wp2_with fail
 refine (uH K1 _).mono ?_
 rintro e w1 ⟨rfl,hb1⟩
 go_wp2_with fail
 refine (uH K2 _).mono ?_
 rintro e w2 ⟨rfl,hb2⟩
 have B:=hide (hb1.trans (hb2.mono hb1.size))
 clear hb1 hb2 K1 K2
 go_wp2
 exact bodyPost_ret (v:=.tuple #[.int .u64 9221120237041090560,.int .u8 0]) (by simp [results,Tryz.results252,go_sem]) rfl ⟨rfl,uH B⟩
theorem sadd_ii (a b:Nat) (w:World) (h1:((a:Int) == (b:Int)) = false)
  (C1:∀ w',Calls Tryz.prog 113 #[.int .u64 a] w' fun r w''=>r = .returned (.int .i64 3)∧Below w'.heap.size w' w'')
  (C2:∀ w',Calls Tryz.prog 113 #[.int .u64 b] w' fun r w''=>r = .returned (.int .i64 3)∧Below w'.heap.size w' w'') :
  Calls Tryz.prog 252 #[.int .u64 a,.int .u64 b] w fun r w'=>r = .returned (.tuple #[.int .u64 9221120237041090560,.int .u8 16])∧Below w.heap.size w w':=by
 have K1:=hide C1;have K2:=hide C2
 clear C1 C2
 go_enter Tryz.func252,Tryz.ntmps252
 go_wp2_with fail
 refine (uH K1 _).mono ?_
 rintro e w1 ⟨rfl,hb1⟩
 go_wp2_with fail
 refine (uH K2 _).mono ?_
 rintro e w2 ⟨rfl,hb2⟩
 have B:=hide (hb1.trans (hb2.mono hb1.size))
 clear hb1 hb2 K1 K2
 go_wp2
 exact bodyPost_ret (v:=.tuple #[.int .u64 9221120237041090560,.int .u8 16]) (by simp [results,Tryz.results252,go_sem]) rfl ⟨rfl,uH B⟩
theorem sadd_ie (a b:Nat) (w:World) (h1:((a:Int) == (b:Int)) = true)
  (C1:∀ w',Calls Tryz.prog 113 #[.int .u64 a] w' fun r w''=>r = .returned (.int .i64 3)∧Below w'.heap.size w' w'')
  (C2:∀ w',Calls Tryz.prog 113 #[.int .u64 b] w' fun r w''=>r = .returned (.int .i64 3)∧Below w'.heap.size w' w'') :
  Calls Tryz.prog 252 #[.int .u64 a,.int .u64 b] w fun r w'=>r = .returned (.tuple #[.int .u64 a,.int .u8 0])∧Below w.heap.size w w':=by
 have K1:=hide C1;have K2:=hide C2
 clear C1 C2
 go_enter Tryz.func252,Tryz.ntmps252
 go_wp2_with fail
 refine (uH K1 _).mono ?_
 rintro e w1 ⟨rfl,hb1⟩
 go_wp2_with fail
 refine (uH K2 _).mono ?_
 rintro e w2 ⟨rfl,hb2⟩
 have B:=hide (hb1.trans (hb2.mono hb1.size))
 clear hb1 hb2 K1 K2
 go_wp2
 exact bodyPost_ret (v:=.tuple #[.int .u64 a,.int .u8 0]) (by simp [results,Tryz.results252,go_sem]) rfl ⟨rfl,uH B⟩
theorem sadd_i (a b:Nat) (kb:Int) (w:World) (h1:(kb == 4) = false) (h2:(kb == 3) = false)
  (C1:∀ w',Calls Tryz.prog 113 #[.int .u64 a] w' fun r w''=>r = .returned (.int .i64 3)∧Below w'.heap.size w' w'')
  (C2:∀ w',Calls Tryz.prog 113 #[.int .u64 b] w' fun r w''=>r = .returned (.int .i64 kb)∧Below w'.heap.size w' w'') :
  Calls Tryz.prog 252 #[.int .u64 a,.int .u64 b] w fun r w'=>r = .returned (.tuple #[.int .u64 a,.int .u8 0])∧Below w.heap.size w w':=by
 have K1:=hide C1;have K2:=hide C2
 clear C1 C2
 go_enter Tryz.func252,Tryz.ntmps252
 go_wp2_with fail
 refine (uH K1 _).mono ?_
 rintro e w1 ⟨rfl,hb1⟩
 go_wp2_with fail
 refine (uH K2 _).mono ?_
 rintro e w2 ⟨rfl,hb2⟩
 have B:=hide (hb1.trans (hb2.mono hb1.size))
 clear hb1 hb2 K1 K2
 go_wp2
 exact bodyPost_ret (v:=.tuple #[.int .u64 a,.int .u8 0]) (by simp [results,Tryz.results252,go_sem]) rfl ⟨rfl,uH B⟩
theorem sadd_j (a b:Nat) (ka:Int) (w:World) (h1:(ka == 4) = false) (h2:(ka == 3) = false)
  (C1:∀ w',Calls Tryz.prog 113 #[.int .u64 a] w' fun r w''=>r = .returned (.int .i64 ka)∧Below w'.heap.size w' w'')
  (C2:∀ w',Calls Tryz.prog 113 #[.int .u64 b] w' fun r w''=>r = .returned (.int .i64 3)∧Below w'.heap.size w' w'') :
  Calls Tryz.prog 252 #[.int .u64 a,.int .u64 b] w fun r w'=>r = .returned (.tuple #[.int .u64 b,.int .u8 0])∧Below w.heap.size w w':=by
 have K1:=hide C1;have K2:=hide C2
 clear C1 C2
 go_enter Tryz.func252,Tryz.ntmps252
 go_wp2_with fail
 refine (uH K1 _).mono ?_
 rintro e w1 ⟨rfl,hb1⟩
 go_wp2_with fail
 refine (uH K2 _).mono ?_
 rintro e w2 ⟨rfl,hb2⟩
 have B:=hide (hb1.trans (hb2.mono hb1.size))
 clear hb1 hb2 K1 K2
 go_wp2
 exact bodyPost_ret (v:=.tuple #[.int .u64 b,.int .u8 0]) (by simp [results,Tryz.results252,go_sem]) rfl ⟨rfl,uH B⟩
theorem sadd_f (a b:Nat) (ka kb fl:Int) (o:Nat) (w:World) (h1:(ka == 4) = false) (h2:(ka == 3) = false) (h3:(kb == 4) = false) (h4:(kb == 3) = false) (hT:Tab w)
  (C3:∀ w',Tab w'→Calls Tryz.prog 277 #[.int .u64 a,.int .u64 b] w' fun r w''=>r = .returned (.tuple #[.int .u64 (o:Nat),.int .u8 fl])∧Below w'.heap.size w' w'')
  (C1:∀ w',Calls Tryz.prog 113 #[.int .u64 a] w' fun r w''=>r = .returned (.int .i64 ka)∧Below w'.heap.size w' w'')
  (C2:∀ w',Calls Tryz.prog 113 #[.int .u64 b] w' fun r w''=>r = .returned (.int .i64 kb)∧Below w'.heap.size w' w'') :
  Calls Tryz.prog 252 #[.int .u64 a,.int .u64 b] w fun r w'=>r = .returned (.tuple #[.int .u64 (o:Nat),.int .u8 fl])∧Below w.heap.size w w':=by
 have K1:=hide C1;have K2:=hide C2
 clear C1 C2
 go_enter Tryz.func252,Tryz.ntmps252
 go_wp2_with fail
 refine (uH K1 _).mono ?_
 rintro e w1 ⟨rfl,hb1⟩
 go_wp2_with fail
 refine (uH K2 _).mono ?_
 rintro e w2 ⟨rfl,hb2⟩
 have B:=hide (hb1.trans (hb2.mono hb1.size))
 clear hb1 hb2 K1 K2
 have K3:=hide C3;have HT:=hide (hT.all (uH B))
 clear C3 hT
 go_wp2_with fail
 refine (uH K3 _ (uH HT)).mono ?_
 rintro e w3 ⟨rfl,hb3⟩
 have B:=hide ((uH B).trans (hb3.mono (uH B).size))
 clear hb3 K3 HT
 go_wp2
 exact bodyPost_ret (v:=.tuple #[.int .u64 (o:Nat),.int .u8 fl]) (by simp [results,Tryz.results252,go_sem]) rfl ⟨rfl,uH B⟩
theorem sadd_any (a b:Nat) (w:World) (ha:a < 18446744073709551616) (hb:b < 18446744073709551616) (hT:Tab w) :
  Calls Tryz.prog 252 #[.int .u64 a,.int .u64 b] w fun r w'=>r = .returned (.tuple #[.int .u64 (aV a b:Nat),.int .u8 (aF a b)])∧Below w.heap.size w w':=by
 have C1:=fun w'=>kind_any a w' ha
 have C2:=fun w'=>kind_any b w' hb
 by_cases a4:fK a = 4
 ·have e1:aV a b = 9221120237041090560:=by unfold aV;rw [if_pos (Or.inl a4)]
  have e2:aF a b = 0:=by unfold aF;rw [if_pos (Or.inl a4)]
  rw [e1,e2]
  rw [a4] at C1
  exact sadd_n1 a b _ w C1 C2
 by_cases b4:fK b = 4
 ·have e1:aV a b = 9221120237041090560:=by unfold aV;rw [if_pos (Or.inr b4)]
  have e2:aF a b = 0:=by unfold aF;rw [if_pos (Or.inr b4)]
  rw [e1,e2]
  rw [b4] at C2
  exact sadd_n2 a b _ w (by simp [a4]) C1 C2
 have n4:¬ (fK a = 4 ∨ fK b = 4):=by omega
 by_cases a3:fK a = 3
 ·by_cases b3:fK b = 3
  ·by_cases hab:a = b
   ·have e1:aV a b = a:=by unfold aV;rw [if_neg n4,if_pos a3,if_neg (fun h=>h.2 hab)]
    have e2:aF a b = 0:=by unfold aF;rw [if_neg n4,if_pos a3,if_neg (fun h=>h.2 hab)]
    rw [e1,e2]
    rw [a3] at C1
    rw [b3] at C2
    exact sadd_ie a b w (by simp [hab]) C1 C2
   ·have e1:aV a b = 9221120237041090560:=by unfold aV;rw [if_neg n4,if_pos a3,if_pos ⟨b3,hab⟩]
    have e2:aF a b = 16:=by unfold aF;rw [if_neg n4,if_pos a3,if_pos ⟨b3,hab⟩]
    rw [e1,e2]
    rw [a3] at C1
    rw [b3] at C2
    exact sadd_ii a b w (by simp;omega) C1 C2
  ·have e1:aV a b = a:=by unfold aV;rw [if_neg n4,if_pos a3,if_neg (fun h=>b3 h.1)]
   have e2:aF a b = 0:=by unfold aF;rw [if_neg n4,if_pos a3,if_neg (fun h=>b3 h.1)]
   rw [e1,e2]
   rw [a3] at C1
   exact sadd_i a b _ w (by simp [b4]) (by simp [b3]) C1 C2
 ·by_cases b3:fK b = 3
  ·have e1:aV a b = b:=by unfold aV;rw [if_neg n4,if_neg a3,if_pos b3]
   have e2:aF a b = 0:=by unfold aF;rw [if_neg n4,if_neg a3,if_pos b3]
   rw [e1,e2]
   rw [b3] at C2
   exact sadd_j a b _ w (by simp [a4]) (by simp [a3]) C1 C2
  ·exact sadd_f a b _ _ _ _ w (by simp [a4]) (by simp [a3]) (by simp [b4]) (by simp [b3]) hT (fun w' t=>addFinite_any a b w' ha hb (fin_of a a3 a4) (fin_of b b3 b4) t) C1 C2
theorem ssub_any (a b:Nat) (w:World) (ha:a < 18446744073709551616) (hb:b < 18446744073709551616) (hT:Tab w) :
  Calls Tryz.prog 222 #[.int .u64 a,.int .u64 b] w fun r w'=>r = .returned (.tuple #[.int .u64 (aV a (fN b):Nat),.int .u8 (aF a (fN b))])∧Below w.heap.size w w':=by
 have K1:=hide (fun w'=>sminus_any b w' hb)
 have K2:=hide (sadd_any a (fN b) w ha (fN_lt b hb) hT)
 clear ha hb hT
 generalize aV a (fN b) = o at *
 generalize aF a (fN b) = fl at *
 go_enter Tryz.func222,Tryz.ntmps222
 go_wp2_with fail
 refine (uH K1 _).mono ?_
 rintro e w1 ⟨rfl,rfl⟩
 go_wp2_with fail
 refine Calls.mono (uH K2) ?_
 rintro e w2 ⟨rfl,hb2⟩
 have B:=hide hb2
 clear hb2 K1 K2
 go_wp2
 exact bodyPost_ret (v:=.tuple #[.int .u64 o,.int .u8 fl]) (by simp [results,Tryz.results222,go_sem]) rfl ⟨rfl,uH B⟩
end Go.Proofs.YtdhmglmccafbnaaGreatDoor
namespace Go.Proofs.YtdhmglmccafbnaaGreatDoor
open Go.RowKit
theorem raddN {w:World} {v u:Value} {lo:Int} {W:Nat} {z1 z2:Int} (hv:IsDy w v (oM z1) (oE z1 lo)) (hu:IsDy w u (oM z2) (oE z2 lo)) (h1:Lvl lo W z1) (h2:Lvl lo W z2) :
  Calls Tryz.prog 26 #[v,u] w fun r w'=>∃ q,r = .returned q∧IsDy w' q (oM (z1+z2)) (oE (z1+z2) lo)∧Below w.heap.size w w':=by
 obtain ⟨na,ao,ca,A,rfl,a1,a2,a3,a4,a5⟩:=hv.right h1.right.2
 obtain ⟨nb,bo,cb,B,rfl,b1,b2,b3,b4,b5⟩:=hu.right h2.right.2
 have x1:=dRt_in h1.right.1
 have x2:=dRt_in h2.right.1
 have t1:=h1.tops
 have t2:=h2.tops
 by_cases h0:z1 = 0∧z2 = 0
 ·obtain ⟨rfl,rfl⟩:=h0
  rw [oM_zero] at a3 b3
  rw [oE_zero] at *
  have eZ:sumZ 0 0 0 0 = 0:=by decide
  have eU:upE 0 0 (lowE 0 0 0 0) = 0:=upE_ok _ _ _ (by rw [up_zero];exact TOP_pos) (by decide)
  have:=radd_any na nb ao bo ca cb A B 0 0 w a1 b1 a2 b2 (by omega) (by omega) (by rw [a3,b3];exact eU) (by rw [a3,b3];exact eU)
  rw [a3,b3,eZ,oM_zero,oE_zero] at this
  simpa [oM_zero,oE_zero] using this
 ·obtain ⟨k,e1,e2,e3,e4,e5⟩:=low_level h1 h2 h0
  have g1:upE (oM z1) (oE z1 lo) (lo+k) = 0:=upE_ok _ _ _ (Nat.lt_of_le_of_lt (le_scaled e2) t1) e4
  have g2:upE (oM z2) (oE z2 lo) (lo+k) = 0:=upE_ok _ _ _ (Nat.lt_of_le_of_lt (le_scaled e3) t2) e5
  have:=radd_any na nb ao bo ca cb A B _ _ w a1 b1 a2 b2 x1 x2 (by rw [a3,b3,e1];exact g1) (by rw [a3,b3,e1];exact g2)
  rw [a3,b3,e1] at this
  have hZ:sumZ (oM z1) (oE z1 lo) (oM z2) (oE z2 lo) * 2 ^ k = z1+z2:=by
   unfold sumZ
   rw [e1,Int.add_mul,e2,e3]
  generalize sumZ (oM z1) (oE z1 lo) (oM z2) (oE z2 lo) = Z at *
  have hs:=oM_scale Z k lo
  rw [hZ] at hs
  rw [hs.1,hs.2]
  exact this
end Go.Proofs.YtdhmglmccafbnaaGreatDoor
namespace Go.Proofs.YtdhmglmccafbnaaGreatDoor
open Go.RowKit
theorem tsigned_ways (z a b:Nat) (s t:Bool) (o:Nat) (w:World)
  (C1:∀ w',Calls Tryz.prog 187 #[.int .u64 a] w' fun r w''=>r = .returned (.bool s)∧Below w'.heap.size w' w'')
  (C2:∀ w',Calls Tryz.prog 187 #[.int .u64 b] w' fun r w''=>r = .returned (.bool t)∧Below w'.heap.size w' w'')
  (C3:∀ w',Calls Tryz.prog 188 #[.int .u64 z] w' fun r w''=>r = .returned (.int .u64 (o:Nat))∧w' = w'') :
  Calls Tryz.prog 253 #[.int .u64 z,.int .u64 a,.int .u64 b] w fun r w'=>r = .returned (.int .u64 ((if (s ^^ t) = true then o else z:Nat):Int))∧Below w.heap.size w w':=by
 have K1:=hide C1;have K2:=hide C2;have K3:=hide C3
 clear C1 C2 C3
 go_enter Tryz.func253,Tryz.ntmps253
 go_wp2_with fail
 refine (uH K1 _).mono ?_
 rintro e w1 ⟨rfl,hb1⟩
 go_wp2_with fail
 refine (uH K2 _).mono ?_
 rintro e w2 ⟨rfl,hb2⟩
 have B:=hide (hb1.trans (hb2.mono hb1.size))
 clear hb1 hb2 K1 K2
 cases s <;> cases t
 ·go_wp2
  go_ret
  exact ⟨rfl,uH B⟩
 ·go_wp2_with fail
  refine (uH K3 _).mono ?_
  rintro e w3 ⟨rfl,rfl⟩
  go_wp2
  go_ret
  exact ⟨rfl,uH B⟩
 ·go_wp2_with fail
  refine (uH K3 _).mono ?_
  rintro e w3 ⟨rfl,rfl⟩
  go_wp2
  go_ret
  exact ⟨rfl,uH B⟩
 ·go_wp2
  go_ret
  exact ⟨rfl,uH B⟩
theorem tsigned_any (z a b:Nat) (w:World) (ha:a < 18446744073709551616) (hb:b < 18446744073709551616) (hz:z < 9223372036854775808) :
  Calls Tryz.prog 253 #[.int .u64 z,.int .u64 a,.int .u64 b] w fun r w'=>r = .returned (.int .u64 (wrd (fS a ^^ fS b) z:Nat))∧Below w.heap.size w w':=by
 have h:=tsigned_ways z a b (fS a) (fS b) (fN z) w (fun w'=>ssign_any a w' ha) (fun w'=>ssign_any b w' hb) (fun w'=>sminus_any z w' (by omega))
 have e:(if (fS a ^^ fS b) = true then fN z else z:Nat) = wrd (fS a ^^ fS b) z:=by
  cases (fS a ^^ fS b)
  ·rw [wrd_false];rfl
  ·rw [← fN_wrd z hz];rfl
 rwa [e] at h
theorem mulFinite_n (a b:Nat) (z1 z2 z3 X1 X2 X3 fl:Int) (w:World) (o:Nat)
  (C1:∀ w',Below w.heap.size w w'→Calls Tryz.prog 207 #[.int .u64 a] w' fun r w''=>DyR w'' r 0 z1 X1∧Below w'.heap.size w' w'')
  (C2:∀ w',Below w.heap.size w w'→Calls Tryz.prog 207 #[.int .u64 b] w' fun r w''=>DyR w'' r 0 z2 X2∧Below w'.heap.size w' w'')
  (C3:∀ w' v u,Below w.heap.size w w'→IsDy w' v z1 X1→IsDy w' u z2 X2→Calls Tryz.prog 278 #[v,u] w' fun r w''=>DyR w'' r 0 z3 X3∧Below w'.heap.size w' w'')
  (C4:∀ w' v,Below w.heap.size w w'→IsDy w' v z3 X3→Calls Tryz.prog 251 #[v] w' fun r w''=>r = .returned (.tuple #[.int .u64 (o:Nat),.int .u8 fl,.int .i64 0])∧Below w'.heap.size w' w'') :
  Calls Tryz.prog 254 #[.int .u64 a,.int .u64 b] w fun r w'=>r = .returned (.tuple #[.int .u64 (o:Nat),.int .u8 fl])∧Below w.heap.size w w':=by
 have K1:=hide C1;have K2:=hide C2;have K3:=hide C3;have K4:=hide C4
 clear C1 C2 C3 C4
 go_enter Tryz.func254,Tryz.ntmps254
 go_wp2_with fail
 refine (uH K1 _ (Below.refl _ _)).mono ?_
 rintro e w1 ⟨⟨v,rfl,hv⟩,hb1⟩
 obtain ⟨n1,a1,c1,L1,rfl,i1⟩:=hv
 have hb1a:Below w1.heap.size w1 (w1.alloc (.cells #[.bool n1,.slice a1 L1.length c1,.int .i64 X1] 41)):=(Below.refl _ _).alloc (Nat.le_refl _) _
 have HV:=hide ((show IsDy w1 (.agg #[.bool n1,.slice a1 L1.length c1,.int .i64 X1]) z1 X1 from ⟨n1,a1,c1,L1,rfl,i1⟩).below hb1a)
 have X:=hide (Box3.new w1 (.bool n1) (.slice a1 L1.length c1) (.int .i64 X1))
 have B1:=hide (hb1.trans (hb1a.mono hb1.size))
 clear i1 hb1 hb1a K1
 go_wp2_with fail
 refine (uH K2 _ (uH B1)).mono ?_
 rintro e w2 ⟨⟨v,rfl,hv⟩,hb1⟩
 obtain ⟨n2,a2,c2,L2,rfl,i2⟩:=hv
 have hb1a:Below w2.heap.size w2 (w2.alloc (.cells #[.bool n2,.slice a2 L2.length c2,.int .i64 X2] 41)):=(Below.refl _ _).alloc (Nat.le_refl _) _
 have HU:=hide ((show IsDy w2 (.agg #[.bool n2,.slice a2 L2.length c2,.int .i64 X2]) z2 X2 from ⟨n2,a2,c2,L2,rfl,i2⟩).below hb1a)
 have HV2:=hide (((uH HV).below hb1).below hb1a)
 have x1:=((uH X).all hb1).all hb1a
 have x2:=Box3.new w2 (.bool n2) (.slice a2 L2.length c2) (.int .i64 X2)
 have B2:=hide ((uH B1).trans ((hb1.trans (hb1a.mono hb1.size)).mono (uH B1).size))
 have y0:=x1.c0;have y1:=x1.c1;have y2:=x1.c2;have u0:=x2.c0;have u1:=x2.c1;have u2:=x2.c2
 clear i2 hb1 hb1a K2 B1 HV X x1 x2
 go_wp2_with fail
 refine (uH K3 _ _ _ (uH B2) (uH HV2) (uH HU)).mono ?_
 rintro e w3 ⟨⟨v,rfl,hv⟩,hb1⟩
 clear y0 y1 y2 u0 u1 u2
 obtain ⟨n3,a3,c3,L3,rfl,i3⟩:=hv
 have hb1a:Below w3.heap.size w3 (w3.alloc (.cells #[.bool n3,.slice a3 L3.length c3,.int .i64 X3] 41)):=(Below.refl _ _).alloc (Nat.le_refl _) _
 have HX:=hide ((show IsDy w3 (.agg #[.bool n3,.slice a3 L3.length c3,.int .i64 X3]) z3 X3 from ⟨n3,a3,c3,L3,rfl,i3⟩).below hb1a)
 have B3:=hide ((uH B2).trans ((hb1.trans (hb1a.mono hb1.size)).mono (uH B2).size))
 have x3:=Box3.new w3 (.bool n3) (.slice a3 L3.length c3) (.int .i64 X3)
 have y0:=x3.c0;have y1:=x3.c1;have y2:=x3.c2
 clear i3 hb1 hb1a K3 B2 HV2 HU x3
 generalize L3.length = l3 at *
 go_wp2_with fail
 refine (uH K4 _ _ (uH B3) (uH HX)).mono ?_
 rintro e w4 ⟨rfl,hb1⟩
 have B4:=hide ((uH B3).trans (hb1.mono (uH B3).size))
 clear hb1 K4 B3
 go_wp2
 exact bodyPost_ret (v:=.tuple #[.int .u64 o,.int .u8 fl]) (by simp [results,Tryz.results254,go_sem]) rfl ⟨rfl,uH B4⟩
theorem p4196:(2:Nat) ^ 2098 * 2 ^ 2098 = 2 ^ 4196:=by decide +kernel
theorem mZ_Lvl (a b:Nat) (fa:fFin a = true) (fb:fFin b = true):Lvl (-1074+-1074) 4196 (fZ a * fZ b):=by
 have h1:=fZ_lt a fa
 have h2:=fZ_lt b fb
 refine ⟨?_,by decide,by decide,by decide⟩
 have h3:=p4196
 have h4:=Nat.two_pow_pos 2098
 rw [Int.natAbs_mul]
 generalize (2:Nat) ^ 4196 = P at *
 generalize (2:Nat) ^ 2098 = Q at *
 rw [← h3]
 exact Nat.mul_lt_mul_of_lt_of_le h1 (Nat.le_of_lt h2) h4
theorem fZ_neg (b:Nat) (h0:fK b ≠ 0):fZ b ≠ 0∧decide (fZ b < 0) = fS b:=by
 have hr:rv (fR b) ≠ 0:=fun e=>h0 ((fK_zero b).2 ((rv_eq0 _).1 e))
 unfold fZ pv
 cases fS b
 ·simp only [Bool.false_eq_true,if_false]
  exact ⟨by omega,decide_eq_false (by omega)⟩
 ·simp only [if_true]
  exact ⟨by omega,decide_eq_true (by omega)⟩
theorem mZ_neg (a b:Nat) (a0:fK a ≠ 0) (b0:fK b ≠ 0):fZ a * fZ b ≠ 0∧decide (fZ a * fZ b < 0) = (fS a ^^ fS b):=by
 obtain ⟨h1,h2⟩:=fZ_neg a a0
 obtain ⟨h3,h4⟩:=fZ_neg b b0
 refine ⟨Int.mul_ne_zero h1 h3,?_⟩
 rw [← h2,← h4]
 generalize fZ a = x at *
 generalize fZ b = y at *
 rcases Int.lt_or_gt_of_ne h1 with hx | hx <;> rcases Int.lt_or_gt_of_ne h3 with hy | hy
 ·have:=Int.mul_pos_of_neg_of_neg hx hy
  rw [decide_eq_true hx,decide_eq_true hy,decide_eq_false (by omega)];rfl
 ·have:=Int.mul_neg_of_neg_of_pos hx hy
  rw [decide_eq_true hx,decide_eq_false (show ¬ y < 0 by omega),decide_eq_true this];rfl
 ·have:=Int.mul_neg_of_pos_of_neg hx hy
  rw [decide_eq_false (show ¬ x < 0 by omega),decide_eq_true hy,decide_eq_true this];rfl
 ·have:=Int.mul_pos hx hy
  rw [decide_eq_false (show ¬ x < 0 by omega),decide_eq_false (show ¬ y < 0 by omega),decide_eq_false (show ¬ x * y < 0 by omega)];rfl
theorem mulFinite_any (a b:Nat) (w:World) (ha:a < 18446744073709551616) (hb:b < 18446744073709551616) (fa:fFin a = true) (fb:fFin b = true) (a0:fK a ≠ 0) (b0:fK b ≠ 0) (hT:Tab w) :
  Calls Tryz.prog 254 #[.int .u64 a,.int .u64 b] w fun r w'=>r = .returned (.tuple #[.int .u64 (mV a b:Nat),.int .u8 (mF a b)])∧Below w.heap.size w w':=by
 obtain ⟨d1,d2⟩:=fZ_level a ha fa
 obtain ⟨d3,d4⟩:=fZ_level b hb fb
 have l3:=mZ_Lvl a b fa fb
 obtain ⟨z0,z1⟩:=mZ_neg a b a0 b0
 have C1:∀ w',Below w.heap.size w w'→_:=fun w' h=>value_some a w' ha fa (hT.all h)
 have C2:∀ w',Below w.heap.size w w'→_:=fun w' h=>value_some b w' hb fb (hT.all h)
 have C3:∀ w' v u,Below w.heap.size w w'→IsDy w' v (fD a) (fX a)→IsDy w' u (fD b) (fX b)→_:=fun w' v u h hv hu =>
  mulN (W1:=2099) (W2:=2099) (W:=4196) (lo1:=-1074) (lo2:=-1074) (z1:=fZ a) (z2:=fZ b) (by rw [d1,d2];exact hv) (by rw [d3,d4];exact hu) (fZ_Lvl a fa) (fZ_Lvl b fb) l3 (hT.all h)
 rw [(mV_fin a b fa fb a0 b0).1,(mV_fin a b fa fb a0 b0).2]
 have C4:∀ w' v,Below w.heap.size w w'→IsDy w' v (oM (fZ a * fZ b)) (oE (fZ a * fZ b) (-1074+-1074))→_:=fun w' v h hv=>round_dy hv l3.right.2 l3.right.1 (hT.all h)
 rw [(rnd_odd (fZ a * fZ b) (-1074+-1074)).1,oM_sign,z1,Int.natAbs_mul,fZ_abs,fZ_abs] at C4
 exact mulFinite_n a b _ _ _ _ _ _ _ w _ C1 C2 C3 C4
theorem tmul_n1 (a b:Nat) (kb:Int) (w:World) 
  (C1:∀ w',Calls Tryz.prog 113 #[.int .u64 a] w' fun r w''=>r = .returned (.int .i64 4)∧Below w'.heap.size w' w'')
  (C2:∀ w',Calls Tryz.prog 113 #[.int .u64 b] w' fun r w''=>r = .returned (.int .i64 kb)∧Below w'.heap.size w' w'') :
  Calls Tryz.prog 223 #[.int .u64 a,.int .u64 b] w fun r w'=>r = .returned (.tuple #[.int .u64 9221120237041090560,.int .u8 0])∧Below w.heap.size w w':=by
 have K1:=hide C1;have K2:=hide C2
 clear C1 C2
 go_enter Tryz.func223,Tryz.ntmps223
 go_wp2_with fail
 refine (uH K1 _).mono ?_
 rintro e w1 ⟨rfl,hb1⟩
 go_wp2_with fail
 refine (uH K2 _).mono ?_
 rintro e w2 ⟨rfl,hb2⟩
 have B:=hide (hb1.trans (hb2.mono hb1.size))
 clear hb1 hb2 K1 K2
 go_wp2
 exact bodyPost_ret (v:=.tuple #[.int .u64 9221120237041090560,.int .u8 0]) (by simp [results,Tryz.results223,go_sem]) rfl ⟨rfl,uH B⟩
theorem tmul_n2 (a b:Nat) (ka:Int) (w:World) (h0:(ka == 4) = false)
  (C1:∀ w',Calls Tryz.prog 113 #[.int .u64 a] w' fun r w''=>r = .returned (.int .i64 ka)∧Below w'.heap.size w' w'')
  (C2:∀ w',Calls Tryz.prog 113 #[.int .u64 b] w' fun r w''=>r = .returned (.int .i64 4)∧Below w'.heap.size w' w'') :
  Calls Tryz.prog 223 #[.int .u64 a,.int .u64 b] w fun r w'=>r = .returned (.tuple #[.int .u64 9221120237041090560,.int .u8 0])∧Below w.heap.size w w':=by
 have K1:=hide C1;have K2:=hide C2
 clear C1 C2
 go_enter Tryz.func223,Tryz.ntmps223
 go_wp2_with fail
 refine (uH K1 _).mono ?_
 rintro e w1 ⟨rfl,hb1⟩
 go_wp2_with fail
 refine (uH K2 _).mono ?_
 rintro e w2 ⟨rfl,hb2⟩
 have B:=hide (hb1.trans (hb2.mono hb1.size))
 clear hb1 hb2 K1 K2
 go_wp2
 exact bodyPost_ret (v:=.tuple #[.int .u64 9221120237041090560,.int .u8 0]) (by simp [results,Tryz.results223,go_sem]) rfl ⟨rfl,uH B⟩
theorem tmul_iz (a b:Nat) (w:World) 
  (C1:∀ w',Calls Tryz.prog 113 #[.int .u64 a] w' fun r w''=>r = .returned (.int .i64 3)∧Below w'.heap.size w' w'')
  (C2:∀ w',Calls Tryz.prog 113 #[.int .u64 b] w' fun r w''=>r = .returned (.int .i64 0)∧Below w'.heap.size w' w'') :
  Calls Tryz.prog 223 #[.int .u64 a,.int .u64 b] w fun r w'=>r = .returned (.tuple #[.int .u64 9221120237041090560,.int .u8 16])∧Below w.heap.size w w':=by
 have K1:=hide C1;have K2:=hide C2
 clear C1 C2
 go_enter Tryz.func223,Tryz.ntmps223
 go_wp2_with fail
 refine (uH K1 _).mono ?_
 rintro e w1 ⟨rfl,hb1⟩
 go_wp2_with fail
 refine (uH K2 _).mono ?_
 rintro e w2 ⟨rfl,hb2⟩
 have B:=hide (hb1.trans (hb2.mono hb1.size))
 clear hb1 hb2 K1 K2
 go_wp2
 exact bodyPost_ret (v:=.tuple #[.int .u64 9221120237041090560,.int .u8 16]) (by simp [results,Tryz.results223,go_sem]) rfl ⟨rfl,uH B⟩
theorem tmul_zi (a b:Nat) (w:World) 
  (C1:∀ w',Calls Tryz.prog 113 #[.int .u64 a] w' fun r w''=>r = .returned (.int .i64 0)∧Below w'.heap.size w' w'')
  (C2:∀ w',Calls Tryz.prog 113 #[.int .u64 b] w' fun r w''=>r = .returned (.int .i64 3)∧Below w'.heap.size w' w'') :
  Calls Tryz.prog 223 #[.int .u64 a,.int .u64 b] w fun r w'=>r = .returned (.tuple #[.int .u64 9221120237041090560,.int .u8 16])∧Below w.heap.size w w':=by
 have K1:=hide C1;have K2:=hide C2
 clear C1 C2
 go_enter Tryz.func223,Tryz.ntmps223
 go_wp2_with fail
 refine (uH K1 _).mono ?_
 rintro e w1 ⟨rfl,hb1⟩
 go_wp2_with fail
 refine (uH K2 _).mono ?_
 rintro e w2 ⟨rfl,hb2⟩
 have B:=hide (hb1.trans (hb2.mono hb1.size))
 clear hb1 hb2 K1 K2
 go_wp2
 exact bodyPost_ret (v:=.tuple #[.int .u64 9221120237041090560,.int .u8 16]) (by simp [results,Tryz.results223,go_sem]) rfl ⟨rfl,uH B⟩
theorem tmul_i (a b:Nat) (kb:Int) (o:Nat) (w:World) (h0:(kb == 4) = false) (h1:(kb == 0) = false)
  (C1:∀ w',Calls Tryz.prog 113 #[.int .u64 a] w' fun r w''=>r = .returned (.int .i64 3)∧Below w'.heap.size w' w'')
  (C2:∀ w',Calls Tryz.prog 113 #[.int .u64 b] w' fun r w''=>r = .returned (.int .i64 kb)∧Below w'.heap.size w' w'')
  (C3:∀ w',Calls Tryz.prog 253 #[.int .u64 9218868437227405312,.int .u64 a,.int .u64 b] w' fun r w''=>r = .returned (.int .u64 (o:Nat))∧Below w'.heap.size w' w'') :
  Calls Tryz.prog 223 #[.int .u64 a,.int .u64 b] w fun r w'=>r = .returned (.tuple #[.int .u64 (o:Nat),.int .u8 0])∧Below w.heap.size w w':=by
 have K1:=hide C1;have K2:=hide C2
 clear C1 C2
 go_enter Tryz.func223,Tryz.ntmps223
 go_wp2_with fail
 refine (uH K1 _).mono ?_
 rintro e w1 ⟨rfl,hb1⟩
 go_wp2_with fail
 refine (uH K2 _).mono ?_
 rintro e w2 ⟨rfl,hb2⟩
 have B:=hide (hb1.trans (hb2.mono hb1.size))
 clear hb1 hb2 K1 K2
 have K3:=hide C3
 clear C3
 go_wp2_with fail
 refine (uH K3 _).mono ?_
 rintro e w3 ⟨rfl,hb3⟩
 have B:=hide ((uH B).trans (hb3.mono (uH B).size))
 clear hb3 K3
 go_wp2
 exact bodyPost_ret (v:=.tuple #[.int .u64 (o:Nat),.int .u8 0]) (by simp [results,Tryz.results223,go_sem]) rfl ⟨rfl,uH B⟩
theorem tmul_j (a b:Nat) (ka:Int) (o:Nat) (w:World) (h0:(ka == 4) = false) (h1:(ka == 0) = false) (h2:(ka == 3) = false)
  (C1:∀ w',Calls Tryz.prog 113 #[.int .u64 a] w' fun r w''=>r = .returned (.int .i64 ka)∧Below w'.heap.size w' w'')
  (C2:∀ w',Calls Tryz.prog 113 #[.int .u64 b] w' fun r w''=>r = .returned (.int .i64 3)∧Below w'.heap.size w' w'')
  (C3:∀ w',Calls Tryz.prog 253 #[.int .u64 9218868437227405312,.int .u64 a,.int .u64 b] w' fun r w''=>r = .returned (.int .u64 (o:Nat))∧Below w'.heap.size w' w'') :
  Calls Tryz.prog 223 #[.int .u64 a,.int .u64 b] w fun r w'=>r = .returned (.tuple #[.int .u64 (o:Nat),.int .u8 0])∧Below w.heap.size w w':=by
 have K1:=hide C1;have K2:=hide C2
 clear C1 C2
 go_enter Tryz.func223,Tryz.ntmps223
 go_wp2_with fail
 refine (uH K1 _).mono ?_
 rintro e w1 ⟨rfl,hb1⟩
 go_wp2_with fail
 refine (uH K2 _).mono ?_
 rintro e w2 ⟨rfl,hb2⟩
 have B:=hide (hb1.trans (hb2.mono hb1.size))
 clear hb1 hb2 K1 K2
 have K3:=hide C3
 clear C3
 go_wp2_with fail
 refine (uH K3 _).mono ?_
 rintro e w3 ⟨rfl,hb3⟩
 have B:=hide ((uH B).trans (hb3.mono (uH B).size))
 clear hb3 K3
 go_wp2
 exact bodyPost_ret (v:=.tuple #[.int .u64 (o:Nat),.int .u8 0]) (by simp [results,Tryz.results223,go_sem]) rfl ⟨rfl,uH B⟩
theorem tmul_z (a b:Nat) (kb:Int) (o:Nat) (w:World) (h0:(kb == 4) = false) (h1:(kb == 3) = false)
  (C1:∀ w',Calls Tryz.prog 113 #[.int .u64 a] w' fun r w''=>r = .returned (.int .i64 0)∧Below w'.heap.size w' w'')
  (C2:∀ w',Calls Tryz.prog 113 #[.int .u64 b] w' fun r w''=>r = .returned (.int .i64 kb)∧Below w'.heap.size w' w'')
  (C3:∀ w',Calls Tryz.prog 253 #[.int .u64 0,.int .u64 a,.int .u64 b] w' fun r w''=>r = .returned (.int .u64 (o:Nat))∧Below w'.heap.size w' w'') :
  Calls Tryz.prog 223 #[.int .u64 a,.int .u64 b] w fun r w'=>r = .returned (.tuple #[.int .u64 (o:Nat),.int .u8 0])∧Below w.heap.size w w':=by
 have K1:=hide C1;have K2:=hide C2
 clear C1 C2
 go_enter Tryz.func223,Tryz.ntmps223
 go_wp2_with fail
 refine (uH K1 _).mono ?_
 rintro e w1 ⟨rfl,hb1⟩
 go_wp2_with fail
 refine (uH K2 _).mono ?_
 rintro e w2 ⟨rfl,hb2⟩
 have B:=hide (hb1.trans (hb2.mono hb1.size))
 clear hb1 hb2 K1 K2
 have K3:=hide C3
 clear C3
 go_wp2_with fail
 refine (uH K3 _).mono ?_
 rintro e w3 ⟨rfl,hb3⟩
 have B:=hide ((uH B).trans (hb3.mono (uH B).size))
 clear hb3 K3
 go_wp2
 exact bodyPost_ret (v:=.tuple #[.int .u64 (o:Nat),.int .u8 0]) (by simp [results,Tryz.results223,go_sem]) rfl ⟨rfl,uH B⟩
theorem tmul_y (a b:Nat) (ka:Int) (o:Nat) (w:World) (h0:(ka == 4) = false) (h1:(ka == 3) = false) (h2:(ka == 0) = false)
  (C1:∀ w',Calls Tryz.prog 113 #[.int .u64 a] w' fun r w''=>r = .returned (.int .i64 ka)∧Below w'.heap.size w' w'')
  (C2:∀ w',Calls Tryz.prog 113 #[.int .u64 b] w' fun r w''=>r = .returned (.int .i64 0)∧Below w'.heap.size w' w'')
  (C3:∀ w',Calls Tryz.prog 253 #[.int .u64 0,.int .u64 a,.int .u64 b] w' fun r w''=>r = .returned (.int .u64 (o:Nat))∧Below w'.heap.size w' w'') :
  Calls Tryz.prog 223 #[.int .u64 a,.int .u64 b] w fun r w'=>r = .returned (.tuple #[.int .u64 (o:Nat),.int .u8 0])∧Below w.heap.size w w':=by
 have K1:=hide C1;have K2:=hide C2
 clear C1 C2
 go_enter Tryz.func223,Tryz.ntmps223
 go_wp2_with fail
 refine (uH K1 _).mono ?_
 rintro e w1 ⟨rfl,hb1⟩
 go_wp2_with fail
 refine (uH K2 _).mono ?_
 rintro e w2 ⟨rfl,hb2⟩
 have B:=hide (hb1.trans (hb2.mono hb1.size))
 clear hb1 hb2 K1 K2
 have K3:=hide C3
 clear C3
 go_wp2_with fail
 refine (uH K3 _).mono ?_
 rintro e w3 ⟨rfl,hb3⟩
 have B:=hide ((uH B).trans (hb3.mono (uH B).size))
 clear hb3 K3
 go_wp2
 exact bodyPost_ret (v:=.tuple #[.int .u64 (o:Nat),.int .u8 0]) (by simp [results,Tryz.results223,go_sem]) rfl ⟨rfl,uH B⟩
theorem tmul_f (a b:Nat) (ka kb:Int) (fl:Int) (o:Nat) (w:World) (h0:(ka == 4) = false) (h1:(ka == 3) = false) (h2:(ka == 0) = false) (h3:(kb == 4) = false) (h4:(kb == 3) = false) (h5:(kb == 0) = false) (hT:Tab w)
  (C1:∀ w',Calls Tryz.prog 113 #[.int .u64 a] w' fun r w''=>r = .returned (.int .i64 ka)∧Below w'.heap.size w' w'')
  (C2:∀ w',Calls Tryz.prog 113 #[.int .u64 b] w' fun r w''=>r = .returned (.int .i64 kb)∧Below w'.heap.size w' w'')
  (C3:∀ w',Tab w'→Calls Tryz.prog 254 #[.int .u64 a,.int .u64 b] w' fun r w''=>r = .returned (.tuple #[.int .u64 (o:Nat),.int .u8 fl])∧Below w'.heap.size w' w'') :
  Calls Tryz.prog 223 #[.int .u64 a,.int .u64 b] w fun r w'=>r = .returned (.tuple #[.int .u64 (o:Nat),.int .u8 fl])∧Below w.heap.size w w':=by
 have K1:=hide C1;have K2:=hide C2
 clear C1 C2
 go_enter Tryz.func223,Tryz.ntmps223
 go_wp2_with fail
 refine (uH K1 _).mono ?_
 rintro e w1 ⟨rfl,hb1⟩
 go_wp2_with fail
 refine (uH K2 _).mono ?_
 rintro e w2 ⟨rfl,hb2⟩
 have B:=hide (hb1.trans (hb2.mono hb1.size))
 clear hb1 hb2 K1 K2
 have K3:=hide C3;have HT:=hide (hT.all (uH B))
 clear C3 hT
 go_wp2_with fail
 refine (uH K3 _ (uH HT)).mono ?_
 rintro e w3 ⟨rfl,hb3⟩
 have B:=hide ((uH B).trans (hb3.mono (uH B).size))
 clear hb3 K3 HT
 go_wp2
 exact bodyPost_ret (v:=.tuple #[.int .u64 (o:Nat),.int .u8 fl]) (by simp [results,Tryz.results223,go_sem]) rfl ⟨rfl,uH B⟩
theorem tmul_any (a b:Nat) (w:World) (ha:a < 18446744073709551616) (hb:b < 18446744073709551616) (hT:Tab w) :
  Calls Tryz.prog 223 #[.int .u64 a,.int .u64 b] w fun r w'=>r = .returned (.tuple #[.int .u64 (mV a b:Nat),.int .u8 (mF a b)])∧Below w.heap.size w w':=by
 have C1:=fun w'=>kind_any a w' ha
 have C2:=fun w'=>kind_any b w' hb
 have CI:=fun w'=>tsigned_any 9218868437227405312 a b w' ha hb (by decide)
 have CZ:=fun w'=>tsigned_any 0 a b w' ha hb (by decide)
 by_cases a4:fK a = 4
 ·rw [show mV a b = 9221120237041090560 by unfold mV;rw [if_pos (Or.inl a4)],show mF a b = 0 by unfold mF;rw [if_pos (Or.inl a4)]]
  rw [a4] at C1
  exact tmul_n1 a b _ w C1 C2
 by_cases b4:fK b = 4
 ·rw [show mV a b = 9221120237041090560 by unfold mV;rw [if_pos (Or.inr b4)],show mF a b = 0 by unfold mF;rw [if_pos (Or.inr b4)]]
  rw [b4] at C2
  exact tmul_n2 a b _ w (by simp [a4]) C1 C2
 have n4:¬ (fK a = 4 ∨ fK b = 4):=by omega
 by_cases h3:fK a = 3 ∨ fK b = 3
 ·by_cases h0:fK a = 0 ∨ fK b = 0
  ·rw [show mV a b = 9221120237041090560 by unfold mV;rw [if_neg n4,if_pos h3,if_pos h0],show mF a b = 16 by unfold mF;rw [if_neg n4,if_pos h3,if_pos h0]]
   by_cases a3:fK a = 3
   ·have b0:fK b = 0:=by omega
    rw [a3] at C1
    rw [b0] at C2
    exact tmul_iz a b w C1 C2
   ·have b3:fK b = 3:=by omega
    have a0:fK a = 0:=by omega
    rw [a0] at C1
    rw [b3] at C2
    exact tmul_zi a b w C1 C2
  ·rw [show mV a b = wrd (fS a ^^ fS b) 9218868437227405312 by unfold mV;rw [if_neg n4,if_pos h3,if_neg h0],show mF a b = 0 by unfold mF;rw [if_neg n4,if_pos h3,if_neg h0]]
   by_cases a3:fK a = 3
   ·rw [a3] at C1
    exact tmul_i a b _ _ w (by simp [b4]) (by simp;omega) C1 C2 CI
   ·have b3:fK b = 3:=by omega
    rw [b3] at C2
    exact tmul_j a b _ _ w (by simp [a4]) (by simp;omega) (by simp [a3]) C1 C2 CI
 ·by_cases h0:fK a = 0 ∨ fK b = 0
  ·have hz:rv (fR a) * rv (fR b) = 0:=by
    rcases h0 with h | h
    ·rw [(rv_eq0 _).2 ((fK_zero a).1 h),Nat.zero_mul]
    ·rw [(rv_eq0 _).2 ((fK_zero b).1 h),Nat.mul_zero]
   rw [show mV a b = wrd (fS a ^^ fS b) 0 by unfold mV;rw [if_neg n4,if_neg h3,hz,rnd_0],show mF a b = 0 by unfold mF;rw [if_neg n4,if_neg h3,if_pos h0]]
   by_cases a0:fK a = 0
   ·rw [a0] at C1
    exact tmul_z a b _ _ w (by simp [b4]) (by simp;omega) C1 C2 CZ
   ·have b0:fK b = 0:=by omega
    rw [b0] at C2
    exact tmul_y a b _ _ w (by simp [a4]) (by simp;omega) (by simp [a0]) C1 C2 CZ
  ·exact tmul_f a b _ _ _ _ w (by simp [a4]) (by simp;omega) (by simp;omega) (by simp [b4]) (by simp;omega) (by simp;omega) hT C1 C2 (fun w' t=>mulFinite_any a b w' ha hb (fin_of a (by omega) a4) (fin_of b (by omega) b4) (by omega) (by omega) t)
end Go.Proofs.YtdhmglmccafbnaaGreatDoor
namespace Go.Proofs.YtdhmglmccafbnaaGreatDoor
open Go.RowKit
theorem r8exp_no (a:Nat) (k:Int) (f:Bool) (w:World) (hw:f = false ∨ (f = true∧k = 0))
  (C1:∀ w',Calls Tryz.prog 85 #[.int .u64 a] w' fun r w''=>r = .returned (.bool f)∧w' = w'')
  (C2:∀ w',Calls Tryz.prog 106 #[.int .u64 a] w' fun r w''=>r = .returned (.int .i64 k)∧w' = w'') :
  Calls Tryz.prog 90 #[.int .u64 a] w fun r w'=>r = .returned (.int .i64 0)∧Below w.heap.size w w':=by
 have K1:=hide C1;have K2:=hide C2
 clear C1 C2
 rcases hw with rfl | ⟨rfl,rfl⟩
 ·go_enter Tryz.func90,Tryz.ntmps90
  go_wp2_with fail
  refine (uH K1 _).mono ?_
  rintro e w1 ⟨rfl,rfl⟩
  go_wp2
  go_ret
  exact ⟨rfl,Below.refl _ _⟩
 ·go_enter Tryz.func90,Tryz.ntmps90
  go_wp2_with fail
  refine (uH K1 _).mono ?_
  rintro e w1 ⟨rfl,rfl⟩
  go_wp2_with fail
  refine (uH K2 _).mono ?_
  rintro e w1 ⟨rfl,rfl⟩
  go_wp2
  go_ret
  exact ⟨rfl,Below.refl _ _⟩
theorem r8exp_of (a:Nat) (k D X t:Int) (w:World) (h0:(k == 0) = false) (ht:-2000≤t∧t≤2000)
  (C1:∀ w',Calls Tryz.prog 85 #[.int .u64 a] w' fun r w''=>r = .returned (.bool true)∧w' = w'')
  (C2:∀ w',Calls Tryz.prog 106 #[.int .u64 a] w' fun r w''=>r = .returned (.int .i64 k)∧w' = w'')
  (C3:∀ w',Calls Tryz.prog 65 #[.int .u64 a] w' fun r w''=>∃ u,r = .returned u∧IsDy w'' u D X∧Below w'.heap.size w' w'')
  (C4:∀ w' v,IsDy w' v D X→Calls Tryz.prog 105 #[v] w' fun r w''=>r = .returned (.int .i64 t)∧Below w'.heap.size w' w'') :
  Calls Tryz.prog 90 #[.int .u64 a] w fun r w'=>r = .returned (.int .i64 (t - 1))∧Below w.heap.size w w':=by
 have K1:=hide C1;have K2:=hide C2;have K3:=hide C3;have K4:=hide C4
 clear C1 C2 C3 C4
 have hw:=wrap_small (t - 1) (by omega)
 go_enter Tryz.func90,Tryz.ntmps90
 go_wp2_with fail
 refine (uH K1 _).mono ?_
 rintro e w1 ⟨rfl,rfl⟩
 go_wp2_with fail
 refine (uH K2 _).mono ?_
 rintro e w1 ⟨rfl,rfl⟩
 go_wp2_with fail
 refine (uH K3 _).mono ?_
 rintro e w1 ⟨v,rfl,hv,hb1⟩
 obtain ⟨n1,a1,c1,L1,rfl,i1⟩:=hv
 have HX:=hide (show IsDy w1 (.agg #[.bool n1,.slice a1 L1.length c1,.int .i64 X]) D X from ⟨n1,a1,c1,L1,rfl,i1⟩)
 have B1:=hide hb1
 clear i1 hb1 K1 K2 K3
 generalize L1.length = l1 at *
 go_wp2_with fail
 refine (uH K4 _ _ (uH HX)).mono ?_
 rintro e w2 ⟨rfl,hb1⟩
 have B2:=hide ((uH B1).trans (hb1.mono (uH B1).size))
 clear hb1 B1 HX K4
 go_wp2
 go_ret
 exact ⟨rfl,uH B2⟩
theorem rtopN {w:World} {v:Value} {D X:Int} (hv:IsDy w v D X) (h1:D % 2 = 1) (h2:D.natAbs < 9007199254740992) (h3:-1074≤X∧X≤1024) :
  Calls Tryz.prog 105 #[v] w fun r w'=>r = .returned (.int .i64 ((bl D.natAbs:Int)+X))∧Below w.heap.size w w':=by
 obtain ⟨na,ao,ca,A,rfl,a1,a2,a3,a4,a5⟩:=hv.right (small_TOP _ (by omega))
 have:=rtop_any na ao ca A X w a1 (by omega) (by omega)
 have hv:val A = D.natAbs:=by rw [← a3,natAbs_sval]
 have hl:=lenL_bl a1.2.1 a2
 have h0:A.length ≠ 0:=fun h=>by
  have:=(sval_zero_iff a2).2 h
  omega
 unfold topR at this
 rw [if_neg h0,hl,hv] at this
 exact this
theorem r8exp_any (a:Nat) (w:World) (ha:a < 18446744073709551616) :
  Calls Tryz.prog 90 #[.int .u64 a] w fun r w'=>r = .returned (.int .i64 (eX a))∧Below w.heap.size w w':=by
 have C1:=fun w'=>rfinite_any a w' ha
 have C2:=fun w'=>rkind_any a w' ha
 unfold eX
 by_cases h:fK a = 4 ∨ fK a = 3 ∨ fK a = 0
 ·rw [if_pos h]
  refine r8exp_no a _ _ w ?_ C1 C2
  rcases fK_cases a with ⟨h1,_⟩ | ⟨h1,h2⟩
  ·exact .inl h1
  ·exact .inr ⟨h1,by omega⟩
 ·rw [if_neg h]
  have fa:=fin_of a (by omega) (by omega)
  obtain ⟨z1,z2,z3,z4,z5,z6,z7,z8,z9⟩:=sc_facts a ha fa (by omega)
  rw [fa] at C1
  exact r8exp_of a _ (fD a) (fX a) _ w (by simp;omega) (by omega) C1 C2 (fun w'=>rvalue_any a w' ha) (fun w' v hv=>rtopN hv z1 z2 (by omega))
end Go.Proofs.YtdhmglmccafbnaaGreatDoor
