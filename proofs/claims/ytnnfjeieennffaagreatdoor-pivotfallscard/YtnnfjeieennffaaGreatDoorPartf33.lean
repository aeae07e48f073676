/- Part 33 of the texts. -/
import Derived.Test.YtnnfjeieennffaaGreatDoorPartf32
import Derived.Test.YtnnfjeieennffaaGreatDoorPartf28
import Derived.Test.YtnnfjeieennffaaGreatDoorPartf25
import Derived.Test.YtnnfjeieennffaaGreatDoorPartf21
import Derived.Laws.Cover2
import Derived.Laws.Externs
import Derived.Test.YtnnfjeieennffaaGreatDoorPartf04
import Derived.Laws.FloatArith
import Derived.Test.YtnnfjeieennffaaGreatDoorPartf23
import Derived.Test.YtnnfjeieennffaaGreatDoorPartf20
import Derived.Test.YtnnfjeieennffaaGreatDoorPartf22
import Derived.Test.YtnnfjeieennffaaGreatDoorPartf14
set_option maxHeartbeats 8000000
set_option maxRecDepth 20000
namespace Go.Proofs.YtnnfjeieennffaaGreatDoor
open Go.RowKit
def fc (xs:List Nat) (i:Nat):Rat:=fQ (xs.getD i 0)
def vl (j:Nat) (xs:List Nat) (i:Nat):Rat:=if i < j then 0 else fc xs (i - j)
theorem fQ_0:fQ 0 = 0:=fQ_nought 0 (by decide)
theorem sm_shift:∀ (n:Nat) (f:Nat→Rat),sm (n+1) f = f 0+sm n (fun i=>f (i+1)):=by
 intro n
 induction n with
 | zero=>intro f;show (0:Rat)+f 0 = f 0+0;grind
 | succ n ih =>
  intro f
  show sm (n+1) f+f (n+1) = f 0+(sm n (fun i=>f (i+1))+f (n+1))
  rw [ih]
  grind
theorem sm_split (j:Nat) (f:Nat→Rat):∀ n,sm (j+n) f = sm j f+sm n (fun i=>f (j+i)):=by
 intro n
 induction n with
 | zero=>show sm j f = sm j f+0;grind
 | succ n ih =>
  show sm (j+n) f+f (j+n) = sm j f+(sm n (fun i=>f (j+i))+f (j+n))
  rw [ih]
  grind
theorem sm_noughts:∀ (n:Nat) (f:Nat→Rat),(∀ i,i < n→f i = 0)→sm n f = 0:=by
 intro n
 induction n with
 | zero=>intro f _;rfl
 | succ n ih =>
  intro f h
  show sm n f+f n = 0
  rw [ih f (fun i hi=>h i (by omega)),h n (by omega)]
  grind
theorem dt_fc:∀ (vs ys:List Nat),vs.length = ys.length→dt vs.length (fc vs) (fc ys) = dtQ vs ys:=by
 intro vs
 induction vs with
 | nil =>
  intro ys h
  have:ys = []:=by cases ys with | nil=>rfl | cons y ys=>simp at h
  subst this
  rfl
 | cons v vs ih =>
  intro ys h
  cases ys with
  | nil=>simp at h
  | cons y ys =>
   have e:=ih ys (by simpa using h)
   have e2:dtQ (v :: vs) (y :: ys) = fQ v * fQ y+dtQ vs ys:=rfl
   rw [e2,← e]
   show sm (vs.length+1) _ = _
   rw [sm_shift]
   rfl
theorem sum_fc:∀ (xs:List Nat),dt xs.length (fc xs) (fc xs) = sumQ xs:=by
 intro xs
 induction xs with
 | nil=>rfl
 | cons x xs ih =>
  have e2:sumQ (x :: xs) = fQ x * fQ x+sumQ xs:=rfl
  rw [e2,← ih]
  show sm (xs.length+1) _ = _
  rw [sm_shift]
  rfl
theorem dt_vl (j n:Nat) (vs:List Nat) (y:Nat→Rat):dt (j+n) (vl j vs) y = dt n (fc vs) (fun i=>y (j+i)):=by
 unfold dt
 rw [sm_split,sm_noughts j _ (fun i hi=>by unfold vl;rw [if_pos hi];grind)]
 rw [show ∀ z:Rat,(0:Rat)+z = z from fun z=>by grind]
 exact sm_congr (fun i _=>by
  show vl j vs (j+i) * y (j+i) = fc vs i * y (j+i)
  unfold vl
  rw [if_neg (by omega),show j+i - j = i by omega])
theorem fc_drop (xs:List Nat) (j i:Nat):fc xs (j+i) = fc (xs.drop j) i:=by
 unfold fc
 rw [List.getD_eq_getElem?_getD,List.getD_eq_getElem?_getD,List.getElem?_drop]
theorem fc_left (xs ys:List Nat) (i:Nat) (h:i < xs.length):fc (xs ++ ys) i = fc xs i:=by
 unfold fc
 rw [List.getD_eq_getElem?_getD,List.getD_eq_getElem?_getD,List.getElem?_append_left h]
theorem fc_right (xs ys:List Nat) (i:Nat):fc (xs ++ ys) (xs.length+i) = fc ys i:=by
 unfold fc
 rw [List.getD_eq_getElem?_getD,List.getD_eq_getElem?_getD,List.getElem?_append_right (by omega),show xs.length+i - xs.length = i by omega]
theorem fc_take (xs:List Nat) (j i:Nat) (h:i < j):fc (xs.take j) i = fc xs i:=by
 unfold fc
 rw [List.getD_eq_getElem?_getD,List.getD_eq_getElem?_getD,List.getElem?_take_of_lt h]
theorem less_at (c E:Rat):∀ (vs ys us:List Nat),lessQ c E vs ys us→us.length = ys.length∧∀ i,i < ys.length→9007199254740992 * ab (fc us i - (fc ys i - c * fc vs i))≤E:=by
 intro vs
 induction vs with
 | nil =>
  intro ys us h
  cases ys with
  | cons y ys=>exact absurd h (by unfold lessQ;exact id)
  | nil =>
   cases us with
   | cons u us=>exact absurd h (by unfold lessQ;exact id)
   | nil=>exact ⟨rfl,fun i hi=>absurd hi (by simp)⟩
 | cons v vs ih =>
  intro ys us h
  cases ys with
  | nil=>exact absurd h (by unfold lessQ;exact id)
  | cons y ys =>
   cases us with
   | nil=>exact absurd h (by unfold lessQ;exact id)
   | cons u us =>
    unfold lessQ at h
    obtain ⟨⟨_,h1⟩,h2⟩:=h
    obtain ⟨i1,i2⟩:=ih ys us h2
    refine ⟨by simp [i1],fun i hi=>?_⟩
    cases i with
    | zero=>exact h1
    | succ i=>exact i2 i (by simpa using hi)
theorem bd_points (n:Nat) (hn:n≤6) (x:Nat→Rat) (e:Rat) (he:0≤e) (h:∀ i,i < n→ab (x i)≤e):Bd n x (5 / 2 * e):=by
 refine ⟨by grind,?_⟩
 have k:∀ m,m≤n→dt m x x≤(m:Rat) * (e * e):=by
  intro m
  induction m with
  | zero=>intro _;show (0:Rat)≤((0:Nat):Rat) * _;have:((0:Nat):Rat) = 0:=rfl;rw [this];grind
  | succ m ih =>
   intro hm
   have i1:=ih (by omega)
   have e1:dt (m+1) x x = dt m x x+x m * x m:=rfl
   have e2:((m+1:Nat):Rat) = (m:Rat)+1:=by rw [Rat.natCast_add];rfl
   have q:x m * x m≤e * e:=by
    have h1:=h m (by omega)
    have h0:=ab_0 (x m)
    have e3:x m * x m = ab (x m) * ab (x m):=by rw [← ab_mul];exact (ab_pos (sq_nonneg _)).symm
    have k1:=Rat.mul_nonneg (show 0≤e - ab (x m) by grind) (show 0≤e+ab (x m) by grind)
    rw [e3]
    grind
   rw [e1,e2]
   grind
 have k2:=k n (Nat.le_refl _)
 have hn2:(n:Rat)≤6:=Rat.natCast_le_natCast.2 hn
 have k3:=Rat.mul_nonneg (show 0≤6 - (n:Rat) by grind) (sq_nonneg e)
 have k4:=sq_nonneg e
 grind
theorem col_step (j tau:Nat) (Y:Rat) (vs Ys:List Nat) (hl:Ys.length≤6) (hlen:j+vs.length = Ys.length) (ft:fFin tau = true) (ht:1000 * ab (fQ tau)≤2001) (hv:∀ v ∈ vs,fFin v = true∧1000 * ab (fQ v)≤1001) (hy:∀ y ∈ Ys,fFin y = true)
  (hYs:s1Q (Ys.drop j)≤Y) (hY:Y≤p2 900) (hη:1267650600228229401496703205376 * p2 (-1075)≤Y) :
  Bd Ys.length (fun i=>fc (Ys.take j ++ apV (mV tau (dtV 0 vs (Ys.drop j))) vs (Ys.drop j)) i+(-1) * mir Ys.length (vl j vs) (fQ tau) (fc Ys) i) (115 / 9007199254740992 * Y):=by
 have hdl:(Ys.drop j).length = vs.length:=by rw [List.length_drop];omega
 have hls:=col_lessY tau Y vs (Ys.drop j) (by omega) hdl.symm ft ht hv (fun y h=>hy y (List.mem_of_mem_drop h)) hYs hY hη
 generalize apV (mV tau (dtV 0 vs (Ys.drop j))) vs (Ys.drop j) = us at *
 obtain ⟨l1,l2⟩:=less_at _ _ vs (Ys.drop j) us hls
 have hdt:dt Ys.length (vl j vs) (fc Ys) = dtQ vs (Ys.drop j):=by
  rw [← hlen,dt_vl,← dt_fc vs (Ys.drop j) hdl.symm]
  exact dt_congr (fun _ _=>rfl) (fun i _=>fc_drop Ys j i)
 have hp:=p2_pos (-1075)
 have b:=bd_points Ys.length hl (fun i=>fc (Ys.take j ++ us) i+(-1) * mir Ys.length (vl j vs) (fQ tau) (fc Ys) i) (46 / 9007199254740992 * Y) (by grind) (fun i hi=>by
  have tl:(Ys.take j).length = j:=by rw [List.length_take];omega
  unfold mir
  rw [hdt]
  rcases Nat.lt_or_ge i j with g | g
  ·have e1:=fc_left (Ys.take j) us i (by omega)
   rw [fc_take Ys j i g] at e1
   have e2:vl j vs i = 0:=by unfold vl;rw [if_pos g]
   rw [e1,e2,show fc Ys i+(-1) * (fc Ys i+-(fQ tau * dtQ vs (Ys.drop j)) * 0) = 0 by grind]
   unfold ab
   grind
  ·obtain ⟨k,rfl⟩:∃ k,i = j+k:=⟨i - j,by omega⟩
   have e1:=fc_right (Ys.take j) us k
   rw [tl] at e1
   have e2:vl j vs (j+k) = fc vs k:=by unfold vl;rw [if_neg (by omega),show j+k - j = k by omega]
   have e3:=fc_drop Ys j k
   have h:=l2 k (by omega)
   rw [e1,e2,e3,show fc us k+(-1) * (fc (Ys.drop j) k+-(fQ tau * dtQ vs (Ys.drop j)) * fc vs k) = fc us k - (fc (Ys.drop j) k - fQ tau * dtQ vs (Ys.drop j) * fc vs k) by grind]
   generalize ab (fc us k - (fc (Ys.drop j) k - fQ tau * dtQ vs (Ys.drop j) * fc vs k)) = z at *
   grind)
 exact b.mono (by grind)
end Go.Proofs.YtnnfjeieennffaaGreatDoor
namespace Go.Proofs.YtnnfjeieennffaaGreatDoor
open Go.RowKit
theorem mul_noughts (a b:Nat) (fa:fFin a = true) (fb:fFin b = true) (h:fQ a * fQ b = 0):fFin (mV a b) = true∧fQ (mV a b) = 0:=by
 have a0:ab (0:Rat) = 0:=by unfold ab;grind
 have hf:=mul_fin a b fa fb (by rw [h,a0];exact p2_pos _)
 refine ⟨hf,?_⟩
 have e:=mul_err a b fa fb hf
 rw [h,a0,show fQ (mV a b) - 0 = fQ (mV a b) by grind] at e
 rcases e with e | ⟨_,e⟩
 ·have:=le_ab (fQ (mV a b));have:=ab_0 (fQ (mV a b));grind
 ·have hp:=p2_pos (-1074)
  unfold fQ at e ⊢
  rw [ab_mul,ab_pos (Rat.le_of_lt hp)] at e
  obtain ⟨z,hz⟩:∃ z:Int,fZ (mV a b) = z:=⟨_,rfl⟩
  rw [hz] at e ⊢
  rcases Int.lt_trichotomy z 0 with g | g | g
  ·exfalso
   have k:(z:Rat)≤((-1:Int):Rat):=Rat.intCast_le_intCast.2 (by omega)
   have k2:((-1:Int):Rat) = -1:=rfl
   have l:=le_ab (z:Rat)
   have m:=Rat.mul_le_mul_of_nonneg_left (show 1≤ab (z:Rat) by grind) (Rat.le_of_lt hp)
   generalize p2 (-1074) = P at *
   grind
  ·rw [g]
   have k2:((0:Int):Rat) = 0:=rfl
   rw [k2]
   grind
  ·exfalso
   have k:((1:Int):Rat)≤(z:Rat):=Rat.intCast_le_intCast.2 (by omega)
   have k2:((1:Int):Rat) = 1:=rfl
   have l:=le_ab (z:Rat)
   have m:=Rat.mul_le_mul_of_nonneg_left (show 1≤ab (z:Rat) by grind) (Rat.le_of_lt hp)
   generalize p2 (-1074) = P at *
   grind
theorem add_noughts (a b:Nat) (fa:fFin a = true) (fb:fFin b = true) (h:fQ a+fQ b = 0):fFin (aV a b) = true∧fQ (aV a b) = 0:=by
 have a0:ab (0:Rat) = 0:=by unfold ab;grind
 have hf:=add_fin a b fa fb (by rw [h,a0];exact p2_pos _)
 refine ⟨hf,?_⟩
 have e:=add_err a b fa fb hf
 rw [h,a0,show fQ (aV a b) - 0 = fQ (aV a b) by grind] at e
 have:=le_ab (fQ (aV a b));have:=ab_0 (fQ (aV a b));grind
theorem dot_noughts:∀ (vs ys:List Nat) (s:Nat),fFin s = true→fQ s = 0→(∀ v ∈ vs,fFin v = true)→(∀ y ∈ ys,fFin y = true∧fQ y = 0)→fFin (dtV s vs ys) = true∧fQ (dtV s vs ys) = 0:=by
 intro vs
 induction vs with
 | nil =>
  intro ys s f1 f2 _ _
  have e:dtV s [] ys = s:=by cases ys <;> rfl
  rw [e]
  exact ⟨f1,f2⟩
 | cons v vs ih =>
  intro ys s f1 f2 hv hy
  cases ys with
  | nil=>exact ⟨f1,f2⟩
  | cons y ys =>
   obtain ⟨y1,y2⟩:=hy y List.mem_cons_self
   obtain ⟨m1,m2⟩:=mul_noughts v y (hv v List.mem_cons_self) y1 (by rw [y2];grind)
   obtain ⟨a1,a2⟩:=add_noughts s (mV v y) f1 m1 (by rw [f2,m2];grind)
   exact ih ys _ a1 a2 (fun w hw=>hv w (List.mem_cons_of_mem _ hw)) (fun w hw=>hy w (List.mem_cons_of_mem _ hw))
theorem ap_noughts (t:Nat) (ft:fFin t = true) (t0:fQ t = 0):∀ (vs ys:List Nat),vs.length = ys.length→(∀ v ∈ vs,fFin v = true)→(∀ y ∈ ys,fFin y = true∧fQ y = 0)→∀ E,0≤E→lessQ 0 E vs ys (apV t vs ys):=by
 intro vs
 induction vs with
 | nil =>
  intro ys h _ _ E _
  cases ys with
  | nil=>exact trivial
  | cons y ys=>simp at h
 | cons v vs ih =>
  intro ys h hv hy E hE
  cases ys with
  | nil=>simp at h
  | cons y ys =>
   obtain ⟨y1,y2⟩:=hy y List.mem_cons_self
   obtain ⟨m1,m2⟩:=mul_noughts t v ft (hv v List.mem_cons_self) (by rw [t0];grind)
   have pl:=mV_lt t v
   have fn:fFin (fN (mV t v)) = true:=by rw [fFin_fN _ pl];exact m1
   have qn:=fQ_fN _ pl
   obtain ⟨a1,a2⟩:=add_noughts y (fN (mV t v)) y1 fn (by rw [qn,m2,y2];grind)
   show lessQ 0 E (v :: vs) (y :: ys) (aV y (fN (mV t v)) :: apV t vs ys)
   unfold lessQ
   refine ⟨⟨a1,?_⟩,ih ys (by simpa using h) (fun w hw=>hv w (List.mem_cons_of_mem _ hw)) (fun w hw=>hy w (List.mem_cons_of_mem _ hw)) E hE⟩
   rw [a2,y2,show (0:Rat) - (0 - 0 * fQ v) = 0 by grind,show ab (0:Rat) = 0 by unfold ab;grind]
   grind
theorem fins_of:∀ (vs ys us:List Nat) (c E:Rat),lessQ c E vs ys us→∀ u ∈ us,fFin u = true:=by
 intro vs
 induction vs with
 | nil =>
  intro ys us c E h u hu
  cases ys with
  | cons y ys=>exact absurd h (by unfold lessQ;exact id)
  | nil =>
   cases us with
   | nil=>cases hu
   | cons w us=>exact absurd h (by unfold lessQ;exact id)
 | cons v vs ih =>
  intro ys us c E h u hu
  cases ys with
  | nil=>exact absurd h (by unfold lessQ;exact id)
  | cons y ys =>
   cases us with
   | nil=>cases hu
   | cons w us =>
    unfold lessQ at h
    rcases List.mem_cons.1 hu with rfl | hu
    ·exact h.1.1
    ·exact ih ys us c E h.2 u hu
theorem s1_bd (Ys:List Nat) (j:Nat) (hl:Ys.length≤6) (a:Rat) (hb:Bd Ys.length (fc Ys) a):s1Q (Ys.drop j)≤5 / 2 * a:=by
 have h0:=hb.1
 have h1:=hb.2
 rw [sum_fc] at h1
 have hd:sumQ (Ys.drop j)≤sumQ Ys:=by
  have key:∀ (zs:List Nat) (j:Nat),sumQ (zs.drop j)≤sumQ zs:=by
   intro zs
   induction zs with
   | nil=>intro j;rw [List.drop_nil];exact Rat.le_refl
   | cons z zs ih =>
    intro j
    cases j with
    | zero=>exact Rat.le_refl
    | succ j =>
     have i:=ih j
     have e:sumQ (z :: zs) = fQ z * fQ z+sumQ zs:=rfl
     have q:=sq_nonneg (fQ z)
     rw [List.drop_succ_cons,e]
     grind
  exact key Ys j
 have q:=s1Q_sq (Ys.drop j)
 have S0:=sumQ_nonneg (Ys.drop j)
 have hl2:((Ys.drop j).length:Rat)≤6:=Rat.natCast_le_natCast.2 (show (Ys.drop j).length≤6 by rw [List.length_drop];omega)
 have m:=Rat.mul_nonneg (show 0≤6 - ((Ys.drop j).length:Rat) by grind) S0
 refine le_of_sq (by grind) ?_
 have:=sq_nonneg a
 grind
theorem mir_of (j t:Nat) (vs:List Nat) (n:Nat) (hn:n = j+vs.length) (h1:8796093022208 * ab (fQ t * sumQ vs - 2)≤1) (h2:0≤fQ t):Mir n (vl j vs) (fQ t) (1 / 8796093022208):=by
 have e:dt n (vl j vs) (vl j vs) = sumQ vs:=by
  rw [hn,dt_vl,← sum_fc]
  exact dt_congr (fun _ _=>rfl) (fun i _=>by
   show vl j vs (j+i) = fc vs i
   unfold vl
   rw [if_neg (by omega),show j+i - j = i by omega])
 refine ⟨by grind,by grind,?_,h2⟩
 rw [e]
 grind
end Go.Proofs.YtnnfjeieennffaaGreatDoor
namespace Go.Proofs.YtnnfjeieennffaaGreatDoor
open Go.RowKit
attribute [local go_sem ↓] Go.wp_at_zero Go.wp_at_succ
theorem r9biggest_any (ao:Option Addr) (c:Nat) (I:List Int) (w:World) (hI:BitsAt w ao c I) (hn:I.length≤35184372088830) :
  Calls Tryz.prog 125 #[.slice ao I.length c] w fun e w'=>e = .returned (.int .u64 (bgK I I.length:Nat))∧Below w.heap.size w w':=by
 have HI:=hide hI
 obtain ⟨n,hnn⟩:∃ n,I.length = n:=⟨_,rfl⟩
 rw [hnn] at hn ⊢
 have HN:=hide hnn
 clear hI hnn
 go_enter Tryz.func125,Tryz.ntmps125
 go_wp2_with fail
 go_loopw [3,4] (fun t i wr=>∃ k:Nat,k≤n∧i = .int .i64 k∧t = .int .u64 (bgK I k:Nat)∧Hid (Below w.heap.size w wr)) (fun _ i _=>n - (intOf i).toNat)
 case atStart=>exact ⟨0,Nat.zero_le _,rfl,rfl,Below.refl _ _⟩
 case round =>
  obtain ⟨k,hk,rfl,rfl,hB⟩:=hrel
  by_cases hlt:k < n
  ·have hkI:(k:Int) < (n:Int):=by omega
   obtain ⟨b,off,hao,hb,hc⟩:=((uH HI).below hB.out).ne (by rw [uH HN];omega)
   have hck:=hc k (by rw [uH HN];exact hlt)
   have C1:=hide (fun w'=>r8abs_any (atB I k) w' ((uH HI).lt k))
   have C2:=hide (fun w'=>r8max_any (bgK I k) (fR (atB I k)) w' (bgK_lt I k) (by have:=fR_lt (atB I k);omega))
   have eV:Hid (bgK I (k+1) = mx (bgK I k) (fR (atB I k))):=rfl
   subst hao
   clear hc
   generalize mx (bgK I k) (fR (atB I k)) = o at *
   generalize fR (atB I k) = r at *
   generalize atB I k = x at *
   generalize bgK I k = tv at *
   go_wp2_with fail
   refine (uH C1 _).mono ?_
   rintro e w2 ⟨rfl,rfl⟩
   go_wp2_with fail
   refine (uH C2 _).mono ?_
   rintro e w2 ⟨rfl,hb2⟩
   have B2:Hid (Below w.heap.size w w2):=hB.out.trans (hb2.mono hB.out.size)
   clear hb2 C1 C2
   go_wp2_with fail
   go_round
   case rel=>exact ⟨k+1,by omega,by go_num,by rw [eV.out],B2⟩
   case measure=>simp [intOf];omega
  ·have hkk:k = n:=by omega
   subst hkk
   go_wp2_with fail
   exact bodyPost_ret (v:=.int .u64 (bgK I k:Nat)) (by simp [results,Tryz.results125,go_sem]) rfl ⟨rfl,hB.out⟩
theorem fnK_down (I:List Int):∀ (m k:Nat),k≤m→fnK I m = true→fnK I k = true:=by
 intro m
 induction m with
 | zero=>intro k hk _;rw [show k = 0 by omega];rfl
 | succ m ih =>
  intro k hk h
  have h':(fnK I m && fFin (atB I m)) = true:=h
  rw [Bool.and_eq_true] at h'
  by_cases e:k = m+1
  ·subst e;exact h
  ·exact ih k (by omega) h'.1
theorem fnK_no (I:List Int) (n k:Nat) (hk:k < n) (h:fFin (atB I k) = false):fnK I n = false:=by
 cases e:fnK I n
 ·rfl
 ·have h2:(fnK I k && fFin (atB I k)) = true:=fnK_down I n (k+1) (by omega) e
  rw [h,Bool.and_false] at h2
  cases h2
theorem r9finite_any (ao:Option Addr) (c:Nat) (I:List Int) (w:World) (hI:BitsAt w ao c I) (hn:I.length≤35184372088830) :
  Calls Tryz.prog 34 #[.slice ao I.length c] w fun e w'=>e = .returned (.bool (fnK I I.length))∧Below w.heap.size w w':=by
 have HI:=hide hI
 obtain ⟨n,hnn⟩:∃ n,I.length = n:=⟨_,rfl⟩
 rw [hnn] at hn ⊢
 have HN:=hide hnn
 clear hI hnn
 obtain ⟨v,hv⟩:∃ v,fnK I n = v:=⟨_,rfl⟩
 rw [hv]
 have HV:=hide hv
 clear hv
 go_enter Tryz.func34,Tryz.ntmps34
 go_wp2_with fail
 go_loopw [3] (fun i wr=>∃ k:Nat,k≤n∧i = .int .i64 k∧Hid (fnK I k = true)∧Hid (Below w.heap.size w wr)) (fun i _=>n - (intOf i).toNat)
 case atStart=>exact ⟨0,Nat.zero_le _,rfl,rfl,Below.refl _ _⟩
 case round =>
  obtain ⟨k,hk,rfl,hq,hB⟩:=hrel
  by_cases hlt:k < n
  ·have hkI:(k:Int) < (n:Int):=by omega
   obtain ⟨b,off,hao,hb,hc⟩:=((uH HI).below hB.out).ne (by rw [uH HN];omega)
   have hck:=hc k (by rw [uH HN];exact hlt)
   have C1:=hide (fun w'=>rfinite_any (atB I k) w' ((uH HI).lt k))
   have eV:Hid (fnK I (k+1) = (fnK I k && fFin (atB I k))):=rfl
   have eF:=hide (fun h=>fnK_no I n k hlt h)
   subst hao
   clear hc
   generalize atB I k = x at *
   cases hf:fFin x
   ·have e2:=hide ((uH HV).symm.trans (uH eF hf))
    rw [hf] at C1
    have hv2:=uH e2
    subst hv2
    go_wp2_with fail
    refine (uH C1 _).mono ?_
    rintro e w2 ⟨rfl,rfl⟩
    clear C1
    go_wp2_with fail
    exact bodyPost_ret (v:=.bool false) (by simp [results,Tryz.results34,go_sem]) rfl ⟨rfl,hB.out⟩
   ·rw [hf] at C1 eV
    go_wp2_with fail
    refine (uH C1 _).mono ?_
    rintro e w2 ⟨rfl,rfl⟩
    clear C1
    go_wp2_with fail
    go_round
    case rel=>exact ⟨k+1,by omega,by go_num,by unfold Hid;rw [eV.out,hq.out];rfl,hB⟩
    case measure=>simp [intOf];omega
  ·have hkk:k = n:=by omega
   subst hkk
   have e2:=(uH HV).symm.trans hq.out
   subst e2
   go_wp2_with fail
   exact bodyPost_ret (v:=.bool true) (by simp [results,Tryz.results34,go_sem]) rfl ⟨rfl,hB.out⟩
end Go.Proofs.YtnnfjeieennffaaGreatDoor
namespace Go.Proofs.YtnnfjeieennffaaGreatDoor
open Go.RowKit
attribute [local go_sem ↓] Go.wp_at_zero Go.wp_at_succ
def tmB (K:Int) (x:Nat):Bool:=fFin x && (decide (fK x = 0) || decide (-K≤eX x∧eX x < K))
def tmK (K:Int) (I:List Int):Nat→Bool
 | 0=>true
 | k+1=>tmK K I k && tmB K (atB I k)
theorem tmK_down (K:Int) (I:List Int):∀ (m k:Nat),k≤m→tmK K I m = true→tmK K I k = true:=by
 intro m
 induction m with
 | zero=>intro k hk _;rw [show k = 0 by omega];rfl
 | succ m ih =>
  intro k hk h
  have h':(tmK K I m && tmB K (atB I m)) = true:=h
  rw [Bool.and_eq_true] at h'
  by_cases e:k = m+1
  ·subst e;exact h
  ·exact ih k (by omega) h'.1
theorem tmK_at (K:Int) (I:List Int) (n k:Nat) (hk:k < n) (h:tmK K I n = true):tmB K (atB I k) = true:=by
 have h2:(tmK K I k && tmB K (atB I k)) = true:=tmK_down K I n (k+1) (by omega) h
 rw [Bool.and_eq_true] at h2
 exact h2.2
theorem tmK_no (K:Int) (I:List Int) (n k:Nat) (hk:k < n) (h:tmB K (atB I k) = false):tmK K I n = false:=by
 cases e:tmK K I n
 ·rfl
 ·rw [tmK_at K I n k hk e] at h
  cases h
theorem tmB_ways (K:Int) (x:Nat):(fFin x = false∧tmB K x = false) ∨ (fFin x = true∧fK x = 0∧tmB K x = true) ∨ (fFin x = true∧fK x ≠ 0∧eX x < -K∧tmB K x = false) ∨ (fFin x = true∧fK x ≠ 0∧-K≤eX x∧K≤eX x∧tmB K x = false) ∨ (fFin x = true∧fK x ≠ 0∧-K≤eX x∧eX x < K∧tmB K x = true):=by
 unfold tmB
 cases hf:fFin x
 ·exact .inl ⟨rfl,rfl⟩
 ·right
  by_cases h0:fK x = 0
  ·left;exact ⟨rfl,h0,by rw [decide_eq_true h0];rfl⟩
  ·right
   rw [decide_eq_false h0]
   by_cases h1:eX x < -K
   ·left;exact ⟨rfl,h0,h1,by rw [decide_eq_false (by omega)];rfl⟩
   ·right
    by_cases h2:K≤eX x
    ·left;exact ⟨rfl,h0,by omega,h2,by rw [decide_eq_false (by omega)];rfl⟩
    ·right;exact ⟨rfl,h0,by omega,by omega,by rw [decide_eq_true (by omega)];rfl⟩
theorem r9tame_any (ao:Option Addr) (c:Nat) (I:List Int) (K:Int) (w:World) (hI:BitsAt w ao c I) (hn:I.length≤35184372088830) (hK:-5000≤K∧K≤5000) :
  Calls Tryz.prog 53 #[.slice ao I.length c,.int .i64 K] w fun e w'=>e = .returned (.bool (tmK K I I.length))∧Below w.heap.size w w':=by
 have HI:=hide hI
 obtain ⟨n,hnn⟩:∃ n,I.length = n:=⟨_,rfl⟩
 rw [hnn] at hn ⊢
 have HN:=hide hnn
 have hw:IntKind.i64.wrap (-K) = -K:=by simp only [IntKind.wrap_i64];omega
 clear hI hnn hK
 obtain ⟨v,hv⟩:∃ v,tmK K I n = v:=⟨_,rfl⟩
 rw [hv]
 have HV:=hide hv
 clear hv
 go_enter Tryz.func53,Tryz.ntmps53
 go_wp2_with fail
 go_loopw [5] (fun i wr=>∃ k:Nat,k≤n∧i = .int .i64 k∧Hid (tmK K I k = true)∧Hid (Below w.heap.size w wr)) (fun i _=>n - (intOf i).toNat)
 case atStart=>exact ⟨0,Nat.zero_le _,rfl,rfl,Below.refl _ _⟩
 case round =>
  obtain ⟨k,hk,rfl,hq,hB⟩:=hrel
  by_cases hlt:k < n
  ·have hkI:(k:Int) < (n:Int):=by omega
   obtain ⟨b,off,hao,hb,hc⟩:=((uH HI).below hB.out).ne (by rw [uH HN];omega)
   have hck:=hide (hc k (by rw [uH HN];exact hlt))
   have x64:=(uH HI).lt k
   have C1:=hide (fun w'=>rfinite_any (atB I k) w' x64)
   have C2:=hide (fun w'=>rkind_any (atB I k) w' x64)
   have C3:=hide (fun w'=>r8exp_any (atB I k) w' x64)
   have eV:Hid (tmK K I (k+1) = (tmK K I k && tmB K (atB I k))):=rfl
   have eF:=hide (fun h=>tmK_no K I n k hlt h)
   have WY:=hide (tmB_ways K (atB I k))
   subst hao
   clear hc x64
   generalize tmB K (atB I k) = tb at *
   generalize eX (atB I k) = ex at *
   generalize fK (atB I k) = kd at *
   generalize fFin (atB I k) = ff at *
   generalize atB I k = x at *
   rcases uH WY with ⟨rfl,rfl⟩ | ⟨rfl,rfl,rfl⟩ | ⟨rfl,g0,g1,rfl⟩ | ⟨rfl,g0,g1,g2,rfl⟩ | ⟨rfl,g0,g1,g2,rfl⟩
   ·have hv2:=(uH HV).symm.trans (uH eF rfl)
    subst hv2
    clear WY eF
    have hc0:=uH hck
    go_wp2_with fail
    refine (uH C1 _).mono ?_
    rintro e w2 ⟨rfl,rfl⟩
    clear C1 C2 C3
    go_wp2_with fail
    exact bodyPost_ret (v:=.bool false) (by simp [results,Tryz.results53,go_sem]) rfl ⟨rfl,hB.out⟩
   ·clear WY eF
    have hc0:=uH hck
    go_wp2_with fail
    refine (uH C1 _).mono ?_
    rintro e w2 ⟨rfl,rfl⟩
    go_wp2_with fail
    refine (uH C2 _).mono ?_
    rintro e w2 ⟨rfl,rfl⟩
    clear C1 C2 C3
    go_wp2_with fail
    go_round
    case rel=>exact ⟨k+1,by omega,by go_num,by unfold Hid;rw [eV.out,hq.out];rfl,hB⟩
    case measure=>simp [intOf];omega
   ·have hv2:=(uH HV).symm.trans (uH eF rfl)
    subst hv2
    clear WY eF
    have hc0:=uH hck
    have g0':(kd == 0) = false:=by rw [beq_eq_false_iff_ne];exact g0
    go_wp2_with fail
    refine (uH C1 _).mono ?_
    rintro e w2 ⟨rfl,rfl⟩
    go_wp2_with fail
    refine (uH C2 _).mono ?_
    rintro e w2 ⟨rfl,rfl⟩
    go_wp2_with fail
    refine (uH C3 _).mono ?_
    rintro e w2 ⟨rfl,hb2⟩
    have B2:Hid (Below w.heap.size w w2):=hB.out.trans (hb2.mono hB.out.size)
    clear C1 C2 C3 hb2
    go_wp2_with fail
    exact bodyPost_ret (v:=.bool false) (by simp [results,Tryz.results53,go_sem]) rfl ⟨rfl,B2.out⟩
   ·have hv2:=(uH HV).symm.trans (uH eF rfl)
    subst hv2
    clear WY eF
    have hc0:=uH hck
    have HC:=hck
    have g0':(kd == 0) = false:=by rw [beq_eq_false_iff_ne];exact g0
    go_wp2_with fail
    refine (uH C1 _).mono ?_
    rintro e w2 ⟨rfl,rfl⟩
    go_wp2_with fail
    refine (uH C2 _).mono ?_
    rintro e w2 ⟨rfl,rfl⟩
    go_wp2_with fail
    refine (uH C3 _).mono ?_
    rintro e w2 ⟨rfl,hb2⟩
    have hc2:=cell_keep (uH HC) hb2
    have B2:Hid (Below w.heap.size w w2):=hB.out.trans (hb2.mono hB.out.size)
    clear C1 C2 hb2 hc0
    go_wp2_with fail
    refine (uH C3 _).mono ?_
    rintro e w3 ⟨rfl,hb3⟩
    have B3:Hid (Below w.heap.size w w3):=B2.out.trans (hb3.mono B2.out.size)
    clear C3 hb3
    go_wp2_with fail
    exact bodyPost_ret (v:=.bool false) (by simp [results,Tryz.results53,go_sem]) rfl ⟨rfl,B3.out⟩
   ·clear WY eF
    have hc0:=uH hck
    have HC:=hck
    have g0':(kd == 0) = false:=by rw [beq_eq_false_iff_ne];exact g0
    go_wp2_with fail
    refine (uH C1 _).mono ?_
    rintro e w2 ⟨rfl,rfl⟩
    go_wp2_with fail
    refine (uH C2 _).mono ?_
    rintro e w2 ⟨rfl,rfl⟩
    go_wp2_with fail
    refine (uH C3 _).mono ?_
    rintro e w2 ⟨rfl,hb2⟩
    have hc2:=cell_keep (uH HC) hb2
    have B2:Hid (Below w.heap.size w w2):=hB.out.trans (hb2.mono hB.out.size)
    clear C1 C2 hb2 hc0
    go_wp2_with fail
    refine (uH C3 _).mono ?_
    rintro e w3 ⟨rfl,hb3⟩
    have B3:Hid (Below w.heap.size w w3):=B2.out.trans (hb3.mono B2.out.size)
    clear C3 hb3
    go_wp2_with fail
    go_round
    case rel=>exact ⟨k+1,by omega,by go_num,by unfold Hid;rw [eV.out,hq.out];rfl,B3⟩
    case measure=>simp [intOf];omega
  ·have hkk:k = n:=by omega
   subst hkk
   have e2:=(uH HV).symm.trans hq.out
   subst e2
   go_wp2_with fail
   exact bodyPost_ret (v:=.bool true) (by simp [results,Tryz.results53,go_sem]) rfl ⟨rfl,hB.out⟩
end Go.Proofs.YtnnfjeieennffaaGreatDoor
namespace Go.Proofs.YtnnfjeieennffaaGreatDoor
open Go.RowKit
theorem mul_level7 (z1 z2 lo1 lo2:Int) (h1:z1 ≠ 0) (h2:z2 ≠ 0) (l1:lo1≤oE z1 lo1) (l2:lo2≤oE z2 lo2) :
  oM (z1 * z2) = oM (oM z1 * oM z2)∧oE (z1 * z2) (lo1+lo2) = oE (oM z1 * oM z2) (oE z1 lo1+oE z2 lo2):=by
 have x1:=oM_level z1 lo1 h1
 have x2:=oM_level z2 lo2 h2
 obtain ⟨i,hi⟩:∃ i:Nat,oE z1 lo1 = lo1+i:=⟨(oE z1 lo1 - lo1).toNat,by omega⟩
 obtain ⟨j,hj⟩:∃ j:Nat,oE z2 lo2 = lo2+j:=⟨(oE z2 lo2 - lo2).toNat,by omega⟩
 rw [hi,show (lo1+(i:Int) - lo1).toNat = i by omega] at x1
 rw [hj,show (lo2+(j:Int) - lo2).toNat = j by omega] at x2
 have e:z1 * z2 = oM z1 * oM z2 * 2 ^ (i+j):=by
  rw [Int.pow_add,show oM z1 * oM z2 * (2 ^ i * 2 ^ j) = oM z1 * 2 ^ i * (oM z2 * 2 ^ j) by ac_rfl,x1,x2]
 have s:=oM_scale (oM z1 * oM z2) (i+j) (lo1+lo2)
 rw [← e] at s
 refine ⟨s.1,?_⟩
 rw [s.2,hi,hj]
 congr 1
 omega
theorem oE_ge (z lo:Int) (h:z ≠ 0):lo≤oE z lo:=by
 rw [oE_ne _ _ h];omega
theorem rmul7 {w:World} {v u:Value} {m1 m2 e1 e2:Int} (hv:IsDy w v m1 e1) (hu:IsDy w u m2 e2) (h1:m1.natAbs < 1152921504606846976) (h2:m2.natAbs < 1152921504606846976) (b1:-3000≤e1∧e1≤3000) (b2:-3000≤e2∧e2≤3000) :
  Calls Tryz.prog 59 #[v,u] w fun r w'=>∃ q,r = .returned q∧IsDy w' q (oM (m1 * m2)) (oE (m1 * m2) (e1+e2))∧Below w.heap.size w w':=by
 have p30:(1152921504606846976:Nat)≤4294967296 ^ 30:=by decide +kernel
 obtain ⟨n,a,c,L,rfl,g1,g2,g3,g4,g5⟩:=hv.right (small_TOP _ (by omega))
 obtain ⟨n',a',c',L',rfl,k1,k2,k3,k4,k5⟩:=hu.right (small_TOP _ (by omega))
 have v1:val L = m1.natAbs:=by rw [← g3,natAbs_sval]
 have v2:val L' = m2.natAbs:=by rw [← k3,natAbs_sval]
 have l1:L.length≤30:=(length_le_iff L g1.2.1 (right_canon g2).2.1 30).2 (by rw [v1];exact Nat.lt_of_lt_of_le h1 p30)
 have l2:L'.length≤30:=(length_le_iff L' k1.2.1 (right_canon k2).2.1 30).2 (by rw [v2];exact Nat.lt_of_lt_of_le h2 p30)
 have:=rmul_any n n' a a' c c' L L' e1 e2 w g1 k1 l1 l2
 rw [g3,k3] at this
 have hm:(m1 * m2).natAbs < 2 ^ 120:=by
  rw [Int.natAbs_mul]
  have:m1.natAbs * m2.natAbs < 1152921504606846976 * 1152921504606846976:=Nat.mul_lt_mul_of_lt_of_le h1 (Nat.le_of_lt h2) (by decide)
  exact Nat.lt_of_lt_of_le this (by decide)
 have hE:(if m1 * m2 = 0 then 0 else IntKind.i64.wrap (IntKind.i64.wrap (e1+e2)+tz (m1 * m2).natAbs)) = oE (m1 * m2) (e1+e2):=by
  by_cases h0:m1 * m2 = 0
  ·rw [if_pos h0,h0,oE_zero]
  ·have ht:tz (m1 * m2).natAbs < 120:=tz_lt _ 120 (by omega) hm
   rw [if_neg h0,oE_ne _ _ h0,wrap_small (e1+e2) (by omega),wrap_small _ (by omega)]
 rwa [hE] at this
end Go.Proofs.YtnnfjeieennffaaGreatDoor
