/- Part 45 of the texts. -/
import Derived.Test.YtnnfjeieennffaaGreatDoorPartf42
import Derived.Test.YtnnfjeieennffaaGreatDoorPartf44
import Derived.Test.YtnnfjeieennffaaGreatDoorPartf37
import Derived.Test.YtnnfjeieennffaaGreatDoorPartf43
import Derived.Test.YtnnfjeieennffaaGreatDoorPartf31
import Derived.Test.YtnnfjeieennffaaGreatDoorPartf34
import Derived.Test.YtnnfjeieennffaaGreatDoorPartf29
import Derived.Test.YtnnfjeieennffaaGreatDoorPartf35
import Derived.Test.YtnnfjeieennffaaGreatDoorPartf36
import Derived.Deep.RegionLaw
import Derived.Test.YtnnfjeieennffaaGreatDoorPartf16
import Derived.Test.YtnnfjeieennffaaGreatDoorPartf18
import Derived.Test.YtnnfjeieennffaaGreatDoorPartf19
import Derived.Deep.Cut
import Derived.BigQuiet
import Derived.Deep.CutRange
set_option maxHeartbeats 32000000
set_option maxRecDepth 20000
namespace Go.Proofs.YtnnfjeieennffaaGreatDoor
open Go.RowKit
theorem aV_left (a b:Nat) (h:fFin (aV a b) = true):fFin a = true:=by
 by_cases h4:fK a = 4
 ·unfold aV at h
  rw [if_pos (.inl h4)] at h
  exact absurd h (by decide +kernel)
 by_cases h3:fK a = 3
 ·unfold aV at h
  by_cases hb:fK b = 4
  ·rw [if_pos (.inr hb)] at h
   exact absurd h (by decide +kernel)
  ·rw [if_neg (fun e=>e.elim h4 hb),if_pos h3] at h
   split at h
   ·exact absurd h (by decide +kernel)
   ·exact h
 exact fin_of a h3 h4
theorem finL_all (xs:List Nat):finL xs = true ↔ ∀ k,k < xs.length→fFin (xs.getD k 0) = true:=by
 unfold finL
 rw [fnK_all]
 exact ⟨fun h k hk=>by have:=h k hk;rwa [mxL_at] at this,fun h k hk=>by rw [mxL_at];exact h k hk⟩
theorem ap_left {r c:Nat} {S:List Nat} (hl:S.length = r * c) (i k:Nat) (vs:List Nat) (tau:Nat) (h:finL (apM r c S i k vs tau) = true):finL S = true:=by
 rw [finL_all] at h ⊢
 intro x hx
 rw [apM_len] at h
 rw [hl] at hx
 obtain ⟨h1,h2,h3⟩:=place_in hx
 have hf:fFin (elM c (apM r c S i k vs tau) (x / c) (x % c)) = true:=by
  have:=h x hx
  unfold elM
  rwa [h3]
 rw [el_ap r c S i k vs tau h1 h2] at hf
 have e:S.getD x 0 = elM c S (x / c) (x % c):=by unfold elM;rw [h3]
 rw [e]
 split at hf
 ·rename_i g
  rw [apL_at c S i (x % c) vs tau (j:=x / c - i) (by omega)] at hf
  have:=aV_left _ _ hf
  rwa [show i+(x / c - i) = x / c by omega] at this
 ·exact hf
end Go.Proofs.YtnnfjeieennffaaGreatDoor
namespace Go.Proofs.YtnnfjeieennffaaGreatDoor
open Go.RowKit
theorem mx_inf (m r:Nat) (hm:m < 9223372036854775808) (hr:r < 9223372036854775808) (h:9218868437227405312≤m ∨ 9218868437227405312≤r):9218868437227405312≤mx m r∧mx m r < 9223372036854775808:=by
 obtain ⟨a1,a2,a3⟩:=mag_fZ m hm
 obtain ⟨b1,b2,b3⟩:=mag_fZ r hr
 unfold mx
 split
 ·decide
 ·rw [a1,b1]
  rcases Nat.lt_or_ge m r with g | g
  ·have:=rv8_lt g
   rw [if_pos (by omega)]
   omega
  ·have:=rv_mono g
   rw [if_neg (by omega)]
   omega
theorem mx_lt16 (m r:Nat) (hm:m < 9223372036854775808) (hr:r < 9223372036854775808):mx m r < 9223372036854775808:=by
 unfold mx
 repeat' split
 ·decide
 ·exact hr
 ·exact hm
theorem bgF_big:∀ (xs:List Nat) (m:Nat),m < 9223372036854775808→(9218868437227405312≤m ∨ ∃ x ∈ xs,fFin x = false)→9218868437227405312≤bgF m xs∧bgF m xs < 9223372036854775808:=by
 intro xs
 induction xs with
 | nil =>
  intro m hm h
  rcases h with h | ⟨x,hx,_⟩
  ·exact ⟨h,hm⟩
  ·cases hx
 | cons x xs ih =>
  intro m hm h
  have hr:=fR_lt x
  show 9218868437227405312≤bgF (mx m (fR x)) xs∧bgF (mx m (fR x)) xs < 9223372036854775808
  have hl:=mx_lt16 m (fR x) hm (by omega)
  refine ih _ hl ?_
  rcases h with h | ⟨y,hy,hf⟩
  ·exact .inl (mx_inf m (fR x) hm (by omega) (.inl h)).1
  ·rcases List.mem_cons.1 hy with e | hy
   ·subst e
    refine .inl (mx_inf m _ hm (by omega) (.inr ?_)).1
    rcases Nat.lt_or_ge (fR y) 9218868437227405312 with g | g
    ·rw [(fK_rungs y).2.2.2 g] at hf;cases hf
    ·exact g
   ·exact .inr ⟨y,hy,hf⟩
theorem nr_fins (xs:List Nat) (h:fFin (nrV xs) = true):∀ x ∈ xs,fFin x = true:=by
 intro x hx
 cases hf:fFin x with
 | true=>rfl
 | false =>
  exfalso
  obtain ⟨b1,b2⟩:=bgF_big xs 0 (by decide) (.inr ⟨x,hx,hf⟩)
  obtain ⟨a1,a2,a3⟩:=mag_fZ (bgF 0 xs) b2
  have hb:fFin (bgF 0 xs) = false:=by
   cases hq:fFin (bgF 0 xs) with
   | false=>rfl
   | true=>have:=fR_fin _ hq;omega
  have e:nrV xs = bgF 0 xs:=by unfold nrV;rw [if_pos (.inr hb)]
  rw [e,hb] at h
  cases h
theorem top_all (xs:List Nat) (hx:∀ x ∈ xs,x < 18446744073709551616∧fFin x = true):TopV 5000 xs:=by
 refine ⟨hx,.inr ?_⟩
 obtain ⟨g1,_⟩:=bgF_fin xs 0 (by decide) (fun x h=>(hx x h).2)
 have:=eX_range (bgF 0 xs) (by omega)
 omega
theorem nr_sign (xs:List Nat) (hl:xs.length≤64) (hx:∀ x ∈ xs,x < 18446744073709551616) (h:fFin (nrV xs) = true):fS (nrV xs) = false:=by
 have hf:=nr_fins xs h
 have hT:=top_all xs (fun x h=>⟨hx x h,hf x h⟩)
 by_cases h0:bgF 0 xs = 0
 ·have e:nrV xs = 0:=by unfold nrV;rw [if_pos (.inl h0)];exact h0
  rw [e];decide
 obtain ⟨k,ek⟩:∃ k,eX (bgF 0 xs) = k:=⟨_,rfl⟩
 obtain ⟨b1,b2,b3,b4,b5,b6,b7,b8,y,hy,b9,b10⟩:=top_big 5000 xs hT h0
 rw [ek] at b8 b10
 have hn:nrV xs = xV (sV (ssV k 0 xs)) k:=by
  unfold nrV
  rw [if_neg (by rw [b2];simp [h0]),ek]
 have T1:1≤sqQ k xs:=by have:=sqQ_mem k xs y hy;grind
 have hl2:(xs.length:Rat)≤64:=Rat.natCast_le_natCast.2 hl
 have T2:sqQ k xs≤256:=by have:=sqQ_le k xs b8;grind
 have hlG:=Rat.mul_nonneg (show 0≤64 - (xs.length:Rat) by grind) (show 0≤sqQ k xs by grind)
 have z0:fQ 0 = 0:=fQ_nought 0 (by decide)
 obtain ⟨e1,e2,e3⟩:=ss_err k (sqQ k xs) T1 T2 xs 0 0 0 (fun x hx2=>⟨hx x hx2,hf x hx2,b8 x hx2⟩) (by decide) (by decide) (by grind) (by grind) (by rw [z0];unfold ab;grind)
 generalize ssV k 0 xs = s at *
 have e4:9007199254740992 * ab (fQ s - sqQ k xs)≤130 * sqQ k xs:=by
  have:(0:Rat)+sqQ k xs = sqQ k xs:=Rat.zero_add _
  rw [this] at e3
  grind
 have l:=le_ab (fQ s - sqQ k xs)
 have s1:1≤2 * fQ s:=by grind
 have k0:fK s ≠ 0:=fun e=>by
  have:=fQ_nought s e
  grind
 obtain ⟨r1,r2,r3,r4,r5,r6,r7⟩:=sqrt_err s e1 k0 e2
 have q0:fK (sV s) ≠ 0:=fun e=>by
  have:=(fK_zero (sV s)).1 e
  omega
 rw [hn,xV_fin _ _ r1 q0]
 have hle:=rnd_le (fD (sV s)).natAbs (fX (sV s)+k)
 rw [fS_wrd _ _ (by omega)]
 exact r2
def kpM (N:Nat→Nat) (j:Nat):Nat→Nat
 | 0=>0
 | t+1=>if cO (kpM N j t) (N (j+t)) < 0 then N (j+t) else kpM N j t
def kpB (N:Nat→Nat) (j:Nat):Nat→Nat
 | 0=>j
 | t+1=>if cO (kpM N j t) (N (j+t)) < 0 then j+t else kpB N j t
theorem cO_eq {a b:Nat} (ha:fFin a = true) (hb:fFin b = true):cO a b < 0 ↔ fZ a < fZ b:=by
 have h1:=(fin_kind ha).2;have h2:=(fin_kind hb).2
 unfold cO cmpI
 rw [if_neg (fun e=>e.elim h1 h2)]
 repeat' split
 all_goals omega
theorem fZ_pos16 {a:Nat} (h:fS a = false):0≤fZ a:=by
 unfold fZ
 rw [h]
 exact Int.natCast_nonneg _
theorem kp_lt (N:Nat→Nat) (j:Nat) (h:∀ k,N k < 18446744073709551616):∀ t,kpM N j t < 18446744073709551616
 | 0=>by show 0 < 18446744073709551616;decide
 | t+1=>by
  show (if _ then _ else _) < _
  split
  ·exact h _
  ·exact kp_lt N j h t
theorem kp_gt (r c:Nat) (S:List Nat) (j:Nat) (hr:r≤6) (hS:∀ x ∈ S,x < 18446744073709551616):∀ t,gtK r c S j t = true →
  kpB (pvN r c S j) j t = gtA r c S j t∧fFin (kpM (pvN r c S j) j t) = true∧((t = 0∧kpM (pvN r c S j) j t = 0) ∨ (0 < t∧fFin (pvN r c S j (gtA r c S j t)) = true∧fZ (kpM (pvN r c S j) j t) = fZ (pvN r c S j (gtA r c S j t)))):=by
 intro t
 induction t with
 | zero=>intro _;exact ⟨rfl,(by show fFin 0 = true;decide),.inl ⟨rfl,rfl⟩⟩
 | succ t ih =>
  intro hk
  have hk':(gtK r c S j t && fFin (pvN r c S j (j+t))) = true:=hk
  rw [Bool.and_eq_true] at hk'
  obtain ⟨i1,i2,i3⟩:=ih hk'.1
  have hf:=hk'.2
  have hs:fS (pvN r c S j (j+t)) = false:=nr_sign _ (by rw [colL_len];omega) (colL_lt hS _ _ _ _) hf
  show (if cO (kpM _ j t) (pvN r c S j (j+t)) < 0 then j+t else kpB _ j t) = (if cO (pvN r c S j (gtA r c S j t)) (pvN r c S j (j+t)) < 0 then j+t else gtA r c S j t)∧fFin (if cO (kpM _ j t) (pvN r c S j (j+t)) < 0 then pvN r c S j (j+t) else kpM _ j t) = true ∧
   ((t+1 = 0∧_) ∨ (0 < t+1∧fFin (pvN r c S j (if cO (pvN r c S j (gtA r c S j t)) (pvN r c S j (j+t)) < 0 then j+t else gtA r c S j t)) = true∧fZ (if cO (kpM _ j t) (pvN r c S j (j+t)) < 0 then pvN r c S j (j+t) else kpM _ j t) = fZ (pvN r c S j (if cO (pvN r c S j (gtA r c S j t)) (pvN r c S j (j+t)) < 0 then j+t else gtA r c S j t))))
  have hp:=fZ_pos16 hs
  rcases i3 with ⟨rfl,e⟩ | ⟨ht,hg,hz⟩
  ·have eA:gtA r c S j 0 = j:=rfl
   have z0:fZ 0 = 0:=(mag_fZ 0 (by decide)).1.trans (by decide)
   rw [eA,e,i1,eA]
   rw [Nat.add_zero] at *
   have c2:¬ cO (pvN r c S j j) (pvN r c S j j) < 0:=fun q=>by have:=(cO_eq hf hf).1 q;omega
   rw [if_neg c2]
   by_cases c1:cO 0 (pvN r c S j j) < 0
   ·rw [if_pos c1,if_pos c1]
    exact ⟨rfl,hf,.inr ⟨by omega,hf,rfl⟩⟩
   ·rw [if_neg c1,if_neg c1]
    refine ⟨rfl,by decide,.inr ⟨by omega,hf,?_⟩⟩
    have:¬ fZ 0 < fZ (pvN r c S j j):=fun q=>c1 ((cO_eq (by decide) hf).2 q)
    omega
  ·have hc:cO (kpM (pvN r c S j) j t) (pvN r c S j (j+t)) < 0 ↔ cO (pvN r c S j (gtA r c S j t)) (pvN r c S j (j+t)) < 0:=by
    rw [cO_eq i2 hf,cO_eq hg hf,hz]
   by_cases c1:cO (kpM (pvN r c S j) j t) (pvN r c S j (j+t)) < 0
   ·rw [if_pos c1,if_pos c1,if_pos (hc.1 c1)]
    exact ⟨rfl,hf,.inr ⟨by omega,hf,rfl⟩⟩
   ·rw [if_neg c1,if_neg c1,if_neg (fun q=>c1 (hc.2 q))]
    exact ⟨i1,i2,.inr ⟨by omega,hg,hz⟩⟩
theorem gtK_all (r c:Nat) (S:List Nat) (j:Nat):∀ t d,gtK r c S j (t+d) = true→gtK r c S j t = true:=by
 intro t d
 induction d with
 | zero=>exact fun h=>h
 | succ d ih =>
  intro h
  have h':(gtK r c S j (t+d) && _) = true:=h
  rw [Bool.and_eq_true] at h'
  exact ih h'.1
theorem pgreatest_any (r c cap j:Nat) (ro:Option Addr) (S:List Nat) (w:World) (h:Mx w ro cap r c S) (hj:j < r) (hjc:j < c) (hT:Tab w) :
  Calls Tryz.prog 71 #[.agg #[.int .i64 r,.int .i64 c,.slice ro S.length cap],.int .i64 (j:Nat)] w fun e w'=>((pvF r c S j = true∧e = .returned (.tuple #[.int .i64 (pvA r c S j:Nat),.int .i64 0])) ∨ (pvF r c S j = false∧e = .returned (.tuple #[.int .i64 0,.int .i64 2])))∧Below w.heap.size w w':=by
 have r6:=h.2.2.1;have c6:=h.2.2.2
 have hN:∀ k,pvN r c S j k < 18446744073709551616:=fun k=>nrV_lt _
 have key:=greatest_of r c S.length cap j (r - j) (c - j) ro S (fun k=>colL c S j (r - j) k) (pvN r c S j) (kpB (pvN r c S j) j) (kpM (pvN r c S j) j) (fun k=>fFin (pvN r c S j k)) (gtK r c S j) w r6 c6 hj rfl (by omega) h.1 ⟨rfl,rfl⟩ rfl (fun t _=>⟨rfl,kp_lt _ _ hN t,hN _,?_⟩) (fun t ht hf=>?_) (fun w' k hk1 hk2 hb=>?_) (fun w' k bo d _ _ hb hx=>?_) (fun w' k _ _=>sfinite_any _ w' (hN k))
 ·refine key.mono ?_
  rintro e w' ⟨hor,hb⟩
  refine ⟨?_,hb⟩
  rcases hor with ⟨hk,rfl⟩ | ⟨hk,rfl⟩
  ·exact .inl ⟨hk,by rw [(kp_gt r c S j r6 h.1.nat _ hk).1];rfl⟩
  ·exact .inr ⟨hk,rfl⟩
 ·by_cases c1:cO (kpM (pvN r c S j) j t) (pvN r c S j (j+t)) < 0
  ·refine .inl ⟨c1,?_,?_⟩
   ·show (if _ then _ else _) = _;rw [if_pos c1]
   ·show (if _ then _ else _) = _;rw [if_pos c1]
  ·refine .inr ⟨c1,?_,?_⟩
   ·show (if _ then _ else _) = _;rw [if_neg c1]
   ·show (if _ then _ else _) = _;rw [if_neg c1]
 ·cases hz:gtK r c S j (c - j) with
  | false=>rfl
  | true =>
   have:=gtK_all r c S j (t+1) (c - j - (t+1)) (by rw [show t+1+(c - j - (t+1)) = c - j by omega];exact hz)
   rw [hf] at this;cases this
 ·have:=mPart_ok r c cap j k (r - j) 1 ro S w' ⟨hb,h.2.1,r6,c6⟩ (by omega) (by omega)
  refine this.mono ?_
  rintro e w'' ⟨v,rfl,⟨bo,d,rfl,hn,hx⟩,hb2⟩
  rw [pa_col] at hx ⊢
  rw [colL_len]
  exact ⟨bo,d,rfl,hx,hb2⟩
 ·have:=vNorm_ok bo d (mxL (colL c S j (r - j) k)) w' hx (by rw [mxL_len,colL_len];omega) (hT.all hb)
  rw [mxL_len,colL_len,nmV_nrV,toN_mxL] at this
  exact this
def swJ (r c:Nat) (S:List Nat) (j a i:Nat):List Nat:=mkM r c (fun p q=>elM c S p (if p < i then swI j a q else q))
theorem swJ_0 (r c:Nat) (S:List Nat) (j a:Nat) (h:S.length = r * c):swJ r c S j a 0 = S:=by
 conv=>rhs;rw [← mkM_of r c S h]
 exact mkM_congr (fun p q _ _=>by rw [if_neg (Nat.not_lt_zero p)];rfl)
theorem swJ_r (r c:Nat) (S:List Nat) {j a:Nat} (hj:j < c) (ha:a < c):swJ r c S j a r = swM r c S j a:=by
 conv=>rhs;rw [← mkM_of r c (swM r c S j a) (swM_len r c S j a)]
 refine mkM_congr (fun p q hp hq=>?_)
 rw [if_pos hp]
 exact (el_sw r c S hj ha hp hq).symm
theorem swJ_step (r c:Nat) (S:List Nat) {j a i:Nat} (hj:j < c) (ha:a < c) (hi:i < r):((swJ r c S j a i).set (i * c+j) ((swJ r c S j a i)[i * c+a]?.getD 0)).set (i * c+a) ((swJ r c S j a i)[i * c+j]?.getD 0) = swJ r c S j a (i+1):=by
 have e1:(swJ r c S j a i)[i * c+a]?.getD 0 = elM c S i a:=by
  unfold swJ
  rw [mkM_at r c _ hi ha,if_neg (Nat.lt_irrefl i)];rfl
 have e2:(swJ r c S j a i)[i * c+j]?.getD 0 = elM c S i j:=by
  unfold swJ
  rw [mkM_at r c _ hi hj,if_neg (Nat.lt_irrefl i)];rfl
 rw [e1,e2]
 unfold swJ
 rw [mkM_set r c _ _ hi hj,mkM_set r c _ _ hi ha]
 refine mkM_congr (fun p q hp hq=>?_)
 by_cases g1:p = i
 ·subst g1
  by_cases g2:q = a
  ·subst g2
   rw [if_pos ⟨rfl,rfl⟩,if_pos (Nat.lt_succ_self p)]
   unfold swI
   rw [if_pos rfl]
  ·rw [if_neg (fun e=>g2 e.2),if_pos (Nat.lt_succ_self p)]
   unfold swI
   rw [if_neg g2]
   by_cases g3:q = j
   ·subst g3
    rw [if_pos ⟨rfl,rfl⟩,if_pos rfl]
   ·rw [if_neg (fun e=>g3 e.2),if_neg g3,if_neg (Nat.lt_irrefl p)]
 ·rw [if_neg (fun e=>g1 e.1),if_neg (fun e=>g1 e.1)]
  by_cases g2:p < i
  ·rw [if_pos g2,if_pos (by omega)]
  ·rw [if_neg g2,if_neg (by omega)]
theorem chB_any (r c cap j a:Nat) (ro:Option Addr) (S:List Nat) (w:World) (h:Mx w ro cap r c S) (hj:j < c) (ha:a < c) :
  Calls Tryz.prog 72 #[.slice ro S.length cap,.int .i64 c,.int .i64 (j:Nat),.int .i64 (a:Nat)] w fun e w'=>∃ g,e = .returned (.slice (some ⟨g,0,none⟩) S.length S.length)∧w.heap.size≤g∧RowB w' g (swM r c S j a)∧Below w.heap.size w w':=by
 have r6:=h.2.2.1;have c6:=h.2.2.2;have h36:=h.small
 have key:=chB_of S.length c r j a cap ro (swJ r c S j a) (fun i=>i * c) w (by omega) (by omega) hj ha (by rw [swJ_0 r c S j a h.2.1];exact h.1) (fun i=>by rw [h.2.1];exact mkM_len _ _ _) ⟨Nat.zero_mul c,h.2.1.symm,fun i hi=>⟨by rw [Nat.add_mul,Nat.one_mul],by rw [h.2.1];exact Nat.mul_le_mul_right c hi,swJ_step r c S hj ha hi⟩⟩
 rw [swJ_r r c S hj ha] at key
 exact key
theorem chI_any (c j a g:Nat) (L:List Nat) (w:World) (h:RowI w g L) (hl:L.length = c) (hc:c≤6) (hs:∀ x ∈ L,x≤1000000) (hj:j < c) (ha:a < c) :
  Calls Tryz.prog 73 #[.slice (some ⟨g,0,none⟩) c c,.int .i64 c,.int .i64 (j:Nat),.int .i64 (a:Nat)] w fun e w'=>∃ g,e = .returned (.slice (some ⟨g,0,none⟩) c c)∧w.heap.size≤g∧RowI w' g (swL L j a)∧Below w.heap.size w w':=by
 have hi:=h.ints hs
 rw [hl] at hi
 refine chI_of c c 1 j a c (some ⟨g,0,none⟩) (fun i=>if i = 0 then L else swL L j a) (fun i=>i * c) w (by omega) (by omega) hj ha hi (fun i=>?_) ⟨Nat.zero_mul c,Nat.one_mul c,fun i hi=>?_⟩
 ·show (if i = 0 then L else swL L j a).length = c
  split
  ·exact hl
  ·rw [swL_len,hl]
 ·obtain rfl:i = 0:=by omega
  refine ⟨by omega,by omega,?_⟩
  rw [if_pos rfl,if_neg (by omega),Nat.zero_mul,Nat.zero_add,Nat.zero_add]
  unfold swL
  rw [List.getD_eq_getElem?_getD,List.getD_eq_getElem?_getD]
theorem down_any (r c cap j:Nat) (ro:Option Addr) (S:List Nat) (w:World) (h:Mx w ro cap r c S) (hj:j+1 < r) (hjc:j < c) (hT:Tab w) :
  Calls Tryz.prog 74 #[.agg #[.int .i64 r,.int .i64 c,.slice ro S.length cap],.int .i64 (j:Nat)] w fun e w'=>DnAns w w' (finL (qxL r c S j) && mrK (qxL r c S j)) r c S.length (r - j) (qrS r c S j) (mrV (qxL r c S j)) (mrT (qxL r c S j)) e∧Below w.heap.size w w':=by
 have hl:=h.2.1
 have r6:=h.2.2.1;have c6:=h.2.2.2
 have lX:(qxL r c S j).length = r - j:=colL_len _ _ _ _ _
 have lV:(mrV (qxL r c S j)).length = r - j:=by rw [mrV_len,lX]
 refine down_of r c S.length cap j (r - j) (mrT (qxL r c S j)) (mrB (qxL r c S j)) ro S (apM r c S j j (mrV (qxL r c S j)) (mrT (qxL r c S j))) (qrS r c S j) (qxL r c S j) (mrV (qxL r c S j)) _ w r6 (by omega) rfl h.1 (fun w' hb=>?_) (fun w' bo d ho hb hx=>?_) (fun w' bo d ho hb hx=>?_) (fun w' vo vc hb hp hv=>?_) (fun w' g hrow=>?_)
 ·refine (mPart_ok r c cap j j (r - j) 1 ro S w' ⟨hb,hl,r6,c6⟩ (by omega) (by omega)).mono ?_
  rintro e w'' ⟨v,rfl,⟨bo,d,rfl,hn,hx⟩,hb2⟩
  rw [pa_col] at hx ⊢
  rw [colL_len]
  exact ⟨bo,d,rfl,hx,hb2⟩
 ·rw [Bool.and_eq_true] at ho
  have:=hMake_ok bo d (mxL (qxL r c S j)) w' hx (by rw [mxL_len,lX];omega) (by rw [mxL_len,lX];omega) (by rw [mxL_len];exact ho.1) (by rw [toN_mxL];exact ho.2) (hT.all hb)
  rw [toN_mxL,mxL_len,lX] at this
  exact this
 ·cases hf:finL (qxL r c S j)
  ·have:=hMake_inf bo d (mxL (qxL r c S j)) w' hx (by rw [mxL_len,lX];omega) (by rw [mxL_len,lX];omega) (by rw [mxL_len];exact hf)
   rw [mxL_len,lX] at this
   refine this.mono ?_
   rintro e w'' ⟨so,cs,rfl,hb2⟩
   exact ⟨so,cs,4,rfl,.inr rfl,hb2⟩
  ·have hk:mrK (qxL r c S j) = false:=by
    have:=ho
    rw [hf,Bool.true_and] at this
    exact this
   have:=hMake_none bo d (mxL (qxL r c S j)) w' hx (by rw [mxL_len,lX];omega) (by rw [mxL_len,lX];omega) (by rw [mxL_len];exact hf) (by rw [toN_mxL];exact hk) (hT.all hb)
   rw [mxL_len,lX] at this
   refine this.mono ?_
   rintro e w'' ⟨so,cs,rfl,hb2⟩
   exact ⟨so,cs,2,rfl,.inl rfl,hb2⟩
 ·have:=hApply_row r c cap j j vc (mrT (qxL r c S j)) ro vo S (mrV (qxL r c S j)) w' ⟨hp,hl,r6,c6⟩ hv (by rw [lV];omega) (by omega) (mrT_lt _) (hT.all hb)
  rw [lV] at this
  refine this.mono ?_
  rintro e w'' ⟨g,rfl,hg,hr,hb2⟩
  exact ⟨g,rfl,by omega,hr,hb2⟩
 ·have:=settle_any r c j (mrB (qxL r c S j)) g _ w' r6 c6 (by omega) (by omega) (apM_len r c S j j (mrV (qxL r c S j)) (mrT (qxL r c S j))) hrow
  rw [apM_len,← hl] at this
  exact this
theorem colW (r c:Nat) (S:List Nat) {j:Nat} (hjr:j < r) (hjc:j < c):qxL r c (pvW r c S j) j = colL c S j (r - j) (pvA r c S j):=by
 unfold qxL colL
 refine List.map_congr_left (fun p hp=>?_)
 have:=List.mem_range.1 hp
 unfold pvW
 rw [el_sw r c S hjc (pvA_lt r c S hjc) (by omega) hjc]
 unfold swI
 split
 ·rename_i g;exact congrArg (elM c S (j+p)) g
 ·rw [if_pos rfl]
theorem gtK_at (r c:Nat) (S:List Nat) (j:Nat):∀ t,gtK r c S j t = true→∀ k,j≤k→k < j+t→fFin (pvN r c S j k) = true:=by
 intro t
 induction t with
 | zero=>intro _ k h1 h2;omega
 | succ t ih =>
  intro h k h1 h2
  have h':(gtK r c S j t && fFin (pvN r c S j (j+t))) = true:=h
  rw [Bool.and_eq_true] at h'
  by_cases g:k = j+t
  ·rw [g];exact h'.2
  ·exact ih h'.1 k h1 (by omega)
theorem finW (r c:Nat) (S:List Nat) {j:Nat} (hjr:j < r) (hjc:j < c) (h:pvF r c S j = true):finL (qxL r c (pvW r c S j) j) = true:=by
 rw [colW r c S hjr hjc]
 have:=nr_fins _ (gtK_at r c S j (c - j) h (pvA r c S j) (pvA_ge r c S j) (by have:=pvA_lt r c S hjc;omega))
 unfold finL
 rw [fnK_all]
 intro k hk
 rw [mxL_at]
 refine this _ ?_
 rw [List.getD_eq_getElem?_getD,List.getElem?_eq_getElem hk]
 exact List.getElem_mem hk
theorem pvK_all16 (r c:Nat) (S:List Nat):∀ m,pvK r c S m = true ↔ ∀ j,j < m→pvO r c (pvR r c S j) j = true:=by
 intro m
 induction m with
 | zero=>exact ⟨fun _ j hj=>absurd hj (Nat.not_lt_zero j),fun _=>rfl⟩
 | succ m ih =>
  show (pvK r c S m && pvO r c (pvR r c S m) m) = true ↔ _
  rw [Bool.and_eq_true,ih]
  constructor
  ·rintro ⟨h1,h2⟩ j hj
   by_cases g:j = m
   ·rw [g];exact h2
   ·exact h1 j (by omega)
  ·intro h
   exact ⟨fun j hj=>h j (by omega),h m (Nat.lt_succ_self m)⟩
theorem ptri_any (r c cap:Nat) (ao:Option Addr) (S:List Nat) (w:World) (h:Mx w ao cap r c S) (hT:Tab w) :
  Calls Tryz.prog 31 #[.agg #[.int .i64 r,.int .i64 c,.slice ao S.length cap]] w fun e w'=>TpAns w w' (pvK r c S (min c r)) r c S.length (qrN r c) (pfR r c S) (pfP r c S) (fun j=>mrV (pvX r c S j)) (fun j=>mrT (pvX r c S j)) e∧Below w.heap.size w w':=by
 have hl:=h.2.1
 have r6:=h.2.2.1;have c6:=h.2.2.2
 have lR:=fun j=>(pvR_len r c S hl j).trans hl.symm
 have lW:=fun j=>(pvW_len r c (pvR r c S j) j).trans hl.symm
 have hlt:=h.1.nat
 have hsm:∀ j,j≤c→∀ x ∈ pvP r c S j,x≤1000000:=fun j hj x hx=>by have:=pvP_small r c S hj x hx;omega
 refine ptri_of r c S.length cap (min c r) (qrN r c) ao (pvR r c S) (fun j=>pvW r c (pvR r c S j) j) (fun j=>mrV (pvX r c S j)) (pvP r c S) (fun j=>pvA r c (pvR r c S j) j) (fun j=>mrT (pvX r c S j)) (fun j=>pvF r c (pvR r c S j) j) (fun j=>finL (pvX r c S j) && mrK (pvX r c S j)) (pvK r c S (min c r)) w r6 c6 (by omega) (fun j=>by rw [qrN_lt];omega) (by unfold qrN;omega) lR lW (fun j=>by rw [mrV_len,pvX_len]) (fun j _=>pvW_lt (pvR_lt hlt j) j) (fun j _=>pvR_lt hlt (j+1)) (fun j hj hj2=>?_) rfl ?_ (fun w' hb=>?_) (fun w' j po pc hj hb hp=>?_) (fun w' j po pc hj hp=>?_) (fun w' j pg hj hp=>?_) (fun w' j g hj hj2 hb hp=>?_)
 ·show pvS r c (pvR r c S j) j = _
  unfold pvS
  rw [if_neg hj2]
 ·rw [pvK_all16]
  constructor
  ·intro q j hj
   have:=q j hj
   unfold pvO at this
   rw [Bool.and_eq_true] at this
   refine ⟨this.1,fun hj2=>?_⟩
   have h2:=this.2
   rw [decide_eq_false (by omega),Bool.false_or] at h2
   rw [show finL (pvX r c S j) = true from finW r c _ (by omega) (by omega) this.1,Bool.true_and]
   exact h2
  ·intro q j hj
   obtain ⟨q1,q2⟩:=q j hj
   unfold pvO
   rw [show pvF r c (pvR r c S j) j = true from q1,Bool.true_and]
   by_cases g:j+1 < r
   ·have:=q2 g
    rw [Bool.and_eq_true] at this
    rw [show mrK (qxL r c (pvW r c (pvR r c S j) j) j) = true from this.2,Bool.or_true]
   ·rw [decide_eq_true (by omega),Bool.true_or]
 ·refine (mPart_ok r c cap 0 0 r c ao S w' (h.below hb) (by omega) (by omega)).mono ?_
  rintro e w'' ⟨v,rfl,⟨po,pc,rfl,hn,hx⟩,hb2⟩
  have ps:paM c S 0 0 r c = S:=by
   conv=>rhs;rw [← mkM_of r c S hl]
   unfold paM
   refine mkM_congr (fun p q _ _=>?_)
   rw [Nat.zero_add,Nat.zero_add]
   rfl
  rw [ps] at hn hx ⊢
  exact ⟨po,pc,rfl,hn,hx,hb2⟩
 ·have:=pgreatest_any r c pc j po (pvR r c S j) w' ⟨hp,pvR_len r c S hl j,r6,c6⟩ (by omega) (by omega) (hT.all hb)
  rw [lR j] at this
  exact this
 ·have:=chB_any r c pc j (pvA r c (pvR r c S j) j) po (pvR r c S j) w' ⟨hp,pvR_len r c S hl j,r6,c6⟩ (by omega) (pvA_lt r c _ (by omega))
  rw [lR j] at this
  exact this
 ·exact chI_any c j (pvA r c (pvR r c S j) j) pg (pvP r c S j) w' hp (pvP_len r c S j) c6 (hsm j (by omega)) (by omega) (pvA_lt r c _ (by omega))
 ·have:=down_any r c S.length j (some ⟨g,0,none⟩) (pvW r c (pvR r c S j) j) w' ⟨hp,pvW_len r c _ _,r6,c6⟩ hj2 (by omega) (hT.all hb)
  rw [lW j] at this
  have e:pvR r c S (j+1) = qrS r c (pvW r c (pvR r c S j) j) j:=by
   show pvS r c (pvR r c S j) j = _
   unfold pvS
   rw [if_pos hj2]
  rw [e]
  exact this
theorem up_left (r:Nat) (X:Nat→List Nat) (K:Nat):∀ t d,finL (upQ r X K (t+d)) = true→finL (upQ r X K t) = true:=by
 intro t d
 induction d with
 | zero=>exact fun h=>h
 | succ d ih=>exact fun h=>ih (ap_left (upQ_len r X K (t+d)) _ _ _ _ h)
theorem pup_any (r c lc:Nat) (lo:Option Addr) (S:List Nat) (R:List Mr) (w:World) (hr:r≤6) (hl:OwnMt 0 w (.slice lo (qrN r c) lc) R) (hRl:R.length = qrN r c) (hRm:∀ k,k < qrN r c→(mrAt R k).V = mrV (pvX r c S k)∧(mrAt R k).tau = mrT (pvX r c S k)) (hT:Tab w) :
  Calls Tryz.prog 32 #[.int .i64 r,.slice lo (qrN r c) lc] w fun e w'=>∃ Q qo qc,(Q = pfQ r c S ∨ (fnK (mxL Q) (r * r) = false∧finL (pfQ r c S) = false))∧Q.length = r * r∧e = .returned (.agg #[.int .i64 r,.int .i64 r,.slice qo (r * r) qc])∧NewB w.heap.size qo (mxL Q)∧BitsAt w' qo qc (mxL Q)∧Below w.heap.size w w':=by
 have lV:∀ j,(mrV (pvX r c S j)).length = r - j:=fun j=>by rw [mrV_len,pvX_len]
 have hK:qrN r c≤6:=by unfold qrN;omega
 refine (upright_of r (r * r) (qrN r c) lc lo (fun j=>mrV (pvX r c S j)) (upQ r (pvX r c S) (qrN r c)) (fun j=>mrT (pvX r c S j)) R w (Nat.mul_le_mul hr hr) hK hl hRl hRm (upQ_len r _ _) lV ?_ ?_ (fun w' x hx=>sfinite_any x w' hx)).mono ?_
 ·intro w'
  refine (mEye_ok r w' hr).mono ?_
  rintro e w'' ⟨v,rfl,⟨qo,qc,rfl,hn,hb⟩,hb2⟩
  exact ⟨qo,qc,by rw [show (eyM r).length = r * r from mkM_len r r _],hn,hb,hb2⟩
 ·intro w' t j po pc vo vc ht hj hb hp hv
  have hj2:=(qrN_lt r c j).1 (by omega)
  have:=hApply_ok r r pc j 0 vc (mrT (pvX r c S j)) po vo (upQ r (pvX r c S) (qrN r c) t) (mrV (pvX r c S j)) w' ⟨hp,upQ_len r _ _ t,hr,hr⟩ hv (by rw [lV];omega) (by omega) (mrT_lt _) (hT.all hb)
  rw [upQ_len,lV] at this
  refine this.mono ?_
  rintro e w'' ⟨v,rfl,⟨qo,qc,rfl,hn,hx⟩,hb2⟩
  rw [apM_len]
  have e:apM r r (upQ r (pvX r c S) (qrN r c) t) j 0 (mrV (pvX r c S j)) (mrT (pvX r c S j)) = upQ r (pvX r c S) (qrN r c) (t+1):=by
   show _ = apM r r (upQ r (pvX r c S) (qrN r c) t) (qrN r c - 1 - t) 0 (mrV (pvX r c S (qrN r c - 1 - t))) (mrT (pvX r c S (qrN r c - 1 - t)))
   rw [← hj]
  rw [e] at hn hx
  exact ⟨qo,qc,rfl,hn,hx,hb2⟩
 ·rintro e w' ⟨t,qo,qc,ht,hor,rfl,hn,hx,hb⟩
  refine ⟨_,qo,qc,?_,upQ_len r _ _ t,rfl,hn,hx,hb⟩
  rcases hor with e | e
  ·left;rw [e];rfl
  ·right
   refine ⟨e,?_⟩
   cases hf:finL (pfQ r c S)
   ·rfl
   ·have h2:=up_left r (pvX r c S) (qrN r c) t (qrN r c - t) (by rw [show t+(qrN r c - t) = qrN r c by omega];exact hf)
    unfold finL at h2
    rw [upQ_len,e] at h2
    cases h2
theorem pFactor_any (r c cap:Nat) (ao:Option Addr) (S:List Nat) (w:World) (h:Mx w ao cap r c S) (hf:finL S = true) (hT:Tab w) :
  Calls Tryz.prog 9 #[.agg #[.int .i64 r,.int .i64 c,.slice ao S.length cap]] w fun e w'=>(pfK r c S = true∧PivYes w r c S e w') ∨ (pfK r c S = false∧PivErr w 2 e w'):=by
 have hl:=h.2.1
 have r6:=h.2.2.1;have c6:=h.2.2.2
 have h36:=h.small
 have hq36:r * r≤36:=Nat.mul_le_mul r6 r6
 have lr:(pfR r c S).length = S.length:=(pvR_len r c S hl _).trans hl.symm
 have lq:(pfQ r c S).length = r * r:=upQ_len _ _ _ _
 have lp:(pfP r c S).length = c:=pvP_len _ _ _ _
 have hck:ckE (r:Int) (c:Int) (mxL S) = 0:=by
  unfold ckE
  rw [mxL_len,mx_ok h]
  have:fnK (mxL S) S.length = true:=hf
  rw [this]
  rfl
 refine (gfactor_of r c S.length (r * r) (qrN r c) cap ao (pfR r c S) (pfQ r c S) (pfP r c S) (fun j=>mrV (pvX r c S j)) (fun j=>mrT (pvX r c S j)) (pvK r c S (min c r)) (finL (pfQ r c S)) (finL (pfR r c S)) w lr lq (by unfold finL;rw [lq]) ?_ (fun w' hb=>ptri_any r c cap ao S w' (h.below hb) (hT.all hb)) (fun w' lo lc R hb h1 h2 h3=>pup_any r c lc lo S R w' r6 h1 h2 h3 (hT.all hb)) ?_ ?_).mono ?_
 ·intro w' hb
  have:=ccheck_any r c ao cap (mxL S) w' (h.1.below hb) (by rw [mxL_len];omega)
  rw [mxL_len,hck] at this
  exact this
 ·intro w' Q qo qc hb hl2
  have:=vFinite_any qo qc (mxL Q) w' hb (by rw [mxL_len];omega)
  rw [mxL_len,hl2] at this
  exact this
 ·intro w' ro rc hb
  have:=vFinite_any ro rc (mxL (pfR r c S)) w' hb (by rw [mxL_len];omega)
  unfold finL
  rw [mxL_len,lr] at this
  rw [lr]
  exact this
 ·rintro e w' ⟨hor,hb⟩
  rcases hor with ⟨hk,v,u,pg,rfl,h1,h2,hg,hp⟩ | ⟨hk,v,u,rfl,h1,h2⟩
  ·refine .inl ⟨hk,v,u,some ⟨pg,0,none⟩,c,rfl,h1,h2,.inr ⟨pg,0,rfl,hg⟩,?_,hb⟩
   have:=hp.ints (fun x hx=>by have:=pvP_small r c S (show min c r≤c by omega) x hx;omega)
   rw [lp] at this
   exact this
  ·exact .inr ⟨hk,v,u,none,0,rfl,h1,h2,hb⟩
theorem pFactor_yes (r c cap:Nat) (ao:Option Addr) (S:List Nat) (w:World) (h:Mx w ao cap r c S) (hf:finL S = true) (hk:pfK r c S = true) (hT:Tab w) :
  Calls Tryz.prog 9 #[.agg #[.int .i64 r,.int .i64 c,.slice ao S.length cap]] w (PivYes w r c S):=by
 refine (pFactor_any r c cap ao S w h hf hT).mono ?_
 rintro e w' (⟨_,h1⟩ | ⟨hk2,_⟩)
 ·exact h1
 ·rw [hk] at hk2;cases hk2
end Go.Proofs.YtnnfjeieennffaaGreatDoor
namespace Go.Proofs.YtnnfjeieennffaaGreatDoor
open Go.RowKit
attribute [local go_sem ↓] Go.wp_at_zero Go.wp_at_succ
theorem BoxM.not3 {w:World} {b:Nat} {x y z x' y' z':Value} (h:BoxM w b x y z) (h3:Box3 w b x' y' z'):False:=by
 have e:=h.symm.trans h3
 simp at e
theorem bits_offD {w:World} {ao:Option Addr} {c:Nat} {I:List Int} (h:BitsAt w ao c I) {g:Nat} {x:Bool} {a:Option Addr} {n d:Nat} {y:Int} (hx:Box3 w g (.bool x) (.slice a n d) (.int .i64 y)):OffB (some g) ao I:=by
 rcases h.2.2 with h0 | ⟨b,off,h1,h2,h3⟩
 ·exact .inl h0
 ·by_cases he:I = []
  ·exact .inl he
  ·have hp:0 < I.length:=List.length_pos_iff.2 he
   refine .inr ⟨b,off,h1,fun e=>?_⟩
   cases e
   have h4:=h3 0 hp
   rw [cell_of_row w g (off+0) _ _ _ hx] at h4
   rcases (show off = 0 ∨ off = 1 ∨ off = 2 ∨ 3≤off by omega) with e | e | e | e
   ·subst e;simp at h4
   ·subst e;simp at h4
   ·subst e;simp at h4
   ·rw [Array.getElem?_eq_none (by simp;omega)] at h4;simp at h4
theorem bits_putD {w:World} {ao:Option Addr} {c:Nat} {I:List Int} (h:BitsAt w ao c I) {g:Nat} {x:Bool} {a:Option Addr} {n d:Nat} {y:Int} (hx:Box3 w g (.bool x) (.slice a n d) (.int .i64 y)) (u u' u'':Value):BitsAt (((w.setCell ⟨g,0,none⟩ u).setCell ⟨g,1,none⟩ u').setCell ⟨g,2,none⟩ u'') ao c I :=
 have ho:=bits_offD h hx
 bits_grownOff (bits_grownOff (bits_grownOff h ho (grown_set14 _ _ _ _)) ho (grown_set14 _ _ _ _)) ho (grown_set14 _ _ _ _)
theorem square16_any (r c cap j:Nat) (ao:Option Addr) (S:List Nat) (w:World) (h:Mx w ao cap r c S) (hj:j < r) (hjc:j < c) (hf:fFin (elM c S j j) = true) :
  Calls Tryz.prog 23 #[.agg #[.int .i64 r,.int .i64 c,.slice ao S.length cap],.int .i64 (j:Nat)] w fun e w'=>∃ v,e = .returned v∧IsLv w' v (-2148) (fZ (elM c S j j) * fZ (elM c S j j))∧Below w.heap.size w w':=by
 have hu:=h.el_lt j j
 have b0:=below_alloc9 w (.cells #[.int .i64 r,.int .i64 c,.slice ao S.length cap] 24)
 have s0:=size_alloc9 w (.cells #[.int .i64 r,.int .i64 c,.slice ao S.length cap] 24)
 have x0:=BoxM.new w (.int .i64 r) (.int .i64 c) (.slice ao S.length cap)
 generalize hw0:w.alloc (.cells #[.int .i64 r,.int .i64 c,.slice ao S.length cap] 24) = w0 at *
 have b1:=below_alloc9 w0 (.cells #[.bool false,.slice none 0 0,.int .i64 0] 52)
 have x1:=Box3.new w0 (.bool false) (.slice none 0 0) (.int .i64 0)
 rw [s0] at x1
 have HB:=hide (b0.trans (b1.mono b0.size))
 have HX:=hide (x0.all b1)
 have HR:=hide x1
 rw [← hw0] at HB HX HR
 have K1:=hide (fun w' (hb:Below w.heap.size w w')=>rat_any r c cap j j ao S w' (h.below hb) hj hjc)
 have K2:=hide (fun w'=>rvalueN (elM c S j j) w' hu hf)
 have K3:=hide (fun w' v (hv:IsLv w' v (-1074) (fZ (elM c S j j)))=>rmulV hu hu hf hf hv hv)
 generalize elM c S j j = u at *
 generalize S.length = n at *
 have y0:=(uH HX).c0;have y1:=(uH HX).c1;have y2:=(uH HX).c2
 clear b0 s0 x0 b1 x1 hu hf h hw0
 go_enter Tryz.func23,Tryz.ntmps23
 go_wp2_with fail
 clear y0 y1 y2
 refine (uH K1 _ (uH HB)).mono ?_
 rintro e w1 ⟨rfl,hb⟩
 replace HR:=hide ((uH HR).all hb)
 replace HB:=hide ((uH HB).trans (hb.mono (uH HB).size))
 clear hb K1 HX
 go_wp2_with fail
 refine (uH K2 _).mono ?_
 rintro e w2 ⟨v,rfl,hv,hb⟩
 obtain ⟨n1,a1,c1,L1,rfl,i1⟩:=hv
 have HV:=hide (show IsLv w2 (.agg #[.bool n1,.slice a1 L1.length c1,.int .i64 (oE (fZ u) (-1074))]) (-1074) (fZ u) from ⟨n1,a1,c1,L1,rfl,i1⟩)
 generalize L1.length = l1 at *
 generalize oE (fZ u) (-1074) = X1 at *
 have ba:=below_alloc9 w2 (.cells #[.bool n1,.slice a1 l1 c1,.int .i64 X1] 52)
 have xv:=Box3.new w2 (.bool n1) (.slice a1 l1 c1) (.int .i64 X1)
 replace HR:=hide (((uH HR).all hb).all ba)
 replace HB:=hide (((uH HB).trans (hb.mono (uH HB).size)).trans (ba.mono ((uH HB).trans (hb.mono (uH HB).size)).size))
 replace HV:=hide (IsLv.below (uH HV) ba)
 have y0:=xv.c0;have y1:=xv.c1;have y2:=xv.c2
 clear hb ba i1 K2 xv
 go_wp2_with fail
 clear y0 y1 y2
 refine (uH K3 _ _ (uH HV)).mono ?_
 rintro e w3 ⟨q,rfl,hq,hb⟩
 obtain ⟨n5,a5,c5,L5,rfl,i5⟩:=hq
 have HQ:=hide (show IsLv w3 (.agg #[.bool n5,.slice a5 L5.length c5,.int .i64 (oE (fZ u * fZ u) (-2148))]) (-2148) (fZ u * fZ u) from ⟨n5,a5,c5,L5,rfl,i5⟩)
 generalize L5.length = l5 at *
 generalize oE (fZ u * fZ u) (-2148) = X5 at *
 have x1:=(uH HR).all hb
 have hbw:=(uH HB).trans (hb.mono (uH HB).size)
 have s0:=x1.c0;have s1:=x1.c1;have s2:=x1.c2
 have f0:=x1.free 0;have f1:=x1.free 1;have f2:=x1.free 2
 have XP:=x1.put (.bool n5) (.slice a5 l5 c5) (.int .i64 X5)
 have z0:=XP.c0;have z1:=XP.c1;have z2:=XP.c2
 have QP:=hide (show IsLv _ _ (-2148) (fZ u * fZ u) from IsDy.put3 (uH HQ) x1 (.bool n5) (.slice a5 l5 c5) (.int .i64 X5))
 have BP:=hide (below_put3 hbw (b:=w.heap.size+1) (by omega) (.bool n5) (.slice a5 l5 c5) (.int .i64 X5))
 clear x1 hbw XP hb i5 HQ HR HB HV K3
 go_wp2_with fail
 exact bodyPost_ret (v:=.agg #[.bool n5,.slice a5 l5 c5,.int .i64 X5]) (by simp [results,Tryz.results23,go_sem,z0,z1,z2]) rfl ⟨_,rfl,uH QP,uH BP⟩
theorem pivotFalls_no (r c:Int) (ao:Option Addr) (n cap:Nat) (w:World)
  (C1:∀ w',Below w.heap.size w w'→Calls Tryz.prog 21 #[.agg #[.int .i64 r,.int .i64 c,.slice ao n cap],.int .i64 200] w' fun e w''=>e = .returned (.bool false)∧Below w'.heap.size w' w'')
  (CA:∀ w',Below w.heap.size w w'→Calls Tryz.prog 14 #[] w' fun e w''=>e = .returned (.bool true)∧Below w'.heap.size w' w'') :
  Calls Tryz.prog 6 #[.agg #[.int .i64 r,.int .i64 c,.slice ao n cap]] w fun e w'=>e = .returned (.bool true)∧Below w.heap.size w w':=by
 have K1:=hide C1;have KA:=hide CA
 have BB:=hide (below_alloc9 w (.cells #[.int .i64 r,.int .i64 c,.slice ao n cap] 24))
 have x:=BoxM.new w (.int .i64 r) (.int .i64 c) (.slice ao n cap)
 have y0:=x.c0;have y1:=x.c1;have y2:=x.c2
 clear C1 CA x
 go_enter Tryz.func6,Tryz.ntmps6
 go_wp2_with fail
 refine (uH K1 _ (uH BB)).mono ?_
 rintro e w1 ⟨rfl,hb⟩
 replace BB:=hide ((uH BB).trans (hb.mono (uH BB).size))
 clear hb K1 y0 y1 y2
 go_wp2_with fail
 refine (uH KA _ (uH BB)).mono ?_
 rintro e w3 ⟨rfl,hb⟩
 replace BB:=hide ((uH BB).trans (hb.mono (uH BB).size))
 clear hb KA
 go_wp2
 go_ret
 exact ⟨rfl,uH BB⟩
theorem pivotFalls_ok (r c n nq cap:Nat) (ao:Option Addr) (R:List Nat) (D:Nat→Int) (o:Nat→Int) (w:World) (hr:r≤6) (hc:c≤6) (ho:∀ j,1≤j→j < r→j < c→o j≤0)
  (C1:∀ w',Below w.heap.size w w'→Calls Tryz.prog 21 #[.agg #[.int .i64 r,.int .i64 c,.slice ao n cap],.int .i64 200] w' fun e w''=>e = .returned (.bool true)∧Below w'.heap.size w' w'')
  (C2:∀ w',Below w.heap.size w w'→Calls Tryz.prog 9 #[.agg #[.int .i64 r,.int .i64 c,.slice ao n cap]] w' fun e w''=>∃ qo qc ro rc lo lc,e = .returned (.tuple #[.agg #[.int .i64 r,.int .i64 r,.slice qo nq qc],.agg #[.int .i64 r,.int .i64 c,.slice ro n rc],.slice lo c lc,.int .i64 0])∧BitsAt w'' ro rc (mxL R)∧Below w'.heap.size w' w'')
  (C3:∀ w' ro rc,BitsAt w' ro rc (mxL R)→Calls Tryz.prog 10 #[.agg #[.int .i64 r,.int .i64 c,.slice ro n rc]] w' fun e w''=>e = .returned (.int .i64 0)∧Below w'.heap.size w' w'')
  (C4:∀ w' ro rc k,BitsAt w' ro rc (mxL R)→k < r→k < c→Calls Tryz.prog 23 #[.agg #[.int .i64 r,.int .i64 c,.slice ro n rc],.int .i64 (k:Nat)] w' fun e w''=>∃ v,e = .returned v∧IsLv w'' v (-2148) (D k)∧Below w'.heap.size w' w'')
  (C5:∀ w' v,0 < r→0 < c→IsLv w' v (-2148) (D 0)→Calls Tryz.prog 24 #[v,.int .i64 (-30)] w' fun e w''=>∃ u,e = .returned u∧IsLv w'' u (-2178) (D 0)∧Below w'.heap.size w' w'')
  (C6:∀ w' j v u,1≤j→j < r→j < c→IsLv w' v (-2148) (D (j - 1))→IsLv w' u (-2178) (D 0)→Calls Tryz.prog 22 #[v,u] w' fun e w''=>∃ q,e = .returned q∧IsLv w'' q (-2178) (D (j - 1) * 2 ^ 30+D 0)∧Below w'.heap.size w' w'')
  (C7:∀ w' j v u,1≤j→j < r→j < c→IsLv w' v (-2148) (D j)→IsLv w' u (-2178) (D (j - 1) * 2 ^ 30+D 0)→Calls Tryz.prog 25 #[v,u] w' fun e w''=>e = .returned (.int .i64 (o j))∧Below w'.heap.size w' w'')
  (CA:∀ w',Below w.heap.size w w'→Calls Tryz.prog 14 #[] w' fun e w''=>e = .returned (.bool true)∧Below w'.heap.size w' w'') :
  Calls Tryz.prog 6 #[.agg #[.int .i64 r,.int .i64 c,.slice ao n cap]] w fun e w'=>e = .returned (.bool true)∧Below w.heap.size w w':=by
 have K1:=hide C1;have K2:=hide C2;have K3:=hide C3;have KS:=hide C4;have KC:=hide C5;have K6:=hide C6;have K7:=hide C7;have KZ:=hide CA;have HO:=hide ho
 have BB:=hide (below_alloc9 w (.cells #[.int .i64 r,.int .i64 c,.slice ao n cap] 24))
 have XA:=hide (BoxM.new w (.int .i64 r) (.int .i64 c) (.slice ao n cap))
 have y0:=(uH XA).c0;have y1:=(uH XA).c1;have y2:=(uH XA).c2
 clear C1 C2 C3 C4 C5 C6 C7 CA ho
 go_enter Tryz.func6,Tryz.ntmps6
 go_wp2_with fail
 clear y0 y1 y2
 refine (uH K1 _ (uH BB)).mono ?_
 rintro e w1 ⟨rfl,hb⟩
 replace XA:=hide ((uH XA).all hb)
 replace BB:=hide ((uH BB).trans (hb.mono (uH BB).size))
 clear hb K1
 have y0:=(uH XA).c0;have y1:=(uH XA).c1;have y2:=(uH XA).c2
 go_wp2_with fail
 clear y0 y1 y2
 refine (uH K2 _ (uH BB)).mono ?_
 rintro e w2 ⟨qo,qc,ro,rc,lo,lc,rfl,hn,hb⟩
 have ba1:=below_alloc9 w2 (.cells #[.int .i64 r,.int .i64 r,.slice qo nq qc] 24)
 have sa1:=size_alloc9 w2 (.cells #[.int .i64 r,.int .i64 r,.slice qo nq qc] 24)
 have ba2:=below_alloc9 (w2.alloc (.cells #[.int .i64 r,.int .i64 r,.slice qo nq qc] 24)) (.cells #[.int .i64 r,.int .i64 c,.slice ro n rc] 24)
 have xr:=BoxM.new (w2.alloc (.cells #[.int .i64 r,.int .i64 r,.slice qo nq qc] 24)) (.int .i64 r) (.int .i64 c) (.slice ro n rc)
 rw [sa1] at xr
 have bb2:=(uH BB).trans (hb.mono (uH BB).size)
 have bb3:=bb2.trans (ba1.mono bb2.size)
 have HBB:=hide (bb3.trans (ba2.mono bb3.size))
 have HN:=hide ((hn.below ba1).below ba2)
 have HX:=hide xr
 have y0:=xr.c0;have y1:=xr.c1;have y2:=xr.c2
 clear hb ba1 sa1 ba2 xr bb2 bb3 hn K2 XA BB
 go_wp2_with fail
 clear y0 y1 y2
 refine (uH K3 _ ro rc (uH HN)).mono ?_
 rintro e w3 ⟨rfl,hb⟩
 replace HX:=hide ((uH HX).all hb)
 replace HBB:=hide ((uH HBB).trans (hb.mono (uH HBB).size))
 replace HN:=hide ((uH HN).below hb)
 clear hb K3
 generalize w2.heap.size+1 = rb at *
 go_wp2_with fail
 go_loopw [7] (fun a wr=>∃ j:Nat,1≤j∧j≤r+1∧j≤c+1∧a = .int .i64 j∧Hid (BoxM wr rb (.int .i64 (r:Nat)) (.int .i64 (c:Nat)) (.slice ro n rc))∧Hid (BitsAt wr ro rc (mxL R))∧Hid (Below w.heap.size w wr)) (fun a _=>r+1 - (intOf a).toNat)
 case atStart=>exact ⟨1,by omega,by omega,by omega,rfl,HX,HN,HBB⟩
 case round =>
  clear HX HN HBB
  obtain ⟨j,hj1,hjr,hjc,rfl,hX,hN,hB⟩:=hrel
  have y0:=(uH hX).c0;have y1:=(uH hX).c1
  by_cases hin:j < r∧j < c
  ·obtain ⟨h1,h2⟩:=hin
   have h1I:(j:Int) < (r:Int):=by omega
   have h2I:(j:Int) < (c:Int):=by omega
   have g1:decide ((j:Int) < (r:Int)) = true:=decide_eq_true h1I
   have g2:decide ((j:Int) < (c:Int)) = true:=decide_eq_true h2I
   have e1:IntKind.i64.wrap ((j:Int) - 1) = ((j - 1:Nat):Int):=(wrap_in _ (by omega)).trans (by omega)
   have e2:(j:Int) - 1 = ((j - 1:Nat):Int):=by omega
   have e3:IntKind.i64.wrap ((j - 1:Nat):Int) = ((j - 1:Nat):Int):=wrap_in _ (by omega)
   have KA:=hide (fun w' v u=>uH K6 w' j v u hj1 h1 h2)
   have KM:=hide (fun w' v u=>uH K7 w' j v u hj1 h1 h2)
   have hoj:=uH HO j hj1 h1 h2
   have go:decide (0 < o j) = false:=decide_eq_false (by omega)
   generalize o j = oj at *
   go_wp2_with fail
   clear y0 y1
   refine at_world (fun W=>BoxM W rb (.int .i64 (r:Nat)) (.int .i64 (c:Nat)) (.slice ro n rc)∧BitsAt W ro rc (mxL R)∧Below w.heap.size w W) ⟨uH hX,uH hN,uH hB⟩ ?_
   clear hX hN hB
   rintro W0 ⟨hx,hn,hb⟩
   have hd:=(Below.refl W0.heap.size W0).drew
   have hX:=hide (hx.all hd);have hN:=hide (hn.below hd);have hB:=hide (hb.trans (hd.mono hb.size))
   clear hx hn hb hd
   refine wp_region_held_drew (S:=(fun w'=>w'.cell? ⟨rb,0,none⟩ = some (.int .i64 (r:Nat))∧w'.cell? ⟨rb,1,none⟩ = some (.int .i64 (c:Nat))∧w'.cell? ⟨rb,2,none⟩ = some (.slice ro n rc))) (by kernel_rfl) ?_ (fun hHeld=>?_)
   ·exact ⟨(uH hX).c0,(uH hX).c1,(uH hX).c2⟩
   refine wpAnyH_take (i:=0) (oi:={ dst:=some 39,op:=Op.load 24 (Operand.tmp 4),type:=24,pos := "law.go:121",after:=#[],guard:=none }) (v:=(Value.agg #[.int .i64 (r:Nat),.int .i64 (c:Nat),.slice ro n rc])) rfl (by kernel_rfl) (by kernel_rfl) (by kernel_rfl) (fun _ _ _ h=>h) (Or.inl ⟨by rfl,?_⟩) (by assumption) ?_
   ·(intro w hSw;(try dsimp only at hSw);go_simp)
   simp only [Act.put,List.setIfInBounds_toArray,List.set_cons_zero,List.set_cons_succ]
   refine wpAnyH_take (i:=1) (oi:={ dst:=some 40,op:=Op.move (Operand.tmp 7),type:=3,pos := "law.go:121",after:=#[],guard:=none }) (v:=(Value.int .i64 (j:Nat))) rfl (by kernel_rfl) (by kernel_rfl) (by kernel_rfl) (fun _ _ _ h=>h) (Or.inl ⟨by rfl,?_⟩) (by assumption) ?_
   ·(intro w hSw;(try dsimp only at hSw);go_simp)
   simp only [Act.put,List.setIfInBounds_toArray,List.set_cons_zero,List.set_cons_succ]
   refine wpAnyH_take (i:=2) (oi:={ dst:=some 41,op:=Op.binOp BinOp.sub 3 (Operand.tmp 40) (Operand.const (Value.int IntKind.i64 1)) 3,type:=3,pos := "law.go:121",after:=#[{ on:=1,ground:=Ground.data }],guard:=none }) (v:=(Value.int .i64 ((j - 1:Nat):Int))) rfl (by kernel_rfl) (by kernel_rfl) (by kernel_rfl) (fun _ _ _ h=>h) (Or.inl ⟨by rfl,?_⟩) (by assumption) ?_
   ·(intro w hSw;(try dsimp only at hSw);go_simp)
   simp only [Act.put,List.setIfInBounds_toArray,List.set_cons_zero,List.set_cons_succ]
   refine wpAnyH_take (i:=4) (oi:={ dst:=some 43,op:=Op.load 24 (Operand.tmp 4),type:=24,pos := "law.go:121",after:=#[],guard:=none }) (v:=(Value.agg #[.int .i64 (r:Nat),.int .i64 (c:Nat),.slice ro n rc])) rfl (by kernel_rfl) (by kernel_rfl) (by kernel_rfl) (fun _ _ _ h=>h) (Or.inl ⟨by rfl,?_⟩) (by assumption) ?_
   ·(intro w hSw;(try dsimp only at hSw);go_simp)
   simp only [Act.put,List.setIfInBounds_toArray,List.set_cons_zero,List.set_cons_succ]
   refine wpAnyH_ready (rs:=[3,8]) (by kernel_rfl) (by simp) ?_
   refine AllReadyH.cons (o:={ dst:=some 42,op:=Op.call { callee:=Callee.value (Operand.func 23),args:=#[Operand.tmp 39,Operand.tmp 41],argTypes:=#[24,3] },type:=52,pos := "law.go:121",after:=#[{ on:=0,ground:=Ground.data },{ on:=2,ground:=Ground.data }],guard:=none }) rfl (fun K0 hK0=>?_) (AllReadyH.cons (o:={ dst:=some 8,op:=Op.alloc 52,type:=0,pos := "law.go:121",after:=#[],guard:=none }) rfl (fun K0 hK0=>?_) AllReadyH.nil)
   ·go_simp
    refine (uH KS _ ro rc (j - 1) (uH hN) (by omega) (by omega)).mono ?_
    rintro e w3 ⟨v1,rfl,hv,hb⟩
    have V1:=hide hv
    replace hX:=hide ((uH hX).all hb)
    replace hB:=hide ((uH hB).trans (hb.mono (uH hB).size))
    replace hN:=hide ((uH hN).below hb)
    clear hv hb
    go_wp2_with fail
    refine hK0.out _ _ ?_ (fun hHeld=>?_)
    ·exact ⟨(uH hX).c0,(uH hX).c1,(uH hX).c2⟩
    clear hK0 K0
    refine wpAnyH_ready (rs:=[5,8]) (by kernel_rfl) (by simp) ?_
    refine AllReadyH.cons (o:={ dst:=some 44,op:=Op.call { callee:=Callee.value (Operand.func 23),args:=#[Operand.tmp 43,Operand.const (Value.int IntKind.i64 0)],argTypes:=#[24,3] },type:=52,pos := "law.go:121",after:=#[{ on:=4,ground:=Ground.data },{ on:=3,ground:=Ground.chain }],guard:=none }) rfl (fun K0 hK0=>?_) (AllReadyH.cons (o:={ dst:=some 8,op:=Op.alloc 52,type:=0,pos := "law.go:121",after:=#[],guard:=none }) rfl (fun K0 hK0=>?_) AllReadyH.nil)
    ·go_simp
     refine (uH KS _ ro rc 0 (uH hN) (by omega) (by omega)).mono ?_
     rintro e w5 ⟨v2,rfl,hv,hb⟩
     have V2:=hide hv
     replace hX:=hide ((uH hX).all hb)
     replace hB:=hide ((uH hB).trans (hb.mono (uH hB).size))
     replace hN:=hide ((uH hN).below hb)
     replace V1:=hide ((uH V1).below hb)
     clear hv hb
     go_wp2_with fail
     refine hK0.out _ _ ?_ (fun hHeld=>?_)
     ·exact ⟨(uH hX).c0,(uH hX).c1,(uH hX).c2⟩
     clear hK0 K0
     refine wpAnyH_ready (rs:=[6,8]) (by kernel_rfl) (by simp) ?_
     refine AllReadyH.cons (o:={ dst:=some 45,op:=Op.call { callee:=Callee.value (Operand.func 24),args:=#[Operand.tmp 44,Operand.const (Value.int IntKind.i64 (-30))],argTypes:=#[52,3] },type:=52,pos := "law.go:121",after:=#[{ on:=5,ground:=Ground.data },{ on:=5,ground:=Ground.chain }],guard:=none }) rfl (fun K0 hK0=>?_) (AllReadyH.cons (o:={ dst:=some 8,op:=Op.alloc 52,type:=0,pos := "law.go:121",after:=#[],guard:=none }) rfl (fun K0 hK0=>?_) AllReadyH.nil)
     ·go_simp
      refine (uH KC _ _ (by omega) (by omega) (uH V2)).mono ?_
      rintro e w6 ⟨v3,rfl,hv,hb⟩
      have V3:=hide hv
      replace hX:=hide ((uH hX).all hb)
      replace hB:=hide ((uH hB).trans (hb.mono (uH hB).size))
      replace hN:=hide ((uH hN).below hb)
      replace V1:=hide ((uH V1).below hb)
      clear hv hb V2
      go_wp2_with fail
      refine hK0.out _ _ ?_ (fun hHeld=>?_)
      ·exact ⟨(uH hX).c0,(uH hX).c1,(uH hX).c2⟩
      clear hK0 K0
      refine wpAnyH_ready (rs:=[7,8]) (by kernel_rfl) (by simp) ?_
      refine AllReadyH.cons (o:={ dst:=some 46,op:=Op.call { callee:=Callee.value (Operand.func 22),args:=#[Operand.tmp 42,Operand.tmp 45],argTypes:=#[52,52] },type:=52,pos := "law.go:121",after:=#[{ on:=3,ground:=Ground.data },{ on:=6,ground:=Ground.data },{ on:=6,ground:=Ground.chain }],guard:=none }) rfl (fun K0 hK0=>?_) (AllReadyH.cons (o:={ dst:=some 8,op:=Op.alloc 52,type:=0,pos := "law.go:121",after:=#[],guard:=none }) rfl (fun K0 hK0=>?_) AllReadyH.nil)
      ·go_simp
       refine (uH KA _ _ _ (uH V1) (uH V3)).mono ?_
       rintro e w7 ⟨v4,rfl,hv,hb⟩
       obtain ⟨n4,a4,c4,L4,rfl,i4⟩:=hv
       have V4:=hide (show IsLv w7 (.agg #[.bool n4,.slice a4 L4.length c4,.int .i64 (oE (D (j - 1) * 2 ^ 30+D 0) (-2178))]) (-2178) (D (j - 1) * 2 ^ 30+D 0) from ⟨n4,a4,c4,L4,rfl,i4⟩)
       clear i4
       replace hX:=hide ((uH hX).all hb)
       replace hB:=hide ((uH hB).trans (hb.mono (uH hB).size))
       replace hN:=hide ((uH hN).below hb)
       clear hb V1 V3
       generalize L4.length = l4 at *
       generalize oE (D (j - 1) * 2 ^ 30+D 0) (-2178) = X4 at *
       go_wp2_with fail
       refine hK0.out _ _ ?_ (fun hHeld=>?_)
       ·exact ⟨(uH hX).c0,(uH hX).c1,(uH hX).c2⟩
       clear hK0 K0
       refine wpAnyH_ready (rs:=[8]) (by kernel_rfl) (by simp) ?_
       refine AllReadyH.cons (o:={ dst:=some 8,op:=Op.alloc 52,type:=0,pos := "law.go:121",after:=#[],guard:=none }) rfl (fun K0 hK0=>?_) AllReadyH.nil
       have ba:=below_alloc9 (w7) (.cells #[.bool false,.slice none 0 0,.int .i64 0] 52)
       have XB:=hide (show Box3 ((w7).alloc (.cells #[.bool false,.slice none 0 0,.int .i64 0] 52)) w7.heap.size (.bool false) (.slice none 0 0) (.int .i64 0) from Box3.new (w7) _ _ _)
       have HGL:=hide (show w.heap.size≤w7.heap.size from (uH hB).size)
       replace hX:=hide ((uH hX).all ba)
       replace hB:=hide ((uH hB).trans (ba.mono (uH hB).size))
       replace hN:=hide ((uH hN).below ba)
       replace V4:=hide ((uH V4).below ba)
       clear ba
       go_simp
       refine hK0.out _ _ ?_ (fun hHeld=>?_)
       ·exact ⟨(uH hX).c0,(uH hX).c1,(uH hX).c2⟩
       clear hK0 K0
       generalize (w7).alloc (.cells #[.bool false,.slice none 0 0,.int .i64 0] 52) = wa at *
       refine wpAnyH_ready (rs:=[9]) (by kernel_rfl) (by simp) ?_
       refine AllReadyH.cons (o:={ dst:=none,op:=Op.store 52 (Operand.tmp 8) (Operand.tmp 46),type:=0,pos := "law.go:121",after:=#[{ on:=8,ground:=Ground.data },{ on:=7,ground:=Ground.data },{ on:=7,ground:=Ground.chain },{ on:=0,ground:=Ground.phase },{ on:=1,ground:=Ground.phase },{ on:=2,ground:=Ground.phase },{ on:=3,ground:=Ground.phase },{ on:=4,ground:=Ground.phase },{ on:=5,ground:=Ground.phase },{ on:=6,ground:=Ground.phase },{ on:=7,ground:=Ground.phase },{ on:=8,ground:=Ground.phase }],guard:=none }) rfl (fun K0 hK0=>?_) AllReadyH.nil
       have xb:=uH XB
       have q0:=xb.c0;have q1:=xb.c1;have q2:=xb.c2
       have f0:=xb.free 0;have f1:=xb.free 1;have f2:=xb.free 2
       have hne:rb ≠ w7.heap.size:=fun e=>BoxM.not3 (uH hX) (e ▸ xb)
       have XP:=hide (xb.put (.bool n4) (.slice a4 l4 c4) (.int .i64 X4))
       have VP:=hide (show IsLv _ _ (-2178) (D (j - 1) * 2 ^ 30+D 0) from IsDy.put3 (uH V4) xb (.bool n4) (.slice a4 l4 c4) (.int .i64 X4))
       have NP:=hide (bits_putD (uH hN) xb (.bool n4) (.slice a4 l4 c4) (.int .i64 X4))
       have XN:=hide ((uH hX).three14 hne (.bool n4) (.slice a4 l4 c4) (.int .i64 X4))
       have BN:=hide (below_put3 (uH hB) (uH HGL) (.bool n4) (.slice a4 l4 c4) (.int .i64 X4))
       clear xb hX hB hN V4 XB HGL
       go_simp
       clear q0 q1 q2 f0 f1 f2 hne
       refine hK0.out _ _ ?_ (fun hHeld=>?_)
       ·exact ⟨(uH XN).c0,(uH XN).c1,(uH XN).c2⟩
       clear hK0 K0
       refine wpAnyH_done (by kernel_rfl) ?_ _
       go_wp2_with fail
       refine at_world (fun W=>Box3 W w7.heap.size (.bool n4) (.slice a4 l4 c4) (.int .i64 X4)∧IsLv W (.agg #[.bool n4,.slice a4 l4 c4,.int .i64 X4]) (-2178) (D (j - 1) * 2 ^ 30+D 0)∧BitsAt W ro rc (mxL R)∧BoxM W rb (.int .i64 (r:Nat)) (.int .i64 (c:Nat)) (.slice ro n rc)∧Below w.heap.size w W) ⟨uH XP,uH VP,uH NP,uH XN,uH BN⟩ ?_
       clear XP VP NP XN BN
       rintro W1 ⟨xp,vp,np,xn,bn⟩
       have hd:=(Below.refl W1.heap.size W1).drew
       have XP:=hide (xp.all hd);have V4:=hide (IsLv.below vp hd);have hN:=hide (np.below hd);have hX:=hide (xn.all hd);have hB:=hide (bn.trans (hd.mono bn.size))
       clear xp vp np xn bn hd
       generalize w7.heap.size = g at *
       refine wp_region_held_drew (S:=(fun w'=>(w'.cell? ⟨rb,0,none⟩ = some (.int .i64 (r:Nat))∧w'.cell? ⟨rb,1,none⟩ = some (.int .i64 (c:Nat))∧w'.cell? ⟨rb,2,none⟩ = some (.slice ro n rc))∧w'.cell? ⟨g,0,none⟩ = some (.bool n4)∧w'.cell? ⟨g,1,none⟩ = some (.slice a4 l4 c4)∧w'.cell? ⟨g,2,none⟩ = some (.int .i64 X4))) (by kernel_rfl) ?_ (fun hHeld=>?_)
       ·exact ⟨⟨(uH hX).c0,(uH hX).c1,(uH hX).c2⟩,(uH XP).c0,(uH XP).c1,(uH XP).c2⟩
       refine wpAnyH_take (i:=0) (oi:={ dst:=some 47,op:=Op.load 24 (Operand.tmp 4),type:=24,pos := "law.go:122",after:=#[],guard:=none }) (v:=(Value.agg #[.int .i64 (r:Nat),.int .i64 (c:Nat),.slice ro n rc])) rfl (by kernel_rfl) (by kernel_rfl) (by kernel_rfl) (fun _ _ _ h=>h) (Or.inl ⟨by rfl,?_⟩) (by assumption) ?_
       ·(intro w hSw;(try dsimp only at hSw);go_simp)
       simp only [Act.put,List.setIfInBounds_toArray,List.set_cons_zero,List.set_cons_succ]
       refine wpAnyH_take (i:=1) (oi:={ dst:=some 48,op:=Op.move (Operand.tmp 7),type:=3,pos := "law.go:122",after:=#[],guard:=none }) (v:=(Value.int .i64 (j:Nat))) rfl (by kernel_rfl) (by kernel_rfl) (by kernel_rfl) (fun _ _ _ h=>h) (Or.inl ⟨by rfl,?_⟩) (by assumption) ?_
       ·(intro w hSw;(try dsimp only at hSw);go_simp)
       simp only [Act.put,List.setIfInBounds_toArray,List.set_cons_zero,List.set_cons_succ]
       refine wpAnyH_take (i:=3) (oi:={ dst:=some 50,op:=Op.load 52 (Operand.tmp 8),type:=52,pos := "law.go:122",after:=#[],guard:=none }) (v:=(Value.agg #[.bool n4,.slice a4 l4 c4,.int .i64 X4])) rfl (by kernel_rfl) (by kernel_rfl) (by kernel_rfl) (fun _ _ _ h=>h) (Or.inl ⟨by rfl,?_⟩) (by assumption) ?_
       ·(intro w hSw;(try dsimp only at hSw);go_simp)
       simp only [Act.put,List.setIfInBounds_toArray,List.set_cons_zero,List.set_cons_succ]
       refine wpAnyH_ready (rs:=[2]) (by kernel_rfl) (by simp) ?_
       refine AllReadyH.cons (o:={ dst:=some 49,op:=Op.call { callee:=Callee.value (Operand.func 23),args:=#[Operand.tmp 47,Operand.tmp 48],argTypes:=#[24,3] },type:=52,pos := "law.go:122",after:=#[{ on:=0,ground:=Ground.data },{ on:=1,ground:=Ground.data }],guard:=none }) rfl (fun K0 hK0=>?_) AllReadyH.nil
       go_simp
       refine (uH KS _ ro rc j (uH hN) (by omega) (by omega)).mono ?_
       rintro e w8 ⟨v5,rfl,hv,hb⟩
       have V5:=hide hv
       replace hX:=hide ((uH hX).all hb)
       replace XP:=hide ((uH XP).all hb)
       replace V4:=hide ((uH V4).below hb)
       replace hB:=hide ((uH hB).trans (hb.mono (uH hB).size))
       replace hN:=hide ((uH hN).below hb)
       clear hv hb
       go_wp2_with fail
       refine hK0.out _ _ ?_ (fun hHeld=>?_)
       ·exact ⟨⟨(uH hX).c0,(uH hX).c1,(uH hX).c2⟩,(uH XP).c0,(uH XP).c1,(uH XP).c2⟩
       clear hK0 K0
       refine wpAnyH_ready (rs:=[4]) (by kernel_rfl) (by simp) ?_
       refine AllReadyH.cons (o:={ dst:=some 51,op:=Op.call { callee:=Callee.value (Operand.func 25),args:=#[Operand.tmp 49,Operand.tmp 50],argTypes:=#[52,52] },type:=3,pos := "law.go:122",after:=#[{ on:=2,ground:=Ground.data },{ on:=3,ground:=Ground.data },{ on:=2,ground:=Ground.chain }],guard:=none }) rfl (fun K0 hK0=>?_) AllReadyH.nil
       go_simp
       refine (uH KM _ _ _ (uH V5) (uH V4)).mono ?_
       rintro e w9 ⟨rfl,hb⟩
       replace hX:=hide ((uH hX).all hb)
       replace XP:=hide ((uH XP).all hb)
       replace hB:=hide ((uH hB).trans (hb.mono (uH hB).size))
       replace hN:=hide ((uH hN).below hb)
       clear hb V5 V4
       go_wp2_with fail
       refine hK0.out _ _ ?_ (fun hHeld=>?_)
       ·exact ⟨⟨(uH hX).c0,(uH hX).c1,(uH hX).c2⟩,(uH XP).c0,(uH XP).c1,(uH XP).c2⟩
       clear hK0 K0
       refine wpAnyH_take (i:=5) (oi:={ dst:=some 52,op:=Op.binOp BinOp.gtr 3 (Operand.tmp 51) (Operand.const (Value.int IntKind.i64 0)) 3,type:=4,pos := "law.go:122",after:=#[{ on:=4,ground:=Ground.data }],guard:=none }) (v:=(Value.bool false)) rfl (by kernel_rfl) (by kernel_rfl) (by kernel_rfl) (fun _ _ _ h=>h) (Or.inl ⟨by rfl,?_⟩) (by assumption) ?_
       ·(intro w hSw;(try dsimp only at hSw);go_simp)
       simp only [Act.put,List.setIfInBounds_toArray,List.set_cons_zero,List.set_cons_succ]
       refine wpAnyH_done (by kernel_rfl) ?_ _
       clear XP
       go_wp2_with fail
       go_round
       case rel=>exact ⟨j+1,by omega,by omega,by omega,by go_num,hX,hN,hB⟩
       case measure=>first | (simp [intOf];done) | (simp [intOf];omega)
      ·have ba:=below_alloc9 (w6) (.cells #[.bool false,.slice none 0 0,.int .i64 0] 52)
       have XB:=hide (show Box3 ((w6).alloc (.cells #[.bool false,.slice none 0 0,.int .i64 0] 52)) w6.heap.size (.bool false) (.slice none 0 0) (.int .i64 0) from Box3.new (w6) _ _ _)
       have HGL:=hide (show w.heap.size≤w6.heap.size from (uH hB).size)
       replace hX:=hide ((uH hX).all ba)
       replace hB:=hide ((uH hB).trans (ba.mono (uH hB).size))
       replace hN:=hide ((uH hN).below ba)
       replace V1:=hide ((uH V1).below ba)
       replace V3:=hide ((uH V3).below ba)
       clear ba
       go_simp
       refine hK0.out _ _ ?_ (fun hHeld=>?_)
       ·exact ⟨(uH hX).c0,(uH hX).c1,(uH hX).c2⟩
       clear hK0 K0
       refine wpAnyH_ready (rs:=[7]) (by kernel_rfl) (by simp) ?_
       refine AllReadyH.cons (o:={ dst:=some 46,op:=Op.call { callee:=Callee.value (Operand.func 22),args:=#[Operand.tmp 42,Operand.tmp 45],argTypes:=#[52,52] },type:=52,pos := "law.go:121",after:=#[{ on:=3,ground:=Ground.data },{ on:=6,ground:=Ground.data },{ on:=6,ground:=Ground.chain }],guard:=none }) rfl (fun K0 hK0=>?_) AllReadyH.nil
       go_simp
       refine (uH KA _ _ _ (uH V1) (uH V3)).mono ?_
       rintro e w7 ⟨v4,rfl,hv,hb⟩
       obtain ⟨n4,a4,c4,L4,rfl,i4⟩:=hv
       have V4:=hide (show IsLv w7 (.agg #[.bool n4,.slice a4 L4.length c4,.int .i64 (oE (D (j - 1) * 2 ^ 30+D 0) (-2178))]) (-2178) (D (j - 1) * 2 ^ 30+D 0) from ⟨n4,a4,c4,L4,rfl,i4⟩)
       clear i4
       replace hX:=hide ((uH hX).all hb)
       replace hB:=hide ((uH hB).trans (hb.mono (uH hB).size))
       replace hN:=hide ((uH hN).below hb)
       replace XB:=hide ((uH XB).all hb)
       clear hb V1 V3
       generalize L4.length = l4 at *
       generalize oE (D (j - 1) * 2 ^ 30+D 0) (-2178) = X4 at *
       go_wp2_with fail
       refine hK0.out _ _ ?_ (fun hHeld=>?_)
       ·exact ⟨(uH hX).c0,(uH hX).c1,(uH hX).c2⟩
       clear hK0 K0
       refine wpAnyH_ready (rs:=[9]) (by kernel_rfl) (by simp) ?_
       refine AllReadyH.cons (o:={ dst:=none,op:=Op.store 52 (Operand.tmp 8) (Operand.tmp 46),type:=0,pos := "law.go:121",after:=#[{ on:=8,ground:=Ground.data },{ on:=7,ground:=Ground.data },{ on:=7,ground:=Ground.chain },{ on:=0,ground:=Ground.phase },{ on:=1,ground:=Ground.phase },{ on:=2,ground:=Ground.phase },{ on:=3,ground:=Ground.phase },{ on:=4,ground:=Ground.phase },{ on:=5,ground:=Ground.phase },{ on:=6,ground:=Ground.phase },{ on:=7,ground:=Ground.phase },{ on:=8,ground:=Ground.phase }],guard:=none }) rfl (fun K0 hK0=>?_) AllReadyH.nil
       have xb:=uH XB
       have q0:=xb.c0;have q1:=xb.c1;have q2:=xb.c2
       have f0:=xb.free 0;have f1:=xb.free 1;have f2:=xb.free 2
       have hne:rb ≠ w6.heap.size:=fun e=>BoxM.not3 (uH hX) (e ▸ xb)
       have XP:=hide (xb.put (.bool n4) (.slice a4 l4 c4) (.int .i64 X4))
       have VP:=hide (show IsLv _ _ (-2178) (D (j - 1) * 2 ^ 30+D 0) from IsDy.put3 (uH V4) xb (.bool n4) (.slice a4 l4 c4) (.int .i64 X4))
       have NP:=hide (bits_putD (uH hN) xb (.bool n4) (.slice a4 l4 c4) (.int .i64 X4))
       have XN:=hide ((uH hX).three14 hne (.bool n4) (.slice a4 l4 c4) (.int .i64 X4))
       have BN:=hide (below_put3 (uH hB) (uH HGL) (.bool n4) (.slice a4 l4 c4) (.int .i64 X4))
       clear xb hX hB hN V4 XB HGL
       go_simp
       clear q0 q1 q2 f0 f1 f2 hne
       refine hK0.out _ _ ?_ (fun hHeld=>?_)
       ·exact ⟨(uH XN).c0,(uH XN).c1,(uH XN).c2⟩
       clear hK0 K0
       refine wpAnyH_done (by kernel_rfl) ?_ _
       go_wp2_with fail
       refine at_world (fun W=>Box3 W w6.heap.size (.bool n4) (.slice a4 l4 c4) (.int .i64 X4)∧IsLv W (.agg #[.bool n4,.slice a4 l4 c4,.int .i64 X4]) (-2178) (D (j - 1) * 2 ^ 30+D 0)∧BitsAt W ro rc (mxL R)∧BoxM W rb (.int .i64 (r:Nat)) (.int .i64 (c:Nat)) (.slice ro n rc)∧Below w.heap.size w W) ⟨uH XP,uH VP,uH NP,uH XN,uH BN⟩ ?_
       clear XP VP NP XN BN
       rintro W1 ⟨xp,vp,np,xn,bn⟩
       have hd:=(Below.refl W1.heap.size W1).drew
       have XP:=hide (xp.all hd);have V4:=hide (IsLv.below vp hd);have hN:=hide (np.below hd);have hX:=hide (xn.all hd);have hB:=hide (bn.trans (hd.mono bn.size))
       clear xp vp np xn bn hd
       generalize w6.heap.size = g at *
       refine wp_region_held_drew (S:=(fun w'=>(w'.cell? ⟨rb,0,none⟩ = some (.int .i64 (r:Nat))∧w'.cell? ⟨rb,1,none⟩ = some (.int .i64 (c:Nat))∧w'.cell? ⟨rb,2,none⟩ = some (.slice ro n rc))∧w'.cell? ⟨g,0,none⟩ = some (.bool n4)∧w'.cell? ⟨g,1,none⟩ = some (.slice a4 l4 c4)∧w'.cell? ⟨g,2,none⟩ = some (.int .i64 X4))) (by kernel_rfl) ?_ (fun hHeld=>?_)
       ·exact ⟨⟨(uH hX).c0,(uH hX).c1,(uH hX).c2⟩,(uH XP).c0,(uH XP).c1,(uH XP).c2⟩
       refine wpAnyH_take (i:=0) (oi:={ dst:=some 47,op:=Op.load 24 (Operand.tmp 4),type:=24,pos := "law.go:122",after:=#[],guard:=none }) (v:=(Value.agg #[.int .i64 (r:Nat),.int .i64 (c:Nat),.slice ro n rc])) rfl (by kernel_rfl) (by kernel_rfl) (by kernel_rfl) (fun _ _ _ h=>h) (Or.inl ⟨by rfl,?_⟩) (by assumption) ?_
       ·(intro w hSw;(try dsimp only at hSw);go_simp)
       simp only [Act.put,List.setIfInBounds_toArray,List.set_cons_zero,List.set_cons_succ]
       refine wpAnyH_take (i:=1) (oi:={ dst:=some 48,op:=Op.move (Operand.tmp 7),type:=3,pos := "law.go:122",after:=#[],guard:=none }) (v:=(Value.int .i64 (j:Nat))) rfl (by kernel_rfl) (by kernel_rfl) (by kernel_rfl) (fun _ _ _ h=>h) (Or.inl ⟨by rfl,?_⟩) (by assumption) ?_
       ·(intro w hSw;(try dsimp only at hSw);go_simp)
       simp only [Act.put,List.setIfInBounds_toArray,List.set_cons_zero,List.set_cons_succ]
       refine wpAnyH_take (i:=3) (oi:={ dst:=some 50,op:=Op.load 52 (Operand.tmp 8),type:=52,pos := "law.go:122",after:=#[],guard:=none }) (v:=(Value.agg #[.bool n4,.slice a4 l4 c4,.int .i64 X4])) rfl (by kernel_rfl) (by kernel_rfl) (by kernel_rfl) (fun _ _ _ h=>h) (Or.inl ⟨by rfl,?_⟩) (by assumption) ?_
       ·(intro w hSw;(try dsimp only at hSw);go_simp)
       simp only [Act.put,List.setIfInBounds_toArray,List.set_cons_zero,List.set_cons_succ]
       refine wpAnyH_ready (rs:=[2]) (by kernel_rfl) (by simp) ?_
       refine AllReadyH.cons (o:={ dst:=some 49,op:=Op.call { callee:=Callee.value (Operand.func 23),args:=#[Operand.tmp 47,Operand.tmp 48],argTypes:=#[24,3] },type:=52,pos := "law.go:122",after:=#[{ on:=0,ground:=Ground.data },{ on:=1,ground:=Ground.data }],guard:=none }) rfl (fun K0 hK0=>?_) AllReadyH.nil
       go_simp
       refine (uH KS _ ro rc j (uH hN) (by omega) (by omega)).mono ?_
       rintro e w8 ⟨v5,rfl,hv,hb⟩
       have V5:=hide hv
       replace hX:=hide ((uH hX).all hb)
       replace XP:=hide ((uH XP).all hb)
       replace V4:=hide ((uH V4).below hb)
       replace hB:=hide ((uH hB).trans (hb.mono (uH hB).size))
       replace hN:=hide ((uH hN).below hb)
       clear hv hb
       go_wp2_with fail
       refine hK0.out _ _ ?_ (fun hHeld=>?_)
       ·exact ⟨⟨(uH hX).c0,(uH hX).c1,(uH hX).c2⟩,(uH XP).c0,(uH XP).c1,(uH XP).c2⟩
       clear hK0 K0
       refine wpAnyH_ready (rs:=[4]) (by kernel_rfl) (by simp) ?_
       refine AllReadyH.cons (o:={ dst:=some 51,op:=Op.call { callee:=Callee.value (Operand.func 25),args:=#[Operand.tmp 49,Operand.tmp 50],argTypes:=#[52,52] },type:=3,pos := "law.go:122",after:=#[{ on:=2,ground:=Ground.data },{ on:=3,ground:=Ground.data },{ on:=2,ground:=Ground.chain }],guard:=none }) rfl (fun K0 hK0=>?_) AllReadyH.nil
       go_simp
       refine (uH KM _ _ _ (uH V5) (uH V4)).mono ?_
       rintro e w9 ⟨rfl,hb⟩
       replace hX:=hide ((uH hX).all hb)
       replace XP:=hide ((uH XP).all hb)
       replace hB:=hide ((uH hB).trans (hb.mono (uH hB).size))
       replace hN:=hide ((uH hN).below hb)
       clear hb V5 V4
       go_wp2_with fail
       refine hK0.out _ _ ?_ (fun hHeld=>?_)
       ·exact ⟨⟨(uH hX).c0,(uH hX).c1,(uH hX).c2⟩,(uH XP).c0,(uH XP).c1,(uH XP).c2⟩
       clear hK0 K0
       refine wpAnyH_take (i:=5) (oi:={ dst:=some 52,op:=Op.binOp BinOp.gtr 3 (Operand.tmp 51) (Operand.const (Value.int IntKind.i64 0)) 3,type:=4,pos := "law.go:122",after:=#[{ on:=4,ground:=Ground.data }],guard:=none }) (v:=(Value.bool false)) rfl (by kernel_rfl) (by kernel_rfl) (by kernel_rfl) (fun _ _ _ h=>h) (Or.inl ⟨by rfl,?_⟩) (by assumption) ?_
       ·(intro w hSw;(try dsimp only at hSw);go_simp)
       simp only [Act.put,List.setIfInBounds_toArray,List.set_cons_zero,List.set_cons_succ]
       refine wpAnyH_done (by kernel_rfl) ?_ _
       clear XP
       go_wp2_with fail
       go_round
       case rel=>exact ⟨j+1,by omega,by omega,by omega,by go_num,hX,hN,hB⟩
       case measure=>first | (simp [intOf];done) | (simp [intOf];omega)
     ·have ba:=below_alloc9 (w5) (.cells #[.bool false,.slice none 0 0,.int .i64 0] 52)
      have XB:=hide (show Box3 ((w5).alloc (.cells #[.bool false,.slice none 0 0,.int .i64 0] 52)) w5.heap.size (.bool false) (.slice none 0 0) (.int .i64 0) from Box3.new (w5) _ _ _)
      have HGL:=hide (show w.heap.size≤w5.heap.size from (uH hB).size)
      replace hX:=hide ((uH hX).all ba)
      replace hB:=hide ((uH hB).trans (ba.mono (uH hB).size))
      replace hN:=hide ((uH hN).below ba)
      replace V1:=hide ((uH V1).below ba)
      replace V2:=hide ((uH V2).below ba)
      clear ba
      go_simp
      refine hK0.out _ _ ?_ (fun hHeld=>?_)
      ·exact ⟨(uH hX).c0,(uH hX).c1,(uH hX).c2⟩
      clear hK0 K0
      refine wpAnyH_ready (rs:=[6]) (by kernel_rfl) (by simp) ?_
      refine AllReadyH.cons (o:={ dst:=some 45,op:=Op.call { callee:=Callee.value (Operand.func 24),args:=#[Operand.tmp 44,Operand.const (Value.int IntKind.i64 (-30))],argTypes:=#[52,3] },type:=52,pos := "law.go:121",after:=#[{ on:=5,ground:=Ground.data },{ on:=5,ground:=Ground.chain }],guard:=none }) rfl (fun K0 hK0=>?_) AllReadyH.nil
      go_simp
      refine (uH KC _ _ (by omega) (by omega) (uH V2)).mono ?_
      rintro e w6 ⟨v3,rfl,hv,hb⟩
      have V3:=hide hv
      replace hX:=hide ((uH hX).all hb)
      replace hB:=hide ((uH hB).trans (hb.mono (uH hB).size))
      replace hN:=hide ((uH hN).below hb)
      replace V1:=hide ((uH V1).below hb)
      replace XB:=hide ((uH XB).all hb)
      clear hv hb V2
      go_wp2_with fail
      refine hK0.out _ _ ?_ (fun hHeld=>?_)
      ·exact ⟨(uH hX).c0,(uH hX).c1,(uH hX).c2⟩
      clear hK0 K0
      refine wpAnyH_ready (rs:=[7]) (by kernel_rfl) (by simp) ?_
      refine AllReadyH.cons (o:={ dst:=some 46,op:=Op.call { callee:=Callee.value (Operand.func 22),args:=#[Operand.tmp 42,Operand.tmp 45],argTypes:=#[52,52] },type:=52,pos := "law.go:121",after:=#[{ on:=3,ground:=Ground.data },{ on:=6,ground:=Ground.data },{ on:=6,ground:=Ground.chain }],guard:=none }) rfl (fun K0 hK0=>?_) AllReadyH.nil
      go_simp
      refine (uH KA _ _ _ (uH V1) (uH V3)).mono ?_
      rintro e w7 ⟨v4,rfl,hv,hb⟩
      obtain ⟨n4,a4,c4,L4,rfl,i4⟩:=hv
      have V4:=hide (show IsLv w7 (.agg #[.bool n4,.slice a4 L4.length c4,.int .i64 (oE (D (j - 1) * 2 ^ 30+D 0) (-2178))]) (-2178) (D (j - 1) * 2 ^ 30+D 0) from ⟨n4,a4,c4,L4,rfl,i4⟩)
      clear i4
      replace hX:=hide ((uH hX).all hb)
      replace hB:=hide ((uH hB).trans (hb.mono (uH hB).size))
      replace hN:=hide ((uH hN).below hb)
      replace XB:=hide ((uH XB).all hb)
      clear hb V1 V3
      generalize L4.length = l4 at *
      generalize oE (D (j - 1) * 2 ^ 30+D 0) (-2178) = X4 at *
      go_wp2_with fail
      refine hK0.out _ _ ?_ (fun hHeld=>?_)
      ·exact ⟨(uH hX).c0,(uH hX).c1,(uH hX).c2⟩
      clear hK0 K0
      refine wpAnyH_ready (rs:=[9]) (by kernel_rfl) (by simp) ?_
      refine AllReadyH.cons (o:={ dst:=none,op:=Op.store 52 (Operand.tmp 8) (Operand.tmp 46),type:=0,pos := "law.go:121",after:=#[{ on:=8,ground:=Ground.data },{ on:=7,ground:=Ground.data },{ on:=7,ground:=Ground.chain },{ on:=0,ground:=Ground.phase },{ on:=1,ground:=Ground.phase },{ on:=2,ground:=Ground.phase },{ on:=3,ground:=Ground.phase },{ on:=4,ground:=Ground.phase },{ on:=5,ground:=Ground.phase },{ on:=6,ground:=Ground.phase },{ on:=7,ground:=Ground.phase },{ on:=8,ground:=Ground.phase }],guard:=none }) rfl (fun K0 hK0=>?_) AllReadyH.nil
      have xb:=uH XB
      have q0:=xb.c0;have q1:=xb.c1;have q2:=xb.c2
      have f0:=xb.free 0;have f1:=xb.free 1;have f2:=xb.free 2
      have hne:rb ≠ w5.heap.size:=fun e=>BoxM.not3 (uH hX) (e ▸ xb)
      have XP:=hide (xb.put (.bool n4) (.slice a4 l4 c4) (.int .i64 X4))
      have VP:=hide (show IsLv _ _ (-2178) (D (j - 1) * 2 ^ 30+D 0) from IsDy.put3 (uH V4) xb (.bool n4) (.slice a4 l4 c4) (.int .i64 X4))
      have NP:=hide (bits_putD (uH hN) xb (.bool n4) (.slice a4 l4 c4) (.int .i64 X4))
      have XN:=hide ((uH hX).three14 hne (.bool n4) (.slice a4 l4 c4) (.int .i64 X4))
      have BN:=hide (below_put3 (uH hB) (uH HGL) (.bool n4) (.slice a4 l4 c4) (.int .i64 X4))
      clear xb hX hB hN V4 XB HGL
      go_simp
      clear q0 q1 q2 f0 f1 f2 hne
      refine hK0.out _ _ ?_ (fun hHeld=>?_)
      ·exact ⟨(uH XN).c0,(uH XN).c1,(uH XN).c2⟩
      clear hK0 K0
      refine wpAnyH_done (by kernel_rfl) ?_ _
      go_wp2_with fail
      refine at_world (fun W=>Box3 W w5.heap.size (.bool n4) (.slice a4 l4 c4) (.int .i64 X4)∧IsLv W (.agg #[.bool n4,.slice a4 l4 c4,.int .i64 X4]) (-2178) (D (j - 1) * 2 ^ 30+D 0)∧BitsAt W ro rc (mxL R)∧BoxM W rb (.int .i64 (r:Nat)) (.int .i64 (c:Nat)) (.slice ro n rc)∧Below w.heap.size w W) ⟨uH XP,uH VP,uH NP,uH XN,uH BN⟩ ?_
      clear XP VP NP XN BN
      rintro W1 ⟨xp,vp,np,xn,bn⟩
      have hd:=(Below.refl W1.heap.size W1).drew
      have XP:=hide (xp.all hd);have V4:=hide (IsLv.below vp hd);have hN:=hide (np.below hd);have hX:=hide (xn.all hd);have hB:=hide (bn.trans (hd.mono bn.size))
      clear xp vp np xn bn hd
      generalize w5.heap.size = g at *
      refine wp_region_held_drew (S:=(fun w'=>(w'.cell? ⟨rb,0,none⟩ = some (.int .i64 (r:Nat))∧w'.cell? ⟨rb,1,none⟩ = some (.int .i64 (c:Nat))∧w'.cell? ⟨rb,2,none⟩ = some (.slice ro n rc))∧w'.cell? ⟨g,0,none⟩ = some (.bool n4)∧w'.cell? ⟨g,1,none⟩ = some (.slice a4 l4 c4)∧w'.cell? ⟨g,2,none⟩ = some (.int .i64 X4))) (by kernel_rfl) ?_ (fun hHeld=>?_)
      ·exact ⟨⟨(uH hX).c0,(uH hX).c1,(uH hX).c2⟩,(uH XP).c0,(uH XP).c1,(uH XP).c2⟩
      refine wpAnyH_take (i:=0) (oi:={ dst:=some 47,op:=Op.load 24 (Operand.tmp 4),type:=24,pos := "law.go:122",after:=#[],guard:=none }) (v:=(Value.agg #[.int .i64 (r:Nat),.int .i64 (c:Nat),.slice ro n rc])) rfl (by kernel_rfl) (by kernel_rfl) (by kernel_rfl) (fun _ _ _ h=>h) (Or.inl ⟨by rfl,?_⟩) (by assumption) ?_
      ·(intro w hSw;(try dsimp only at hSw);go_simp)
      simp only [Act.put,List.setIfInBounds_toArray,List.set_cons_zero,List.set_cons_succ]
      refine wpAnyH_take (i:=1) (oi:={ dst:=some 48,op:=Op.move (Operand.tmp 7),type:=3,pos := "law.go:122",after:=#[],guard:=none }) (v:=(Value.int .i64 (j:Nat))) rfl (by kernel_rfl) (by kernel_rfl) (by kernel_rfl) (fun _ _ _ h=>h) (Or.inl ⟨by rfl,?_⟩) (by assumption) ?_
      ·(intro w hSw;(try dsimp only at hSw);go_simp)
      simp only [Act.put,List.setIfInBounds_toArray,List.set_cons_zero,List.set_cons_succ]
      refine wpAnyH_take (i:=3) (oi:={ dst:=some 50,op:=Op.load 52 (Operand.tmp 8),type:=52,pos := "law.go:122",after:=#[],guard:=none }) (v:=(Value.agg #[.bool n4,.slice a4 l4 c4,.int .i64 X4])) rfl (by kernel_rfl) (by kernel_rfl) (by kernel_rfl) (fun _ _ _ h=>h) (Or.inl ⟨by rfl,?_⟩) (by assumption) ?_
      ·(intro w hSw;(try dsimp only at hSw);go_simp)
      simp only [Act.put,List.setIfInBounds_toArray,List.set_cons_zero,List.set_cons_succ]
      refine wpAnyH_ready (rs:=[2]) (by kernel_rfl) (by simp) ?_
      refine AllReadyH.cons (o:={ dst:=some 49,op:=Op.call { callee:=Callee.value (Operand.func 23),args:=#[Operand.tmp 47,Operand.tmp 48],argTypes:=#[24,3] },type:=52,pos := "law.go:122",after:=#[{ on:=0,ground:=Ground.data },{ on:=1,ground:=Ground.data }],guard:=none }) rfl (fun K0 hK0=>?_) AllReadyH.nil
      go_simp
      refine (uH KS _ ro rc j (uH hN) (by omega) (by omega)).mono ?_
      rintro e w8 ⟨v5,rfl,hv,hb⟩
      have V5:=hide hv
      replace hX:=hide ((uH hX).all hb)
      replace XP:=hide ((uH XP).all hb)
      replace V4:=hide ((uH V4).below hb)
      replace hB:=hide ((uH hB).trans (hb.mono (uH hB).size))
      replace hN:=hide ((uH hN).below hb)
      clear hv hb
      go_wp2_with fail
      refine hK0.out _ _ ?_ (fun hHeld=>?_)
      ·exact ⟨⟨(uH hX).c0,(uH hX).c1,(uH hX).c2⟩,(uH XP).c0,(uH XP).c1,(uH XP).c2⟩
      clear hK0 K0
      refine wpAnyH_ready (rs:=[4]) (by kernel_rfl) (by simp) ?_
      refine AllReadyH.cons (o:={ dst:=some 51,op:=Op.call { callee:=Callee.value (Operand.func 25),args:=#[Operand.tmp 49,Operand.tmp 50],argTypes:=#[52,52] },type:=3,pos := "law.go:122",after:=#[{ on:=2,ground:=Ground.data },{ on:=3,ground:=Ground.data },{ on:=2,ground:=Ground.chain }],guard:=none }) rfl (fun K0 hK0=>?_) AllReadyH.nil
      go_simp
      refine (uH KM _ _ _ (uH V5) (uH V4)).mono ?_
      rintro e w9 ⟨rfl,hb⟩
      replace hX:=hide ((uH hX).all hb)
      replace XP:=hide ((uH XP).all hb)
      replace hB:=hide ((uH hB).trans (hb.mono (uH hB).size))
      replace hN:=hide ((uH hN).below hb)
      clear hb V5 V4
      go_wp2_with fail
      refine hK0.out _ _ ?_ (fun hHeld=>?_)
      ·exact ⟨⟨(uH hX).c0,(uH hX).c1,(uH hX).c2⟩,(uH XP).c0,(uH XP).c1,(uH XP).c2⟩
      clear hK0 K0
      refine wpAnyH_take (i:=5) (oi:={ dst:=some 52,op:=Op.binOp BinOp.gtr 3 (Operand.tmp 51) (Operand.const (Value.int IntKind.i64 0)) 3,type:=4,pos := "law.go:122",after:=#[{ on:=4,ground:=Ground.data }],guard:=none }) (v:=(Value.bool false)) rfl (by kernel_rfl) (by kernel_rfl) (by kernel_rfl) (fun _ _ _ h=>h) (Or.inl ⟨by rfl,?_⟩) (by assumption) ?_
      ·(intro w hSw;(try dsimp only at hSw);go_simp)
      simp only [Act.put,List.setIfInBounds_toArray,List.set_cons_zero,List.set_cons_succ]
      refine wpAnyH_done (by kernel_rfl) ?_ _
      clear XP
      go_wp2_with fail
      go_round
      case rel=>exact ⟨j+1,by omega,by omega,by omega,by go_num,hX,hN,hB⟩
      case measure=>first | (simp [intOf];done) | (simp [intOf];omega)
    ·have ba:=below_alloc9 (w3) (.cells #[.bool false,.slice none 0 0,.int .i64 0] 52)
     have XB:=hide (show Box3 ((w3).alloc (.cells #[.bool false,.slice none 0 0,.int .i64 0] 52)) w3.heap.size (.bool false) (.slice none 0 0) (.int .i64 0) from Box3.new (w3) _ _ _)
     have HGL:=hide (show w.heap.size≤w3.heap.size from (uH hB).size)
     replace hX:=hide ((uH hX).all ba)
     replace hB:=hide ((uH hB).trans (ba.mono (uH hB).size))
     replace hN:=hide ((uH hN).below ba)
     replace V1:=hide ((uH V1).below ba)
     clear ba
     go_simp
     refine hK0.out _ _ ?_ (fun hHeld=>?_)
     ·exact ⟨(uH hX).c0,(uH hX).c1,(uH hX).c2⟩
     clear hK0 K0
     refine wpAnyH_ready (rs:=[5]) (by kernel_rfl) (by simp) ?_
     refine AllReadyH.cons (o:={ dst:=some 44,op:=Op.call { callee:=Callee.value (Operand.func 23),args:=#[Operand.tmp 43,Operand.const (Value.int IntKind.i64 0)],argTypes:=#[24,3] },type:=52,pos := "law.go:121",after:=#[{ on:=4,ground:=Ground.data },{ on:=3,ground:=Ground.chain }],guard:=none }) rfl (fun K0 hK0=>?_) AllReadyH.nil
     go_simp
     refine (uH KS _ ro rc 0 (uH hN) (by omega) (by omega)).mono ?_
     rintro e w5 ⟨v2,rfl,hv,hb⟩
     have V2:=hide hv
     replace hX:=hide ((uH hX).all hb)
     replace hB:=hide ((uH hB).trans (hb.mono (uH hB).size))
     replace hN:=hide ((uH hN).below hb)
     replace V1:=hide ((uH V1).below hb)
     replace XB:=hide ((uH XB).all hb)
     clear hv hb
     go_wp2_with fail
     refine hK0.out _ _ ?_ (fun hHeld=>?_)
     ·exact ⟨(uH hX).c0,(uH hX).c1,(uH hX).c2⟩
     clear hK0 K0
     refine wpAnyH_ready (rs:=[6]) (by kernel_rfl) (by simp) ?_
     refine AllReadyH.cons (o:={ dst:=some 45,op:=Op.call { callee:=Callee.value (Operand.func 24),args:=#[Operand.tmp 44,Operand.const (Value.int IntKind.i64 (-30))],argTypes:=#[52,3] },type:=52,pos := "law.go:121",after:=#[{ on:=5,ground:=Ground.data },{ on:=5,ground:=Ground.chain }],guard:=none }) rfl (fun K0 hK0=>?_) AllReadyH.nil
     go_simp
     refine (uH KC _ _ (by omega) (by omega) (uH V2)).mono ?_
     rintro e w6 ⟨v3,rfl,hv,hb⟩
     have V3:=hide hv
     replace hX:=hide ((uH hX).all hb)
     replace hB:=hide ((uH hB).trans (hb.mono (uH hB).size))
     replace hN:=hide ((uH hN).below hb)
     replace V1:=hide ((uH V1).below hb)
     replace XB:=hide ((uH XB).all hb)
     clear hv hb V2
     go_wp2_with fail
     refine hK0.out _ _ ?_ (fun hHeld=>?_)
     ·exact ⟨(uH hX).c0,(uH hX).c1,(uH hX).c2⟩
     clear hK0 K0
     refine wpAnyH_ready (rs:=[7]) (by kernel_rfl) (by simp) ?_
     refine AllReadyH.cons (o:={ dst:=some 46,op:=Op.call { callee:=Callee.value (Operand.func 22),args:=#[Operand.tmp 42,Operand.tmp 45],argTypes:=#[52,52] },type:=52,pos := "law.go:121",after:=#[{ on:=3,ground:=Ground.data },{ on:=6,ground:=Ground.data },{ on:=6,ground:=Ground.chain }],guard:=none }) rfl (fun K0 hK0=>?_) AllReadyH.nil
     go_simp
     refine (uH KA _ _ _ (uH V1) (uH V3)).mono ?_
     rintro e w7 ⟨v4,rfl,hv,hb⟩
     obtain ⟨n4,a4,c4,L4,rfl,i4⟩:=hv
     have V4:=hide (show IsLv w7 (.agg #[.bool n4,.slice a4 L4.length c4,.int .i64 (oE (D (j - 1) * 2 ^ 30+D 0) (-2178))]) (-2178) (D (j - 1) * 2 ^ 30+D 0) from ⟨n4,a4,c4,L4,rfl,i4⟩)
     clear i4
     replace hX:=hide ((uH hX).all hb)
     replace hB:=hide ((uH hB).trans (hb.mono (uH hB).size))
     replace hN:=hide ((uH hN).below hb)
     replace XB:=hide ((uH XB).all hb)
     clear hb V1 V3
     generalize L4.length = l4 at *
     generalize oE (D (j - 1) * 2 ^ 30+D 0) (-2178) = X4 at *
     go_wp2_with fail
     refine hK0.out _ _ ?_ (fun hHeld=>?_)
     ·exact ⟨(uH hX).c0,(uH hX).c1,(uH hX).c2⟩
     clear hK0 K0
     refine wpAnyH_ready (rs:=[9]) (by kernel_rfl) (by simp) ?_
     refine AllReadyH.cons (o:={ dst:=none,op:=Op.store 52 (Operand.tmp 8) (Operand.tmp 46),type:=0,pos := "law.go:121",after:=#[{ on:=8,ground:=Ground.data },{ on:=7,ground:=Ground.data },{ on:=7,ground:=Ground.chain },{ on:=0,ground:=Ground.phase },{ on:=1,ground:=Ground.phase },{ on:=2,ground:=Ground.phase },{ on:=3,ground:=Ground.phase },{ on:=4,ground:=Ground.phase },{ on:=5,ground:=Ground.phase },{ on:=6,ground:=Ground.phase },{ on:=7,ground:=Ground.phase },{ on:=8,ground:=Ground.phase }],guard:=none }) rfl (fun K0 hK0=>?_) AllReadyH.nil
     have xb:=uH XB
     have q0:=xb.c0;have q1:=xb.c1;have q2:=xb.c2
     have f0:=xb.free 0;have f1:=xb.free 1;have f2:=xb.free 2
     have hne:rb ≠ w3.heap.size:=fun e=>BoxM.not3 (uH hX) (e ▸ xb)
     have XP:=hide (xb.put (.bool n4) (.slice a4 l4 c4) (.int .i64 X4))
     have VP:=hide (show IsLv _ _ (-2178) (D (j - 1) * 2 ^ 30+D 0) from IsDy.put3 (uH V4) xb (.bool n4) (.slice a4 l4 c4) (.int .i64 X4))
     have NP:=hide (bits_putD (uH hN) xb (.bool n4) (.slice a4 l4 c4) (.int .i64 X4))
     have XN:=hide ((uH hX).three14 hne (.bool n4) (.slice a4 l4 c4) (.int .i64 X4))
     have BN:=hide (below_put3 (uH hB) (uH HGL) (.bool n4) (.slice a4 l4 c4) (.int .i64 X4))
     clear xb hX hB hN V4 XB HGL
     go_simp
     clear q0 q1 q2 f0 f1 f2 hne
     refine hK0.out _ _ ?_ (fun hHeld=>?_)
     ·exact ⟨(uH XN).c0,(uH XN).c1,(uH XN).c2⟩
     clear hK0 K0
     refine wpAnyH_done (by kernel_rfl) ?_ _
     go_wp2_with fail
     refine at_world (fun W=>Box3 W w3.heap.size (.bool n4) (.slice a4 l4 c4) (.int .i64 X4)∧IsLv W (.agg #[.bool n4,.slice a4 l4 c4,.int .i64 X4]) (-2178) (D (j - 1) * 2 ^ 30+D 0)∧BitsAt W ro rc (mxL R)∧BoxM W rb (.int .i64 (r:Nat)) (.int .i64 (c:Nat)) (.slice ro n rc)∧Below w.heap.size w W) ⟨uH XP,uH VP,uH NP,uH XN,uH BN⟩ ?_
     clear XP VP NP XN BN
     rintro W1 ⟨xp,vp,np,xn,bn⟩
     have hd:=(Below.refl W1.heap.size W1).drew
     have XP:=hide (xp.all hd);have V4:=hide (IsLv.below vp hd);have hN:=hide (np.below hd);have hX:=hide (xn.all hd);have hB:=hide (bn.trans (hd.mono bn.size))
     clear xp vp np xn bn hd
     generalize w3.heap.size = g at *
     refine wp_region_held_drew (S:=(fun w'=>(w'.cell? ⟨rb,0,none⟩ = some (.int .i64 (r:Nat))∧w'.cell? ⟨rb,1,none⟩ = some (.int .i64 (c:Nat))∧w'.cell? ⟨rb,2,none⟩ = some (.slice ro n rc))∧w'.cell? ⟨g,0,none⟩ = some (.bool n4)∧w'.cell? ⟨g,1,none⟩ = some (.slice a4 l4 c4)∧w'.cell? ⟨g,2,none⟩ = some (.int .i64 X4))) (by kernel_rfl) ?_ (fun hHeld=>?_)
     ·exact ⟨⟨(uH hX).c0,(uH hX).c1,(uH hX).c2⟩,(uH XP).c0,(uH XP).c1,(uH XP).c2⟩
     refine wpAnyH_take (i:=0) (oi:={ dst:=some 47,op:=Op.load 24 (Operand.tmp 4),type:=24,pos := "law.go:122",after:=#[],guard:=none }) (v:=(Value.agg #[.int .i64 (r:Nat),.int .i64 (c:Nat),.slice ro n rc])) rfl (by kernel_rfl) (by kernel_rfl) (by kernel_rfl) (fun _ _ _ h=>h) (Or.inl ⟨by rfl,?_⟩) (by assumption) ?_
     ·(intro w hSw;(try dsimp only at hSw);go_simp)
     simp only [Act.put,List.setIfInBounds_toArray,List.set_cons_zero,List.set_cons_succ]
     refine wpAnyH_take (i:=1) (oi:={ dst:=some 48,op:=Op.move (Operand.tmp 7),type:=3,pos := "law.go:122",after:=#[],guard:=none }) (v:=(Value.int .i64 (j:Nat))) rfl (by kernel_rfl) (by kernel_rfl) (by kernel_rfl) (fun _ _ _ h=>h) (Or.inl ⟨by rfl,?_⟩) (by assumption) ?_
     ·(intro w hSw;(try dsimp only at hSw);go_simp)
     simp only [Act.put,List.setIfInBounds_toArray,List.set_cons_zero,List.set_cons_succ]
     refine wpAnyH_take (i:=3) (oi:={ dst:=some 50,op:=Op.load 52 (Operand.tmp 8),type:=52,pos := "law.go:122",after:=#[],guard:=none }) (v:=(Value.agg #[.bool n4,.slice a4 l4 c4,.int .i64 X4])) rfl (by kernel_rfl) (by kernel_rfl) (by kernel_rfl) (fun _ _ _ h=>h) (Or.inl ⟨by rfl,?_⟩) (by assumption) ?_
     ·(intro w hSw;(try dsimp only at hSw);go_simp)
     simp only [Act.put,List.setIfInBounds_toArray,List.set_cons_zero,List.set_cons_succ]
     refine wpAnyH_ready (rs:=[2]) (by kernel_rfl) (by simp) ?_
     refine AllReadyH.cons (o:={ dst:=some 49,op:=Op.call { callee:=Callee.value (Operand.func 23),args:=#[Operand.tmp 47,Operand.tmp 48],argTypes:=#[24,3] },type:=52,pos := "law.go:122",after:=#[{ on:=0,ground:=Ground.data },{ on:=1,ground:=Ground.data }],guard:=none }) rfl (fun K0 hK0=>?_) AllReadyH.nil
     go_simp
     refine (uH KS _ ro rc j (uH hN) (by omega) (by omega)).mono ?_
     rintro e w8 ⟨v5,rfl,hv,hb⟩
     have V5:=hide hv
     replace hX:=hide ((uH hX).all hb)
     replace XP:=hide ((uH XP).all hb)
     replace V4:=hide ((uH V4).below hb)
     replace hB:=hide ((uH hB).trans (hb.mono (uH hB).size))
     replace hN:=hide ((uH hN).below hb)
     clear hv hb
     go_wp2_with fail
     refine hK0.out _ _ ?_ (fun hHeld=>?_)
     ·exact ⟨⟨(uH hX).c0,(uH hX).c1,(uH hX).c2⟩,(uH XP).c0,(uH XP).c1,(uH XP).c2⟩
     clear hK0 K0
     refine wpAnyH_ready (rs:=[4]) (by kernel_rfl) (by simp) ?_
     refine AllReadyH.cons (o:={ dst:=some 51,op:=Op.call { callee:=Callee.value (Operand.func 25),args:=#[Operand.tmp 49,Operand.tmp 50],argTypes:=#[52,52] },type:=3,pos := "law.go:122",after:=#[{ on:=2,ground:=Ground.data },{ on:=3,ground:=Ground.data },{ on:=2,ground:=Ground.chain }],guard:=none }) rfl (fun K0 hK0=>?_) AllReadyH.nil
     go_simp
     refine (uH KM _ _ _ (uH V5) (uH V4)).mono ?_
     rintro e w9 ⟨rfl,hb⟩
     replace hX:=hide ((uH hX).all hb)
     replace XP:=hide ((uH XP).all hb)
     replace hB:=hide ((uH hB).trans (hb.mono (uH hB).size))
     replace hN:=hide ((uH hN).below hb)
     clear hb V5 V4
     go_wp2_with fail
     refine hK0.out _ _ ?_ (fun hHeld=>?_)
     ·exact ⟨⟨(uH hX).c0,(uH hX).c1,(uH hX).c2⟩,(uH XP).c0,(uH XP).c1,(uH XP).c2⟩
     clear hK0 K0
     refine wpAnyH_take (i:=5) (oi:={ dst:=some 52,op:=Op.binOp BinOp.gtr 3 (Operand.tmp 51) (Operand.const (Value.int IntKind.i64 0)) 3,type:=4,pos := "law.go:122",after:=#[{ on:=4,ground:=Ground.data }],guard:=none }) (v:=(Value.bool false)) rfl (by kernel_rfl) (by kernel_rfl) (by kernel_rfl) (fun _ _ _ h=>h) (Or.inl ⟨by rfl,?_⟩) (by assumption) ?_
     ·(intro w hSw;(try dsimp only at hSw);go_simp)
     simp only [Act.put,List.setIfInBounds_toArray,List.set_cons_zero,List.set_cons_succ]
     refine wpAnyH_done (by kernel_rfl) ?_ _
     clear XP
     go_wp2_with fail
     go_round
     case rel=>exact ⟨j+1,by omega,by omega,by omega,by go_num,hX,hN,hB⟩
     case measure=>first | (simp [intOf];done) | (simp [intOf];omega)
   ·have ba:=below_alloc9 (W0.drew) (.cells #[.bool false,.slice none 0 0,.int .i64 0] 52)
    have XB:=hide (show Box3 ((W0.drew).alloc (.cells #[.bool false,.slice none 0 0,.int .i64 0] 52)) W0.heap.size (.bool false) (.slice none 0 0) (.int .i64 0) from Box3.new (W0.drew) _ _ _)
    have HGL:=hide (show w.heap.size≤W0.heap.size from (uH hB).size)
    replace hX:=hide ((uH hX).all ba)
    replace hB:=hide ((uH hB).trans (ba.mono (uH hB).size))
    replace hN:=hide ((uH hN).below ba)
    clear ba
    go_simp
    refine hK0.out _ _ ?_ (fun hHeld=>?_)
    ·exact ⟨(uH hX).c0,(uH hX).c1,(uH hX).c2⟩
    clear hK0 K0
    refine wpAnyH_ready (rs:=[3]) (by kernel_rfl) (by simp) ?_
    refine AllReadyH.cons (o:={ dst:=some 42,op:=Op.call { callee:=Callee.value (Operand.func 23),args:=#[Operand.tmp 39,Operand.tmp 41],argTypes:=#[24,3] },type:=52,pos := "law.go:121",after:=#[{ on:=0,ground:=Ground.data },{ on:=2,ground:=Ground.data }],guard:=none }) rfl (fun K0 hK0=>?_) AllReadyH.nil
    go_simp
    refine (uH KS _ ro rc (j - 1) (uH hN) (by omega) (by omega)).mono ?_
    rintro e w3 ⟨v1,rfl,hv,hb⟩
    have V1:=hide hv
    replace hX:=hide ((uH hX).all hb)
    replace hB:=hide ((uH hB).trans (hb.mono (uH hB).size))
    replace hN:=hide ((uH hN).below hb)
    replace XB:=hide ((uH XB).all hb)
    clear hv hb
    go_wp2_with fail
    refine hK0.out _ _ ?_ (fun hHeld=>?_)
    ·exact ⟨(uH hX).c0,(uH hX).c1,(uH hX).c2⟩
    clear hK0 K0
    refine wpAnyH_ready (rs:=[5]) (by kernel_rfl) (by simp) ?_
    refine AllReadyH.cons (o:={ dst:=some 44,op:=Op.call { callee:=Callee.value (Operand.func 23),args:=#[Operand.tmp 43,Operand.const (Value.int IntKind.i64 0)],argTypes:=#[24,3] },type:=52,pos := "law.go:121",after:=#[{ on:=4,ground:=Ground.data },{ on:=3,ground:=Ground.chain }],guard:=none }) rfl (fun K0 hK0=>?_) AllReadyH.nil
    go_simp
    refine (uH KS _ ro rc 0 (uH hN) (by omega) (by omega)).mono ?_
    rintro e w5 ⟨v2,rfl,hv,hb⟩
    have V2:=hide hv
    replace hX:=hide ((uH hX).all hb)
    replace hB:=hide ((uH hB).trans (hb.mono (uH hB).size))
    replace hN:=hide ((uH hN).below hb)
    replace V1:=hide ((uH V1).below hb)
    replace XB:=hide ((uH XB).all hb)
    clear hv hb
    go_wp2_with fail
    refine hK0.out _ _ ?_ (fun hHeld=>?_)
    ·exact ⟨(uH hX).c0,(uH hX).c1,(uH hX).c2⟩
    clear hK0 K0
    refine wpAnyH_ready (rs:=[6]) (by kernel_rfl) (by simp) ?_
    refine AllReadyH.cons (o:={ dst:=some 45,op:=Op.call { callee:=Callee.value (Operand.func 24),args:=#[Operand.tmp 44,Operand.const (Value.int IntKind.i64 (-30))],argTypes:=#[52,3] },type:=52,pos := "law.go:121",after:=#[{ on:=5,ground:=Ground.data },{ on:=5,ground:=Ground.chain }],guard:=none }) rfl (fun K0 hK0=>?_) AllReadyH.nil
    go_simp
    refine (uH KC _ _ (by omega) (by omega) (uH V2)).mono ?_
    rintro e w6 ⟨v3,rfl,hv,hb⟩
    have V3:=hide hv
    replace hX:=hide ((uH hX).all hb)
    replace hB:=hide ((uH hB).trans (hb.mono (uH hB).size))
    replace hN:=hide ((uH hN).below hb)
    replace V1:=hide ((uH V1).below hb)
    replace XB:=hide ((uH XB).all hb)
    clear hv hb V2
    go_wp2_with fail
    refine hK0.out _ _ ?_ (fun hHeld=>?_)
    ·exact ⟨(uH hX).c0,(uH hX).c1,(uH hX).c2⟩
    clear hK0 K0
    refine wpAnyH_ready (rs:=[7]) (by kernel_rfl) (by simp) ?_
    refine AllReadyH.cons (o:={ dst:=some 46,op:=Op.call { callee:=Callee.value (Operand.func 22),args:=#[Operand.tmp 42,Operand.tmp 45],argTypes:=#[52,52] },type:=52,pos := "law.go:121",after:=#[{ on:=3,ground:=Ground.data },{ on:=6,ground:=Ground.data },{ on:=6,ground:=Ground.chain }],guard:=none }) rfl (fun K0 hK0=>?_) AllReadyH.nil
    go_simp
    refine (uH KA _ _ _ (uH V1) (uH V3)).mono ?_
    rintro e w7 ⟨v4,rfl,hv,hb⟩
    obtain ⟨n4,a4,c4,L4,rfl,i4⟩:=hv
    have V4:=hide (show IsLv w7 (.agg #[.bool n4,.slice a4 L4.length c4,.int .i64 (oE (D (j - 1) * 2 ^ 30+D 0) (-2178))]) (-2178) (D (j - 1) * 2 ^ 30+D 0) from ⟨n4,a4,c4,L4,rfl,i4⟩)
    clear i4
    replace hX:=hide ((uH hX).all hb)
    replace hB:=hide ((uH hB).trans (hb.mono (uH hB).size))
    replace hN:=hide ((uH hN).below hb)
    replace XB:=hide ((uH XB).all hb)
    clear hb V1 V3
    generalize L4.length = l4 at *
    generalize oE (D (j - 1) * 2 ^ 30+D 0) (-2178) = X4 at *
    go_wp2_with fail
    refine hK0.out _ _ ?_ (fun hHeld=>?_)
    ·exact ⟨(uH hX).c0,(uH hX).c1,(uH hX).c2⟩
    clear hK0 K0
    refine wpAnyH_ready (rs:=[9]) (by kernel_rfl) (by simp) ?_
    refine AllReadyH.cons (o:={ dst:=none,op:=Op.store 52 (Operand.tmp 8) (Operand.tmp 46),type:=0,pos := "law.go:121",after:=#[{ on:=8,ground:=Ground.data },{ on:=7,ground:=Ground.data },{ on:=7,ground:=Ground.chain },{ on:=0,ground:=Ground.phase },{ on:=1,ground:=Ground.phase },{ on:=2,ground:=Ground.phase },{ on:=3,ground:=Ground.phase },{ on:=4,ground:=Ground.phase },{ on:=5,ground:=Ground.phase },{ on:=6,ground:=Ground.phase },{ on:=7,ground:=Ground.phase },{ on:=8,ground:=Ground.phase }],guard:=none }) rfl (fun K0 hK0=>?_) AllReadyH.nil
    have xb:=uH XB
    have q0:=xb.c0;have q1:=xb.c1;have q2:=xb.c2
    have f0:=xb.free 0;have f1:=xb.free 1;have f2:=xb.free 2
    have hne:rb ≠ W0.heap.size:=fun e=>BoxM.not3 (uH hX) (e ▸ xb)
    have XP:=hide (xb.put (.bool n4) (.slice a4 l4 c4) (.int .i64 X4))
    have VP:=hide (show IsLv _ _ (-2178) (D (j - 1) * 2 ^ 30+D 0) from IsDy.put3 (uH V4) xb (.bool n4) (.slice a4 l4 c4) (.int .i64 X4))
    have NP:=hide (bits_putD (uH hN) xb (.bool n4) (.slice a4 l4 c4) (.int .i64 X4))
    have XN:=hide ((uH hX).three14 hne (.bool n4) (.slice a4 l4 c4) (.int .i64 X4))
    have BN:=hide (below_put3 (uH hB) (uH HGL) (.bool n4) (.slice a4 l4 c4) (.int .i64 X4))
    clear xb hX hB hN V4 XB HGL
    go_simp
    clear q0 q1 q2 f0 f1 f2 hne
    refine hK0.out _ _ ?_ (fun hHeld=>?_)
    ·exact ⟨(uH XN).c0,(uH XN).c1,(uH XN).c2⟩
    clear hK0 K0
    refine wpAnyH_done (by kernel_rfl) ?_ _
    go_wp2_with fail
    refine at_world (fun W=>Box3 W W0.heap.size (.bool n4) (.slice a4 l4 c4) (.int .i64 X4)∧IsLv W (.agg #[.bool n4,.slice a4 l4 c4,.int .i64 X4]) (-2178) (D (j - 1) * 2 ^ 30+D 0)∧BitsAt W ro rc (mxL R)∧BoxM W rb (.int .i64 (r:Nat)) (.int .i64 (c:Nat)) (.slice ro n rc)∧Below w.heap.size w W) ⟨uH XP,uH VP,uH NP,uH XN,uH BN⟩ ?_
    clear XP VP NP XN BN
    rintro W1 ⟨xp,vp,np,xn,bn⟩
    have hd:=(Below.refl W1.heap.size W1).drew
    have XP:=hide (xp.all hd);have V4:=hide (IsLv.below vp hd);have hN:=hide (np.below hd);have hX:=hide (xn.all hd);have hB:=hide (bn.trans (hd.mono bn.size))
    clear xp vp np xn bn hd
    generalize W0.heap.size = g at *
    refine wp_region_held_drew (S:=(fun w'=>(w'.cell? ⟨rb,0,none⟩ = some (.int .i64 (r:Nat))∧w'.cell? ⟨rb,1,none⟩ = some (.int .i64 (c:Nat))∧w'.cell? ⟨rb,2,none⟩ = some (.slice ro n rc))∧w'.cell? ⟨g,0,none⟩ = some (.bool n4)∧w'.cell? ⟨g,1,none⟩ = some (.slice a4 l4 c4)∧w'.cell? ⟨g,2,none⟩ = some (.int .i64 X4))) (by kernel_rfl) ?_ (fun hHeld=>?_)
    ·exact ⟨⟨(uH hX).c0,(uH hX).c1,(uH hX).c2⟩,(uH XP).c0,(uH XP).c1,(uH XP).c2⟩
    refine wpAnyH_take (i:=0) (oi:={ dst:=some 47,op:=Op.load 24 (Operand.tmp 4),type:=24,pos := "law.go:122",after:=#[],guard:=none }) (v:=(Value.agg #[.int .i64 (r:Nat),.int .i64 (c:Nat),.slice ro n rc])) rfl (by kernel_rfl) (by kernel_rfl) (by kernel_rfl) (fun _ _ _ h=>h) (Or.inl ⟨by rfl,?_⟩) (by assumption) ?_
    ·(intro w hSw;(try dsimp only at hSw);go_simp)
    simp only [Act.put,List.setIfInBounds_toArray,List.set_cons_zero,List.set_cons_succ]
    refine wpAnyH_take (i:=1) (oi:={ dst:=some 48,op:=Op.move (Operand.tmp 7),type:=3,pos := "law.go:122",after:=#[],guard:=none }) (v:=(Value.int .i64 (j:Nat))) rfl (by kernel_rfl) (by kernel_rfl) (by kernel_rfl) (fun _ _ _ h=>h) (Or.inl ⟨by rfl,?_⟩) (by assumption) ?_
    ·(intro w hSw;(try dsimp only at hSw);go_simp)
    simp only [Act.put,List.setIfInBounds_toArray,List.set_cons_zero,List.set_cons_succ]
    refine wpAnyH_take (i:=3) (oi:={ dst:=some 50,op:=Op.load 52 (Operand.tmp 8),type:=52,pos := "law.go:122",after:=#[],guard:=none }) (v:=(Value.agg #[.bool n4,.slice a4 l4 c4,.int .i64 X4])) rfl (by kernel_rfl) (by kernel_rfl) (by kernel_rfl) (fun _ _ _ h=>h) (Or.inl ⟨by rfl,?_⟩) (by assumption) ?_
    ·(intro w hSw;(try dsimp only at hSw);go_simp)
    simp only [Act.put,List.setIfInBounds_toArray,List.set_cons_zero,List.set_cons_succ]
    refine wpAnyH_ready (rs:=[2]) (by kernel_rfl) (by simp) ?_
    refine AllReadyH.cons (o:={ dst:=some 49,op:=Op.call { callee:=Callee.value (Operand.func 23),args:=#[Operand.tmp 47,Operand.tmp 48],argTypes:=#[24,3] },type:=52,pos := "law.go:122",after:=#[{ on:=0,ground:=Ground.data },{ on:=1,ground:=Ground.data }],guard:=none }) rfl (fun K0 hK0=>?_) AllReadyH.nil
    go_simp
    refine (uH KS _ ro rc j (uH hN) (by omega) (by omega)).mono ?_
    rintro e w8 ⟨v5,rfl,hv,hb⟩
    have V5:=hide hv
    replace hX:=hide ((uH hX).all hb)
    replace XP:=hide ((uH XP).all hb)
    replace V4:=hide ((uH V4).below hb)
    replace hB:=hide ((uH hB).trans (hb.mono (uH hB).size))
    replace hN:=hide ((uH hN).below hb)
    clear hv hb
    go_wp2_with fail
    refine hK0.out _ _ ?_ (fun hHeld=>?_)
    ·exact ⟨⟨(uH hX).c0,(uH hX).c1,(uH hX).c2⟩,(uH XP).c0,(uH XP).c1,(uH XP).c2⟩
    clear hK0 K0
    refine wpAnyH_ready (rs:=[4]) (by kernel_rfl) (by simp) ?_
    refine AllReadyH.cons (o:={ dst:=some 51,op:=Op.call { callee:=Callee.value (Operand.func 25),args:=#[Operand.tmp 49,Operand.tmp 50],argTypes:=#[52,52] },type:=3,pos := "law.go:122",after:=#[{ on:=2,ground:=Ground.data },{ on:=3,ground:=Ground.data },{ on:=2,ground:=Ground.chain }],guard:=none }) rfl (fun K0 hK0=>?_) AllReadyH.nil
    go_simp
    refine (uH KM _ _ _ (uH V5) (uH V4)).mono ?_
    rintro e w9 ⟨rfl,hb⟩
    replace hX:=hide ((uH hX).all hb)
    replace XP:=hide ((uH XP).all hb)
    replace hB:=hide ((uH hB).trans (hb.mono (uH hB).size))
    replace hN:=hide ((uH hN).below hb)
    clear hb V5 V4
    go_wp2_with fail
    refine hK0.out _ _ ?_ (fun hHeld=>?_)
    ·exact ⟨⟨(uH hX).c0,(uH hX).c1,(uH hX).c2⟩,(uH XP).c0,(uH XP).c1,(uH XP).c2⟩
    clear hK0 K0
    refine wpAnyH_take (i:=5) (oi:={ dst:=some 52,op:=Op.binOp BinOp.gtr 3 (Operand.tmp 51) (Operand.const (Value.int IntKind.i64 0)) 3,type:=4,pos := "law.go:122",after:=#[{ on:=4,ground:=Ground.data }],guard:=none }) (v:=(Value.bool false)) rfl (by kernel_rfl) (by kernel_rfl) (by kernel_rfl) (fun _ _ _ h=>h) (Or.inl ⟨by rfl,?_⟩) (by assumption) ?_
    ·(intro w hSw;(try dsimp only at hSw);go_simp)
    simp only [Act.put,List.setIfInBounds_toArray,List.set_cons_zero,List.set_cons_succ]
    refine wpAnyH_done (by kernel_rfl) ?_ _
    clear XP
    go_wp2_with fail
    go_round
    case rel=>exact ⟨j+1,by omega,by omega,by omega,by go_num,hX,hN,hB⟩
    case measure=>first | (simp [intOf];done) | (simp [intOf];omega)
  ·have hout:(r:Int)≤(j:Int) ∨ ((j:Int) < (r:Int)∧(c:Int)≤(j:Int)):=by omega
   rcases hout with h1 | ⟨h1,h2⟩
   all_goals
    go_wp2_with fail
    refine (uH KZ _ (uH hB)).mono ?_
    rintro e w5 ⟨rfl,hb⟩
    replace hB:=hide ((uH hB).trans (hb.mono (uH hB).size))
    clear hb
    go_wp2_with fail
    go_ret
    exact ⟨rfl,uH hB⟩
end Go.Proofs.YtnnfjeieennffaaGreatDoor
namespace Go.Proofs.YtnnfjeieennffaaGreatDoor
open Go.RowKit
theorem pivot_awake_any (w:World) (hT:Tab w):∀ w',Below w.heap.size w w'→Calls Tryz.prog 14 #[] w' fun e w''=>e = .returned (.bool true)∧Below w'.heap.size w' w'' :=
 pivot_awake w (fun w' ao cap r c S hb h hf hk=>pFactor_yes r c cap ao S w' h hf hk (hT.all hb))
end Go.Proofs.YtnnfjeieennffaaGreatDoor
namespace Go.Proofs.YtnnfjeieennffaaGreatDoor
open Go.RowKit
theorem topn_above (K:Int) (xs:List Nat) (hl:xs.length≤64) (h:TopV K xs) (h0:bgF 0 xs ≠ 0) (hk:eX (bgF 0 xs)≤900) :
  fFin (nrV xs) = true∧ab (fQ (nrV xs))≤17 * p2 (eX (bgF 0 xs))+p2 (-1074):=by
 obtain ⟨k,ek⟩:∃ k,eX (bgF 0 xs) = k:=⟨_,rfl⟩
 obtain ⟨s,es⟩:∃ s,ssV k 0 xs = s:=⟨_,rfl⟩
 obtain ⟨b1,b2,b3,b4,b5,b6,b7,b8,y,hy,b9,b10⟩:=top_big K xs h h0
 rw [ek] at b8 b10 hk ⊢
 have hn:nrV xs = xV (sV s) k:=by
  unfold nrV
  rw [if_neg (by rw [b2];simp [h0]),ek,es]
 have T1:1≤sqQ k xs:=by have:=sqQ_mem k xs y hy;grind
 have hl2:(xs.length:Rat)≤64:=Rat.natCast_le_natCast.2 hl
 have T2:sqQ k xs≤256:=by have:=sqQ_le k xs b8;grind
 have hlG:=Rat.mul_nonneg (show 0≤64 - (xs.length:Rat) by grind) (show 0≤sqQ k xs by grind)
 have z0:fQ 0 = 0:=fQ_nought 0 (by decide)
 obtain ⟨e1,e2,e3⟩:=ss_err k (sqQ k xs) T1 T2 xs 0 0 0 (fun x hx=>⟨(h.1 x hx).1,(h.1 x hx).2,b8 x hx⟩) (by decide) (by decide) (by grind) (by grind) (by rw [z0];unfold ab;grind)
 rw [es] at e1 e2 e3
 have e4:9007199254740992 * ab (fQ s - sqQ k xs)≤130 * sqQ k xs:=by
  have:(0:Rat)+sqQ k xs = sqQ k xs:=Rat.zero_add _
  rw [this] at e3
  grind
 have l:=le_ab (fQ s - sqQ k xs)
 have s1:1≤2 * fQ s:=by grind
 have k0:fK s ≠ 0:=fun e=>by
  have:=fQ_nought s e
  grind
 obtain ⟨r1,r2,r3,r4,r5,r6,r7⟩:=sqrt_err s e1 k0 e2
 have r8:1≤2 * fQ (sV s):=by
  rcases Rat.le_total (a:=1) (b:=2 * fQ (sV s)) with g | g
  ·exact g
  ·have:=Rat.mul_nonneg (show 0≤1 - 2 * fQ (sV s) by grind) (show 0≤1+2 * fQ (sV s) by grind)
   grind
 have r9:fQ (sV s)≤17:=by
  rcases Rat.le_total (a:=fQ (sV s)) (b:=17) with g | g
  ·exact g
  ·have:=Rat.mul_nonneg (show 0≤fQ (sV s) - 17 by grind) (show 0≤fQ (sV s)+17 by grind)
   grind
 have hpk:=p2_pos k
 have x1:ab (fQ (sV s)) * p2 k < p2 1023:=by
  rw [ab_pos r5]
  have m1:=Rat.mul_le_mul_of_nonneg_left r9 (Rat.le_of_lt hpk)
  have m2:=p2_mono (show k+1+1+1+1+1≤1023 by omega)
  simp only [p2_succ] at m2
  grind
 have hf:=scale_fin (sV s) k r3 r1 x1
 rw [hn]
 refine ⟨hf,?_⟩
 have hp:=p2_pos (-1074)
 have m1:=Rat.mul_le_mul_of_nonneg_left r9 (Rat.le_of_lt hpk)
 have q0:=Rat.mul_nonneg r5 (Rat.le_of_lt hpk)
 rcases scale_err (sV s) k r3 r1 hf with e | ⟨_,_,e⟩
 ·rw [e,ab_pos q0]
  grind
 ·have l1:=le_ab (fQ (xV (sV s) k) - fQ (sV s) * p2 k)
  have t:=ab_le (x:=fQ (xV (sV s) k)) (y:=ab (fQ (xV (sV s) k) - fQ (sV s) * p2 k)+fQ (sV s) * p2 k) (by grind) (by grind)
  generalize ab (fQ (xV (sV s) k) - fQ (sV s) * p2 k) = z at *
  grind
theorem p2_lt_of {a b:Int} (h:p2 a≤p2 b):a≤b:=by
 rcases Int.lt_or_le b a with g | g
 ·exfalso
  have k:=p2_mono (show b+1≤a by omega)
  rw [p2_succ] at k
  have:=p2_pos b
  grind
 ·exact g
end Go.Proofs.YtnnfjeieennffaaGreatDoor
