/- Part 37 of the texts. -/
import Derived.Test.YtnnfjeieennffaaGreatDoorPartb34
import Derived.Test.YtnnfjeieennffaaGreatDoorPartb35
import Derived.Test.YtnnfjeieennffaaGreatDoorPartb36
import Derived.Test.YtnnfjeieennffaaGreatDoorPartb25
import Derived.Test.YtnnfjeieennffaaGreatDoorChecked
import Derived.Test.YtnnfjeieennffaaGreatDoorPartb02
import Derived.ProofKit
import Derived.SizedLaws
import Derived.Lib.SmallJoins
set_option maxHeartbeats 8000000
set_option maxRecDepth 20000
namespace Go.Proofs.YtnnfjeieennffaaGreatDoor
open Go.RowKit
theorem mx_inf (m r:Nat) (hm:m < 9223372036854775808) (hr:r < 9223372036854775808) (h:9218868437227405312≤m ∨ 9218868437227405312≤r):9218868437227405312≤mx m r∧mx m r < 9223372036854775808:=by
 obtain ⟨a1,a2,a3⟩:=mag_fZ m hm
 obtain ⟨b1,b2,b3⟩:=mag_fZ r hr
 unfold mx
 split
 ·decide
 ·rw [a1,b1]
  rcases Nat.lt_or_ge m r with g | g
  ·have:=rv8_lt g
   rw [if_pos (by omega)]
   omega
  ·have:=rv_mono g
   rw [if_neg (by omega)]
   omega
theorem mx_lt16 (m r:Nat) (hm:m < 9223372036854775808) (hr:r < 9223372036854775808):mx m r < 9223372036854775808:=by
 unfold mx
 repeat' split
 ·decide
 ·exact hr
 ·exact hm
theorem bgF_big:∀ (xs:List Nat) (m:Nat),m < 9223372036854775808→(9218868437227405312≤m ∨ ∃ x ∈ xs,fFin x = false)→9218868437227405312≤bgF m xs∧bgF m xs < 9223372036854775808:=by
 intro xs
 induction xs with
 | nil =>
  intro m hm h
  rcases h with h | ⟨x,hx,_⟩
  ·exact ⟨h,hm⟩
  ·cases hx
 | cons x xs ih =>
  intro m hm h
  have hr:=fR_lt x
  show 9218868437227405312≤bgF (mx m (fR x)) xs∧bgF (mx m (fR x)) xs < 9223372036854775808
  have hl:=mx_lt16 m (fR x) hm (by omega)
  refine ih _ hl ?_
  rcases h with h | ⟨y,hy,hf⟩
  ·exact .inl (mx_inf m (fR x) hm (by omega) (.inl h)).1
  ·rcases List.mem_cons.1 hy with e | hy
   ·subst e
    refine .inl (mx_inf m _ hm (by omega) (.inr ?_)).1
    rcases Nat.lt_or_ge (fR y) 9218868437227405312 with g | g
    ·rw [(fK_rungs y).2.2.2 g] at hf;cases hf
    ·exact g
   ·exact .inr ⟨y,hy,hf⟩
theorem nr_fins (xs:List Nat) (h:fFin (nrV xs) = true):∀ x ∈ xs,fFin x = true:=by
 intro x hx
 cases hf:fFin x with
 | true=>rfl
 | false =>
  exfalso
  obtain ⟨b1,b2⟩:=bgF_big xs 0 (by decide) (.inr ⟨x,hx,hf⟩)
  obtain ⟨a1,a2,a3⟩:=mag_fZ (bgF 0 xs) b2
  have hb:fFin (bgF 0 xs) = false:=by
   cases hq:fFin (bgF 0 xs) with
   | false=>rfl
   | true=>have:=fR_fin _ hq;omega
  have e:nrV xs = bgF 0 xs:=by unfold nrV;rw [if_pos (.inr hb)]
  rw [e,hb] at h
  cases h
theorem top_all (xs:List Nat) (hx:∀ x ∈ xs,x < 18446744073709551616∧fFin x = true):TopV 5000 xs:=by
 refine ⟨hx,.inr ?_⟩
 obtain ⟨g1,_⟩:=bgF_fin xs 0 (by decide) (fun x h=>(hx x h).2)
 have:=eX_range (bgF 0 xs) (by omega)
 omega
theorem nr_sign (xs:List Nat) (hl:xs.length≤64) (hx:∀ x ∈ xs,x < 18446744073709551616) (h:fFin (nrV xs) = true):fS (nrV xs) = false:=by
 have hf:=nr_fins xs h
 have hT:=top_all xs (fun x h=>⟨hx x h,hf x h⟩)
 by_cases h0:bgF 0 xs = 0
 ·have e:nrV xs = 0:=by unfold nrV;rw [if_pos (.inl h0)];exact h0
  rw [e];decide
 obtain ⟨k,ek⟩:∃ k,eX (bgF 0 xs) = k:=⟨_,rfl⟩
 obtain ⟨b1,b2,b3,b4,b5,b6,b7,b8,y,hy,b9,b10⟩:=top_big 5000 xs hT h0
 rw [ek] at b8 b10
 have hn:nrV xs = xV (sV (ssV k 0 xs)) k:=by
  unfold nrV
  rw [if_neg (by rw [b2];simp [h0]),ek]
 have T1:1≤sqQ k xs:=by have:=sqQ_mem k xs y hy;grind
 have hl2:(xs.length:Rat)≤64:=Rat.natCast_le_natCast.2 hl
 have T2:sqQ k xs≤256:=by have:=sqQ_le k xs b8;grind
 have hlG:=Rat.mul_nonneg (show 0≤64 - (xs.length:Rat) by grind) (show 0≤sqQ k xs by grind)
 have z0:fQ 0 = 0:=fQ_nought 0 (by decide)
 obtain ⟨e1,e2,e3⟩:=ss_err k (sqQ k xs) T1 T2 xs 0 0 0 (fun x hx2=>⟨hx x hx2,hf x hx2,b8 x hx2⟩) (by decide) (by decide) (by grind) (by grind) (by rw [z0];unfold ab;grind)
 generalize ssV k 0 xs = s at *
 have e4:9007199254740992 * ab (fQ s - sqQ k xs)≤130 * sqQ k xs:=by
  have:(0:Rat)+sqQ k xs = sqQ k xs:=Rat.zero_add _
  rw [this] at e3
  grind
 have l:=le_ab (fQ s - sqQ k xs)
 have s1:1≤2 * fQ s:=by grind
 have k0:fK s ≠ 0:=fun e=>by
  have:=fQ_nought s e
  grind
 obtain ⟨r1,r2,r3,r4,r5,r6,r7⟩:=sqrt_err s e1 k0 e2
 have q0:fK (sV s) ≠ 0:=fun e=>by
  have:=(fK_zero (sV s)).1 e
  omega
 rw [hn,xV_fin _ _ r1 q0]
 have hle:=rnd_le (fD (sV s)).natAbs (fX (sV s)+k)
 rw [fS_wrd _ _ (by omega)]
 exact r2
def kpM (N:Nat→Nat) (j:Nat):Nat→Nat
 | 0=>0
 | t+1=>if cO (kpM N j t) (N (j+t)) < 0 then N (j+t) else kpM N j t
def kpB (N:Nat→Nat) (j:Nat):Nat→Nat
 | 0=>j
 | t+1=>if cO (kpM N j t) (N (j+t)) < 0 then j+t else kpB N j t
theorem cO_eq {a b:Nat} (ha:fFin a = true) (hb:fFin b = true):cO a b < 0 ↔ fZ a < fZ b:=by
 have h1:=(fin_kind ha).2;have h2:=(fin_kind hb).2
 unfold cO cmpI
 rw [if_neg (fun e=>e.elim h1 h2)]
 repeat' split
 all_goals omega
theorem fZ_pos16 {a:Nat} (h:fS a = false):0≤fZ a:=by
 unfold fZ
 rw [h]
 exact Int.natCast_nonneg _
theorem kp_lt (N:Nat→Nat) (j:Nat) (h:∀ k,N k < 18446744073709551616):∀ t,kpM N j t < 18446744073709551616
 | 0=>by show 0 < 18446744073709551616;decide
 | t+1=>by
  show (if _ then _ else _) < _
  split
  ·exact h _
  ·exact kp_lt N j h t
theorem kp_gt (r c:Nat) (S:List Nat) (j:Nat) (hr:r≤6) (hS:∀ x ∈ S,x < 18446744073709551616):∀ t,gtK r c S j t = true →
  kpB (pvN r c S j) j t = gtA r c S j t∧fFin (kpM (pvN r c S j) j t) = true∧((t = 0∧kpM (pvN r c S j) j t = 0) ∨ (0 < t∧fFin (pvN r c S j (gtA r c S j t)) = true∧fZ (kpM (pvN r c S j) j t) = fZ (pvN r c S j (gtA r c S j t)))):=by
 intro t
 induction t with
 | zero=>intro _;exact ⟨rfl,(by show fFin 0 = true;decide),.inl ⟨rfl,rfl⟩⟩
 | succ t ih =>
  intro hk
  have hk':(gtK r c S j t && fFin (pvN r c S j (j+t))) = true:=hk
  rw [Bool.and_eq_true] at hk'
  obtain ⟨i1,i2,i3⟩:=ih hk'.1
  have hf:=hk'.2
  have hs:fS (pvN r c S j (j+t)) = false:=nr_sign _ (by rw [colL_len];omega) (colL_lt hS _ _ _ _) hf
  show (if cO (kpM _ j t) (pvN r c S j (j+t)) < 0 then j+t else kpB _ j t) = (if cO (pvN r c S j (gtA r c S j t)) (pvN r c S j (j+t)) < 0 then j+t else gtA r c S j t)∧fFin (if cO (kpM _ j t) (pvN r c S j (j+t)) < 0 then pvN r c S j (j+t) else kpM _ j t) = true ∧
   ((t+1 = 0∧_) ∨ (0 < t+1∧fFin (pvN r c S j (if cO (pvN r c S j (gtA r c S j t)) (pvN r c S j (j+t)) < 0 then j+t else gtA r c S j t)) = true∧fZ (if cO (kpM _ j t) (pvN r c S j (j+t)) < 0 then pvN r c S j (j+t) else kpM _ j t) = fZ (pvN r c S j (if cO (pvN r c S j (gtA r c S j t)) (pvN r c S j (j+t)) < 0 then j+t else gtA r c S j t))))
  have hp:=fZ_pos16 hs
  rcases i3 with ⟨rfl,e⟩ | ⟨ht,hg,hz⟩
  ·have eA:gtA r c S j 0 = j:=rfl
   have z0:fZ 0 = 0:=(mag_fZ 0 (by decide)).1.trans (by decide)
   rw [eA,e,i1,eA]
   rw [Nat.add_zero] at *
   have c2:¬ cO (pvN r c S j j) (pvN r c S j j) < 0:=fun q=>by have:=(cO_eq hf hf).1 q;omega
   rw [if_neg c2]
   by_cases c1:cO 0 (pvN r c S j j) < 0
   ·rw [if_pos c1,if_pos c1]
    exact ⟨rfl,hf,.inr ⟨by omega,hf,rfl⟩⟩
   ·rw [if_neg c1,if_neg c1]
    refine ⟨rfl,by decide,.inr ⟨by omega,hf,?_⟩⟩
    have:¬ fZ 0 < fZ (pvN r c S j j):=fun q=>c1 ((cO_eq (by decide) hf).2 q)
    omega
  ·have hc:cO (kpM (pvN r c S j) j t) (pvN r c S j (j+t)) < 0 ↔ cO (pvN r c S j (gtA r c S j t)) (pvN r c S j (j+t)) < 0:=by
    rw [cO_eq i2 hf,cO_eq hg hf,hz]
   by_cases c1:cO (kpM (pvN r c S j) j t) (pvN r c S j (j+t)) < 0
   ·rw [if_pos c1,if_pos c1,if_pos (hc.1 c1)]
    exact ⟨rfl,hf,.inr ⟨by omega,hf,rfl⟩⟩
   ·rw [if_neg c1,if_neg c1,if_neg (fun q=>c1 (hc.2 q))]
    exact ⟨i1,i2,.inr ⟨by omega,hg,hz⟩⟩
theorem gtK_all (r c:Nat) (S:List Nat) (j:Nat):∀ t d,gtK r c S j (t+d) = true→gtK r c S j t = true:=by
 intro t d
 induction d with
 | zero=>exact fun h=>h
 | succ d ih =>
  intro h
  have h':(gtK r c S j (t+d) && _) = true:=h
  rw [Bool.and_eq_true] at h'
  exact ih h'.1
theorem pgreatest_any (r c cap j:Nat) (ro:Option Addr) (S:List Nat) (w:World) (h:Mx w ro cap r c S) (hj:j < r) (hjc:j < c) (hT:Tab w) :
  Calls Tryz.prog 71 #[.agg #[.int .i64 r,.int .i64 c,.slice ro S.length cap],.int .i64 (j:Nat)] w fun e w'=>((pvF r c S j = true∧e = .returned (.tuple #[.int .i64 (pvA r c S j:Nat),.int .i64 0])) ∨ (pvF r c S j = false∧e = .returned (.tuple #[.int .i64 0,.int .i64 2])))∧Below w.heap.size w w':=by
 have r6:=h.2.2.1;have c6:=h.2.2.2
 have hN:∀ k,pvN r c S j k < 18446744073709551616:=fun k=>nrV_lt _
 have key:=greatest_of r c S.length cap j (r - j) (c - j) ro S (fun k=>colL c S j (r - j) k) (pvN r c S j) (kpB (pvN r c S j) j) (kpM (pvN r c S j) j) (fun k=>fFin (pvN r c S j k)) (gtK r c S j) w r6 c6 hj rfl (by omega) h.1 ⟨rfl,rfl⟩ rfl (fun t _=>⟨rfl,kp_lt _ _ hN t,hN _,?_⟩) (fun t ht hf=>?_) (fun w' k hk1 hk2 hb=>?_) (fun w' k bo d _ _ hb hx=>?_) (fun w' k _ _=>sfinite_any _ w' (hN k))
 ·refine key.mono ?_
  rintro e w' ⟨hor,hb⟩
  refine ⟨?_,hb⟩
  rcases hor with ⟨hk,rfl⟩ | ⟨hk,rfl⟩
  ·exact .inl ⟨hk,by rw [(kp_gt r c S j r6 h.1.nat _ hk).1];rfl⟩
  ·exact .inr ⟨hk,rfl⟩
 ·by_cases c1:cO (kpM (pvN r c S j) j t) (pvN r c S j (j+t)) < 0
  ·refine .inl ⟨c1,?_,?_⟩
   ·show (if _ then _ else _) = _;rw [if_pos c1]
   ·show (if _ then _ else _) = _;rw [if_pos c1]
  ·refine .inr ⟨c1,?_,?_⟩
   ·show (if _ then _ else _) = _;rw [if_neg c1]
   ·show (if _ then _ else _) = _;rw [if_neg c1]
 ·cases hz:gtK r c S j (c - j) with
  | false=>rfl
  | true =>
   have:=gtK_all r c S j (t+1) (c - j - (t+1)) (by rw [show t+1+(c - j - (t+1)) = c - j by omega];exact hz)
   rw [hf] at this;cases this
 ·have:=mPart_ok r c cap j k (r - j) 1 ro S w' ⟨hb,h.2.1,r6,c6⟩ (by omega) (by omega)
  refine this.mono ?_
  rintro e w'' ⟨v,rfl,⟨bo,d,rfl,hn,hx⟩,hb2⟩
  rw [pa_col] at hx ⊢
  rw [colL_len]
  exact ⟨bo,d,rfl,hx,hb2⟩
 ·have:=vNorm_ok bo d (mxL (colL c S j (r - j) k)) w' hx (by rw [mxL_len,colL_len];omega) (hT.all hb)
  rw [mxL_len,colL_len,nmV_nrV,toN_mxL] at this
  exact this
def swJ (r c:Nat) (S:List Nat) (j a i:Nat):List Nat:=mkM r c (fun p q=>elM c S p (if p < i then swI j a q else q))
theorem swJ_0 (r c:Nat) (S:List Nat) (j a:Nat) (h:S.length = r * c):swJ r c S j a 0 = S:=by
 conv=>rhs;rw [← mkM_of r c S h]
 exact mkM_congr (fun p q _ _=>by rw [if_neg (Nat.not_lt_zero p)];rfl)
theorem swJ_r (r c:Nat) (S:List Nat) {j a:Nat} (hj:j < c) (ha:a < c):swJ r c S j a r = swM r c S j a:=by
 conv=>rhs;rw [← mkM_of r c (swM r c S j a) (swM_len r c S j a)]
 refine mkM_congr (fun p q hp hq=>?_)
 rw [if_pos hp]
 exact (el_sw r c S hj ha hp hq).symm
theorem swJ_step (r c:Nat) (S:List Nat) {j a i:Nat} (hj:j < c) (ha:a < c) (hi:i < r):((swJ r c S j a i).set (i * c+j) ((swJ r c S j a i)[i * c+a]?.getD 0)).set (i * c+a) ((swJ r c S j a i)[i * c+j]?.getD 0) = swJ r c S j a (i+1):=by
 have e1:(swJ r c S j a i)[i * c+a]?.getD 0 = elM c S i a:=by
  unfold swJ
  rw [mkM_at r c _ hi ha,if_neg (Nat.lt_irrefl i)];rfl
 have e2:(swJ r c S j a i)[i * c+j]?.getD 0 = elM c S i j:=by
  unfold swJ
  rw [mkM_at r c _ hi hj,if_neg (Nat.lt_irrefl i)];rfl
 rw [e1,e2]
 unfold swJ
 rw [mkM_set r c _ _ hi hj,mkM_set r c _ _ hi ha]
 refine mkM_congr (fun p q hp hq=>?_)
 by_cases g1:p = i
 ·subst g1
  by_cases g2:q = a
  ·subst g2
   rw [if_pos ⟨rfl,rfl⟩,if_pos (Nat.lt_succ_self p)]
   unfold swI
   rw [if_pos rfl]
  ·rw [if_neg (fun e=>g2 e.2),if_pos (Nat.lt_succ_self p)]
   unfold swI
   rw [if_neg g2]
   by_cases g3:q = j
   ·subst g3
    rw [if_pos ⟨rfl,rfl⟩,if_pos rfl]
   ·rw [if_neg (fun e=>g3 e.2),if_neg g3,if_neg (Nat.lt_irrefl p)]
 ·rw [if_neg (fun e=>g1 e.1),if_neg (fun e=>g1 e.1)]
  by_cases g2:p < i
  ·rw [if_pos g2,if_pos (by omega)]
  ·rw [if_neg g2,if_neg (by omega)]
theorem chB_any (r c cap j a:Nat) (ro:Option Addr) (S:List Nat) (w:World) (h:Mx w ro cap r c S) (hj:j < c) (ha:a < c) :
  Calls Tryz.prog 72 #[.slice ro S.length cap,.int .i64 c,.int .i64 (j:Nat),.int .i64 (a:Nat)] w fun e w'=>∃ g,e = .returned (.slice (some ⟨g,0,none⟩) S.length S.length)∧w.heap.size≤g∧RowB w' g (swM r c S j a)∧Below w.heap.size w w':=by
 have r6:=h.2.2.1;have c6:=h.2.2.2;have h36:=h.small
 have key:=chB_of S.length c r j a cap ro (swJ r c S j a) (fun i=>i * c) w (by omega) (by omega) hj ha (by rw [swJ_0 r c S j a h.2.1];exact h.1) (fun i=>by rw [h.2.1];exact mkM_len _ _ _) ⟨Nat.zero_mul c,h.2.1.symm,fun i hi=>⟨by rw [Nat.add_mul,Nat.one_mul],by rw [h.2.1];exact Nat.mul_le_mul_right c hi,swJ_step r c S hj ha hi⟩⟩
 rw [swJ_r r c S hj ha] at key
 exact key
theorem chI_any (c j a g:Nat) (L:List Nat) (w:World) (h:RowI w g L) (hl:L.length = c) (hc:c≤6) (hs:∀ x ∈ L,x≤1000000) (hj:j < c) (ha:a < c) :
  Calls Tryz.prog 73 #[.slice (some ⟨g,0,none⟩) c c,.int .i64 c,.int .i64 (j:Nat),.int .i64 (a:Nat)] w fun e w'=>∃ g,e = .returned (.slice (some ⟨g,0,none⟩) c c)∧w.heap.size≤g∧RowI w' g (swL L j a)∧Below w.heap.size w w':=by
 have hi:=h.ints hs
 rw [hl] at hi
 refine chI_of c c 1 j a c (some ⟨g,0,none⟩) (fun i=>if i = 0 then L else swL L j a) (fun i=>i * c) w (by omega) (by omega) hj ha hi (fun i=>?_) ⟨Nat.zero_mul c,Nat.one_mul c,fun i hi=>?_⟩
 ·show (if i = 0 then L else swL L j a).length = c
  split
  ·exact hl
  ·rw [swL_len,hl]
 ·obtain rfl:i = 0:=by omega
  refine ⟨by omega,by omega,?_⟩
  rw [if_pos rfl,if_neg (by omega),Nat.zero_mul,Nat.zero_add,Nat.zero_add]
  unfold swL
  rw [List.getD_eq_getElem?_getD,List.getD_eq_getElem?_getD]
theorem down_any (r c cap j:Nat) (ro:Option Addr) (S:List Nat) (w:World) (h:Mx w ro cap r c S) (hj:j+1 < r) (hjc:j < c) (hT:Tab w) :
  Calls Tryz.prog 74 #[.agg #[.int .i64 r,.int .i64 c,.slice ro S.length cap],.int .i64 (j:Nat)] w fun e w'=>DnAns w w' (finL (qxL r c S j) && mrK (qxL r c S j)) r c S.length (r - j) (qrS r c S j) (mrV (qxL r c S j)) (mrT (qxL r c S j)) e∧Below w.heap.size w w':=by
 have hl:=h.2.1
 have r6:=h.2.2.1;have c6:=h.2.2.2
 have lX:(qxL r c S j).length = r - j:=colL_len _ _ _ _ _
 have lV:(mrV (qxL r c S j)).length = r - j:=by rw [mrV_len,lX]
 refine down_of r c S.length cap j (r - j) (mrT (qxL r c S j)) (mrB (qxL r c S j)) ro S (apM r c S j j (mrV (qxL r c S j)) (mrT (qxL r c S j))) (qrS r c S j) (qxL r c S j) (mrV (qxL r c S j)) _ w r6 (by omega) rfl h.1 (fun w' hb=>?_) (fun w' bo d ho hb hx=>?_) (fun w' bo d ho hb hx=>?_) (fun w' vo vc hb hp hv=>?_) (fun w' g hrow=>?_)
 ·refine (mPart_ok r c cap j j (r - j) 1 ro S w' ⟨hb,hl,r6,c6⟩ (by omega) (by omega)).mono ?_
  rintro e w'' ⟨v,rfl,⟨bo,d,rfl,hn,hx⟩,hb2⟩
  rw [pa_col] at hx ⊢
  rw [colL_len]
  exact ⟨bo,d,rfl,hx,hb2⟩
 ·rw [Bool.and_eq_true] at ho
  have:=hMake_ok bo d (mxL (qxL r c S j)) w' hx (by rw [mxL_len,lX];omega) (by rw [mxL_len,lX];omega) (by rw [mxL_len];exact ho.1) (by rw [toN_mxL];exact ho.2) (hT.all hb)
  rw [toN_mxL,mxL_len,lX] at this
  exact this
 ·cases hf:finL (qxL r c S j)
  ·have:=hMake_inf bo d (mxL (qxL r c S j)) w' hx (by rw [mxL_len,lX];omega) (by rw [mxL_len,lX];omega) (by rw [mxL_len];exact hf)
   rw [mxL_len,lX] at this
   refine this.mono ?_
   rintro e w'' ⟨so,cs,rfl,hb2⟩
   exact ⟨so,cs,4,rfl,.inr rfl,hb2⟩
  ·have hk:mrK (qxL r c S j) = false:=by
    have:=ho
    rw [hf,Bool.true_and] at this
    exact this
   have:=hMake_none bo d (mxL (qxL r c S j)) w' hx (by rw [mxL_len,lX];omega) (by rw [mxL_len,lX];omega) (by rw [mxL_len];exact hf) (by rw [toN_mxL];exact hk) (hT.all hb)
   rw [mxL_len,lX] at this
   refine this.mono ?_
   rintro e w'' ⟨so,cs,rfl,hb2⟩
   exact ⟨so,cs,2,rfl,.inl rfl,hb2⟩
 ·have:=hApply_row r c cap j j vc (mrT (qxL r c S j)) ro vo S (mrV (qxL r c S j)) w' ⟨hp,hl,r6,c6⟩ hv (by rw [lV];omega) (by omega) (mrT_lt _) (hT.all hb)
  rw [lV] at this
  refine this.mono ?_
  rintro e w'' ⟨g,rfl,hg,hr,hb2⟩
  exact ⟨g,rfl,by omega,hr,hb2⟩
 ·have:=settle_any r c j (mrB (qxL r c S j)) g _ w' r6 c6 (by omega) (by omega) (apM_len r c S j j (mrV (qxL r c S j)) (mrT (qxL r c S j))) hrow
  rw [apM_len,← hl] at this
  exact this
theorem colW (r c:Nat) (S:List Nat) {j:Nat} (hjr:j < r) (hjc:j < c):qxL r c (pvW r c S j) j = colL c S j (r - j) (pvA r c S j):=by
 unfold qxL colL
 refine List.map_congr_left (fun p hp=>?_)
 have:=List.mem_range.1 hp
 unfold pvW
 rw [el_sw r c S hjc (pvA_lt r c S hjc) (by omega) hjc]
 unfold swI
 split
 ·rename_i g;exact congrArg (elM c S (j+p)) g
 ·rw [if_pos rfl]
theorem gtK_at (r c:Nat) (S:List Nat) (j:Nat):∀ t,gtK r c S j t = true→∀ k,j≤k→k < j+t→fFin (pvN r c S j k) = true:=by
 intro t
 induction t with
 | zero=>intro _ k h1 h2;omega
 | succ t ih =>
  intro h k h1 h2
  have h':(gtK r c S j t && fFin (pvN r c S j (j+t))) = true:=h
  rw [Bool.and_eq_true] at h'
  by_cases g:k = j+t
  ·rw [g];exact h'.2
  ·exact ih h'.1 k h1 (by omega)
theorem finW (r c:Nat) (S:List Nat) {j:Nat} (hjr:j < r) (hjc:j < c) (h:pvF r c S j = true):finL (qxL r c (pvW r c S j) j) = true:=by
 rw [colW r c S hjr hjc]
 have:=nr_fins _ (gtK_at r c S j (c - j) h (pvA r c S j) (pvA_ge r c S j) (by have:=pvA_lt r c S hjc;omega))
 unfold finL
 rw [fnK_all]
 intro k hk
 rw [mxL_at]
 refine this _ ?_
 rw [List.getD_eq_getElem?_getD,List.getElem?_eq_getElem hk]
 exact List.getElem_mem hk
theorem pvK_all16 (r c:Nat) (S:List Nat):∀ m,pvK r c S m = true ↔ ∀ j,j < m→pvO r c (pvR r c S j) j = true:=by
 intro m
 induction m with
 | zero=>exact ⟨fun _ j hj=>absurd hj (Nat.not_lt_zero j),fun _=>rfl⟩
 | succ m ih =>
  show (pvK r c S m && pvO r c (pvR r c S m) m) = true ↔ _
  rw [Bool.and_eq_true,ih]
  constructor
  ·rintro ⟨h1,h2⟩ j hj
   by_cases g:j = m
   ·rw [g];exact h2
   ·exact h1 j (by omega)
  ·intro h
   exact ⟨fun j hj=>h j (by omega),h m (Nat.lt_succ_self m)⟩
theorem ptri_any (r c cap:Nat) (ao:Option Addr) (S:List Nat) (w:World) (h:Mx w ao cap r c S) (hT:Tab w) :
  Calls Tryz.prog 31 #[.agg #[.int .i64 r,.int .i64 c,.slice ao S.length cap]] w fun e w'=>TpAns w w' (pvK r c S (min c r)) r c S.length (qrN r c) (pfR r c S) (pfP r c S) (fun j=>mrV (pvX r c S j)) (fun j=>mrT (pvX r c S j)) e∧Below w.heap.size w w':=by
 have hl:=h.2.1
 have r6:=h.2.2.1;have c6:=h.2.2.2
 have lR:=fun j=>(pvR_len r c S hl j).trans hl.symm
 have lW:=fun j=>(pvW_len r c (pvR r c S j) j).trans hl.symm
 have hlt:=h.1.nat
 have hsm:∀ j,j≤c→∀ x ∈ pvP r c S j,x≤1000000:=fun j hj x hx=>by have:=pvP_small r c S hj x hx;omega
 refine ptri_of r c S.length cap (min c r) (qrN r c) ao (pvR r c S) (fun j=>pvW r c (pvR r c S j) j) (fun j=>mrV (pvX r c S j)) (pvP r c S) (fun j=>pvA r c (pvR r c S j) j) (fun j=>mrT (pvX r c S j)) (fun j=>pvF r c (pvR r c S j) j) (fun j=>finL (pvX r c S j) && mrK (pvX r c S j)) (pvK r c S (min c r)) w r6 c6 (by omega) (fun j=>by rw [qrN_lt];omega) (by unfold qrN;omega) lR lW (fun j=>by rw [mrV_len,pvX_len]) (fun j _=>pvW_lt (pvR_lt hlt j) j) (fun j _=>pvR_lt hlt (j+1)) (fun j hj hj2=>?_) rfl ?_ (fun w' hb=>?_) (fun w' j po pc hj hb hp=>?_) (fun w' j po pc hj hp=>?_) (fun w' j pg hj hp=>?_) (fun w' j g hj hj2 hb hp=>?_)
 ·show pvS r c (pvR r c S j) j = _
  unfold pvS
  rw [if_neg hj2]
 ·rw [pvK_all16]
  constructor
  ·intro q j hj
   have:=q j hj
   unfold pvO at this
   rw [Bool.and_eq_true] at this
   refine ⟨this.1,fun hj2=>?_⟩
   have h2:=this.2
   rw [decide_eq_false (by omega),Bool.false_or] at h2
   rw [show finL (pvX r c S j) = true from finW r c _ (by omega) (by omega) this.1,Bool.true_and]
   exact h2
  ·intro q j hj
   obtain ⟨q1,q2⟩:=q j hj
   unfold pvO
   rw [show pvF r c (pvR r c S j) j = true from q1,Bool.true_and]
   by_cases g:j+1 < r
   ·have:=q2 g
    rw [Bool.and_eq_true] at this
    rw [show mrK (qxL r c (pvW r c (pvR r c S j) j) j) = true from this.2,Bool.or_true]
   ·rw [decide_eq_true (by omega),Bool.true_or]
 ·refine (mPart_ok r c cap 0 0 r c ao S w' (h.below hb) (by omega) (by omega)).mono ?_
  rintro e w'' ⟨v,rfl,⟨po,pc,rfl,hn,hx⟩,hb2⟩
  have ps:paM c S 0 0 r c = S:=by
   conv=>rhs;rw [← mkM_of r c S hl]
   unfold paM
   refine mkM_congr (fun p q _ _=>?_)
   rw [Nat.zero_add,Nat.zero_add]
   rfl
  rw [ps] at hn hx ⊢
  exact ⟨po,pc,rfl,hn,hx,hb2⟩
 ·have:=pgreatest_any r c pc j po (pvR r c S j) w' ⟨hp,pvR_len r c S hl j,r6,c6⟩ (by omega) (by omega) (hT.all hb)
  rw [lR j] at this
  exact this
 ·have:=chB_any r c pc j (pvA r c (pvR r c S j) j) po (pvR r c S j) w' ⟨hp,pvR_len r c S hl j,r6,c6⟩ (by omega) (pvA_lt r c _ (by omega))
  rw [lR j] at this
  exact this
 ·exact chI_any c j (pvA r c (pvR r c S j) j) pg (pvP r c S j) w' hp (pvP_len r c S j) c6 (hsm j (by omega)) (by omega) (pvA_lt r c _ (by omega))
 ·have:=down_any r c S.length j (some ⟨g,0,none⟩) (pvW r c (pvR r c S j) j) w' ⟨hp,pvW_len r c _ _,r6,c6⟩ hj2 (by omega) (hT.all hb)
  rw [lW j] at this
  have e:pvR r c S (j+1) = qrS r c (pvW r c (pvR r c S j) j) j:=by
   show pvS r c (pvR r c S j) j = _
   unfold pvS
   rw [if_pos hj2]
  rw [e]
  exact this
theorem up_left (r:Nat) (X:Nat→List Nat) (K:Nat):∀ t d,finL (upQ r X K (t+d)) = true→finL (upQ r X K t) = true:=by
 intro t d
 induction d with
 | zero=>exact fun h=>h
 | succ d ih=>exact fun h=>ih (ap_left (upQ_len r X K (t+d)) _ _ _ _ h)
theorem pup_any (r c lc:Nat) (lo:Option Addr) (S:List Nat) (R:List Mr) (w:World) (hr:r≤6) (hl:OwnMt 0 w (.slice lo (qrN r c) lc) R) (hRl:R.length = qrN r c) (hRm:∀ k,k < qrN r c→(mrAt R k).V = mrV (pvX r c S k)∧(mrAt R k).tau = mrT (pvX r c S k)) (hT:Tab w) :
  Calls Tryz.prog 32 #[.int .i64 r,.slice lo (qrN r c) lc] w fun e w'=>∃ Q qo qc,(Q = pfQ r c S ∨ (fnK (mxL Q) (r * r) = false∧finL (pfQ r c S) = false))∧Q.length = r * r∧e = .returned (.agg #[.int .i64 r,.int .i64 r,.slice qo (r * r) qc])∧NewB w.heap.size qo (mxL Q)∧BitsAt w' qo qc (mxL Q)∧Below w.heap.size w w':=by
 have lV:∀ j,(mrV (pvX r c S j)).length = r - j:=fun j=>by rw [mrV_len,pvX_len]
 have hK:qrN r c≤6:=by unfold qrN;omega
 refine (upright_of r (r * r) (qrN r c) lc lo (fun j=>mrV (pvX r c S j)) (upQ r (pvX r c S) (qrN r c)) (fun j=>mrT (pvX r c S j)) R w (Nat.mul_le_mul hr hr) hK hl hRl hRm (upQ_len r _ _) lV ?_ ?_ (fun w' x hx=>sfinite_any x w' hx)).mono ?_
 ·intro w'
  refine (mEye_ok r w' hr).mono ?_
  rintro e w'' ⟨v,rfl,⟨qo,qc,rfl,hn,hb⟩,hb2⟩
  exact ⟨qo,qc,by rw [show (eyM r).length = r * r from mkM_len r r _],hn,hb,hb2⟩
 ·intro w' t j po pc vo vc ht hj hb hp hv
  have hj2:=(qrN_lt r c j).1 (by omega)
  have:=hApply_ok r r pc j 0 vc (mrT (pvX r c S j)) po vo (upQ r (pvX r c S) (qrN r c) t) (mrV (pvX r c S j)) w' ⟨hp,upQ_len r _ _ t,hr,hr⟩ hv (by rw [lV];omega) (by omega) (mrT_lt _) (hT.all hb)
  rw [upQ_len,lV] at this
  refine this.mono ?_
  rintro e w'' ⟨v,rfl,⟨qo,qc,rfl,hn,hx⟩,hb2⟩
  rw [apM_len]
  have e:apM r r (upQ r (pvX r c S) (qrN r c) t) j 0 (mrV (pvX r c S j)) (mrT (pvX r c S j)) = upQ r (pvX r c S) (qrN r c) (t+1):=by
   show _ = apM r r (upQ r (pvX r c S) (qrN r c) t) (qrN r c - 1 - t) 0 (mrV (pvX r c S (qrN r c - 1 - t))) (mrT (pvX r c S (qrN r c - 1 - t)))
   rw [← hj]
  rw [e] at hn hx
  exact ⟨qo,qc,rfl,hn,hx,hb2⟩
 ·rintro e w' ⟨t,qo,qc,ht,hor,rfl,hn,hx,hb⟩
  refine ⟨_,qo,qc,?_,upQ_len r _ _ t,rfl,hn,hx,hb⟩
  rcases hor with e | e
  ·left;rw [e];rfl
  ·right
   refine ⟨e,?_⟩
   cases hf:finL (pfQ r c S)
   ·rfl
   ·have h2:=up_left r (pvX r c S) (qrN r c) t (qrN r c - t) (by rw [show t+(qrN r c - t) = qrN r c by omega];exact hf)
    unfold finL at h2
    rw [upQ_len,e] at h2
    cases h2
theorem pFactor_any (r c cap:Nat) (ao:Option Addr) (S:List Nat) (w:World) (h:Mx w ao cap r c S) (hf:finL S = true) (hT:Tab w) :
  Calls Tryz.prog 9 #[.agg #[.int .i64 r,.int .i64 c,.slice ao S.length cap]] w fun e w'=>(pfK r c S = true∧PivYes w r c S e w') ∨ (pfK r c S = false∧PivErr w 2 e w'):=by
 have hl:=h.2.1
 have r6:=h.2.2.1;have c6:=h.2.2.2
 have h36:=h.small
 have hq36:r * r≤36:=Nat.mul_le_mul r6 r6
 have lr:(pfR r c S).length = S.length:=(pvR_len r c S hl _).trans hl.symm
 have lq:(pfQ r c S).length = r * r:=upQ_len _ _ _ _
 have lp:(pfP r c S).length = c:=pvP_len _ _ _ _
 have hck:ckE (r:Int) (c:Int) (mxL S) = 0:=by
  unfold ckE
  rw [mxL_len,mx_ok h]
  have:fnK (mxL S) S.length = true:=hf
  rw [this]
  rfl
 refine (gfactor_of r c S.length (r * r) (qrN r c) cap ao (pfR r c S) (pfQ r c S) (pfP r c S) (fun j=>mrV (pvX r c S j)) (fun j=>mrT (pvX r c S j)) (pvK r c S (min c r)) (finL (pfQ r c S)) (finL (pfR r c S)) w lr lq (by unfold finL;rw [lq]) ?_ (fun w' hb=>ptri_any r c cap ao S w' (h.below hb) (hT.all hb)) (fun w' lo lc R hb h1 h2 h3=>pup_any r c lc lo S R w' r6 h1 h2 h3 (hT.all hb)) ?_ ?_).mono ?_
 ·intro w' hb
  have:=ccheck_any r c ao cap (mxL S) w' (h.1.below hb) (by rw [mxL_len];omega)
  rw [mxL_len,hck] at this
  exact this
 ·intro w' Q qo qc hb hl2
  have:=vFinite_any qo qc (mxL Q) w' hb (by rw [mxL_len];omega)
  rw [mxL_len,hl2] at this
  exact this
 ·intro w' ro rc hb
  have:=vFinite_any ro rc (mxL (pfR r c S)) w' hb (by rw [mxL_len];omega)
  unfold finL
  rw [mxL_len,lr] at this
  rw [lr]
  exact this
 ·rintro e w' ⟨hor,hb⟩
  rcases hor with ⟨hk,v,u,pg,rfl,h1,h2,hg,hp⟩ | ⟨hk,v,u,rfl,h1,h2⟩
  ·refine .inl ⟨hk,v,u,some ⟨pg,0,none⟩,c,rfl,h1,h2,.inr ⟨pg,0,rfl,hg⟩,?_,hb⟩
   have:=hp.ints (fun x hx=>by have:=pvP_small r c S (show min c r≤c by omega) x hx;omega)
   rw [lp] at this
   exact this
  ·exact .inr ⟨hk,v,u,none,0,rfl,h1,h2,hb⟩
theorem pFactor_err (r c:Int) (ao:Option Addr) (cap:Nat) (I:List Int) (w:World) (hI:BitsAt w ao cap I) (hl:I.length≤17592186043904) (h:ckE r c I ≠ 0) :
  Calls Tryz.prog 9 #[.agg #[.int .i64 r,.int .i64 c,.slice ao I.length cap]] w (PivErr w (ckE r c I)):=by
 have hw:ckE r c I = 1 ∨ ckE r c I = 4:=by
  unfold ckE at h ⊢
  repeat' split
  all_goals first | exact .inl rfl | exact .inr rfl | (exfalso;revert h;simp_all)
 refine (gfactor_err r c ao I.length cap _ w hw (fun w' hb=>ccheck_any r c ao cap I w' (hI.below hb) (by omega))).mono ?_
 rintro e w' ⟨v,u,rfl,h1,h2,hb⟩
 exact ⟨v,u,none,0,rfl,h1,h2,hb⟩
theorem pFactor_yes (r c cap:Nat) (ao:Option Addr) (S:List Nat) (w:World) (h:Mx w ao cap r c S) (hf:finL S = true) (hk:pfK r c S = true) (hT:Tab w) :
  Calls Tryz.prog 9 #[.agg #[.int .i64 r,.int .i64 c,.slice ao S.length cap]] w (PivYes w r c S):=by
 refine (pFactor_any r c cap ao S w h hf hT).mono ?_
 rintro e w' (⟨_,h1⟩ | ⟨hk2,_⟩)
 ·exact h1
 ·rw [hk] at hk2;cases hk2
theorem pFactor_no (r c cap:Nat) (ao:Option Addr) (S:List Nat) (w:World) (h:Mx w ao cap r c S) (hf:finL S = true) (hk:pfK r c S = false) (hT:Tab w) :
  Calls Tryz.prog 9 #[.agg #[.int .i64 r,.int .i64 c,.slice ao S.length cap]] w (PivErr w 2):=by
 refine (pFactor_any r c cap ao S w h hf hT).mono ?_
 rintro e w' (⟨hk2,_⟩ | ⟨_,h1⟩)
 ·rw [hk] at hk2;cases hk2
 ·exact h1
end Go.Proofs.YtnnfjeieennffaaGreatDoor
namespace Go.Proofs.YtnnfjeieennffaaGreatDoor
open Go.RowKit
attribute [local go_sem ↓] Go.wp_at_zero Go.wp_at_succ
theorem rupper_any (r c cap:Nat) (ao:Option Addr) (S:List Nat) (w:World) (h:Mx w ao cap r c S) (hz:∀ i k,i < r→k < c→k < i→elM c S i k = 0) :
  Calls Tryz.prog 20 #[.agg #[.int .i64 r,.int .i64 c,.slice ao S.length cap]] w fun e w'=>e = .returned (.bool true)∧Below w.heap.size w w':=by
 have r6:=h.2.2.1;have c6:=h.2.2.2
 have K1:=hide (fun w' i k (hb:Below w.heap.size w w') (hi:i < r) (hk:k < c) (hik:k < i)=>(show Calls Tryz.prog 50 #[.agg #[.int .i64 r,.int .i64 c,.slice ao S.length cap],.int .i64 (i:Nat),.int .i64 (k:Nat)] w' fun e w''=>e = .returned (.int .u64 0)∧Below w'.heap.size w' w'' from by
  have:=rat_any r c cap i k ao S w' (h.below hb) hi hk
  rw [hz i k hi hk hik] at this
  exact this))
 have HB:=hide (below_alloc9 w (.cells #[.int .i64 r,.int .i64 c,.slice ao S.length cap] 24))
 have HX:=hide (BoxM.new w (.int .i64 r) (.int .i64 c) (.slice ao S.length cap))
 generalize S.length = n at *
 clear h hz
 go_enter Tryz.func20,Tryz.ntmps20
 go_wp2_with fail
 go_loopw [3] (fun a wr=>∃ i:Nat,i≤r∧a = .int .i64 i∧Hid (BoxM wr w.heap.size (.int .i64 r) (.int .i64 c) (.slice ao n cap))∧Hid (Below w.heap.size w wr)) (fun a _=>r - (intOf a).toNat)
 case atStart=>exact ⟨0,Nat.zero_le _,rfl,HX,HB⟩
 case round =>
  clear HX HB
  obtain ⟨i,hi,rfl,hX,hB⟩:=hrel
  have y0:=(uH hX).c0
  by_cases hlt:i < r
  ·have hiI:(i:Int) < (r:Int):=by omega
   go_wp2_with fail
   clear y0
   go_loopw [4] (fun a wr=>∃ k:Nat,k≤i∧k≤c∧a = .int .i64 k∧Hid (BoxM wr w.heap.size (.int .i64 r) (.int .i64 c) (.slice ao n cap))∧Hid (Below w.heap.size w wr)) (fun a _=>i - (intOf a).toNat)
   case atStart=>exact ⟨0,Nat.zero_le _,Nat.zero_le _,rfl,hX,hB⟩
   case round =>
    clear hX hB
    obtain ⟨k,hki,hkc,rfl,hX,hB⟩:=hrel
    have y0:=(uH hX).c0;have y1:=(uH hX).c1;have y2:=(uH hX).c2
    have hw:((k:Int) < (i:Int)∧(k:Int) < (c:Int)) ∨ ((i:Int)≤(k:Int) ∨ ((k:Int) < (i:Int)∧(c:Int)≤(k:Int))):=by omega
    rcases hw with ⟨h1,h2⟩ | hge
    ·go_wp2_with fail
     clear y0 y1 y2
     refine (uH K1 _ i k (uH hB) hlt (by omega) (by omega)).mono ?_
     rintro e w2 ⟨rfl,hb⟩
     replace hX:=hide ((uH hX).all hb)
     replace hB:=hide ((uH hB).trans (hb.mono (uH hB).size))
     clear hb
     go_wp2_with fail
     go_round
     case rel=>exact ⟨k+1,by omega,by omega,by go_num,hX,hB⟩
     case measure=>simp [intOf];omega
    ·rcases hge with h1 | ⟨h1,h2⟩
     all_goals
      go_wp2_with fail
      go_round
      case rel=>exact ⟨i+1,by omega,by go_num,hX,hB⟩
      case measure=>simp [intOf];omega
  ·have hii:r = i:=by omega
   subst hii
   go_wp2_with fail
   go_ret
   exact ⟨rfl,uH hB⟩
theorem made_ints (n:Nat):madeCells #[Value.int .i64 0] n = ((mxL (List.replicate n 0)).map intV).toArray:=by
 apply Array.ext'
 refine List.ext_getElem (by simp [madeCells,mxL]) fun i h1 h2=>?_
 simp [madeCells,Nat.mod_one,mxL,intV]
theorem OwnI.made (w:World) (n:Nat) (hn:n≤1000):OwnI w.heap.size (w.alloc (.cells (madeCells #[Value.int .i64 0] n) 3)) (.slice (some ⟨w.heap.size,0,none⟩) n n) (List.replicate n 0):=by
 refine ⟨by simp [mxL],.inr ⟨w.heap.size,n,_,by simp,Nat.le_refl _,heap_alloc_new w _,by simp,by unfold maxLen;omega,by rw [made_ints];simp [mxL],?_⟩⟩
 rw [made_ints]
 simp [mxL]
end Go.Proofs.YtnnfjeieennffaaGreatDoor
namespace Go.Proofs.YtnnfjeieennffaaGreatDoor
open Go.RowKit
attribute [local go_sem ↓] Go.wp_at_zero Go.wp_at_succ
theorem pivotPlaces_no (r c:Int) (ao:Option Addr) (n cap:Nat) (er:Int) (w:World) (her:er = 1 ∨ er = 4 ∨ er = 2)
  (C1:∀ w',Below w.heap.size w w'→Calls Tryz.prog 9 #[.agg #[.int .i64 r,.int .i64 c,.slice ao n cap]] w' (PivErr w' er))
  (CA:∀ w',Below w.heap.size w w'→Calls Tryz.prog 14 #[] w' fun e w''=>e = .returned (.bool true)∧Below w'.heap.size w' w'') :
  Calls Tryz.prog 5 #[.agg #[.int .i64 r,.int .i64 c,.slice ao n cap]] w fun e w'=>e = .returned (.bool true)∧Below w.heap.size w w':=by
 have HB:=hide (below_alloc9 w (.cells #[.int .i64 r,.int .i64 c,.slice ao n cap] 24))
 have K1:=hide (C1 _ (uH HB));have KA:=hide CA
 clear C1 CA
 rcases her with rfl | rfl | rfl
 all_goals
  go_enter Tryz.func5,Tryz.ntmps5
  go_wp2_with fail
  refine (uH K1).mono ?_
  rintro e w1 ⟨v,u,lo,lc,rfl,⟨vo,vc,rfl,_,_⟩,⟨uo,uc,rfl,_,_⟩,hb⟩
  simp only [List.length_nil]
  have b1:=below_alloc9 w1 (.cells #[.int .i64 0,.int .i64 0,.slice vo 0 vc] 24)
  have s1:=size_alloc9 w1 (.cells #[.int .i64 0,.int .i64 0,.slice vo 0 vc] 24)
  have b2:=below_alloc9 (w1.alloc (.cells #[.int .i64 0,.int .i64 0,.slice vo 0 vc] 24)) (.cells #[.int .i64 0,.int .i64 0,.slice uo 0 uc] 24)
  have X1:=(BoxM.new w1 (.int .i64 0) (.int .i64 0) (.slice vo 0 vc)).all b2
  have X2:=BoxM.new (w1.alloc (.cells #[.int .i64 0,.int .i64 0,.slice vo 0 vc] 24)) (.int .i64 0) (.int .i64 0) (.slice uo 0 uc)
  rw [s1] at X2
  have t1:=(uH HB).trans (hb.mono (uH HB).size)
  have t2:=t1.trans (b1.mono t1.size)
  replace HB:=hide (t2.trans (b2.mono t2.size))
  have y2:=X1.c2;have z2:=X2.c2
  clear hb b1 b2 s1 t1 t2 X1 X2 K1
  go_wp2_with fail
  clear y2 z2
  refine (uH KA _ (uH HB)).mono ?_
  rintro e w9 ⟨rfl,hb⟩
  replace HB:=hide ((uH HB).trans (hb.mono (uH HB).size))
  clear hb
  go_wp2
  go_ret
  exact ⟨rfl,uH HB⟩
theorem pivotPlaces_yes (r c n nq cap:Nat) (ao:Option Addr) (Q R P:List Nat) (cn:Nat→List Nat) (w:World) (c6:c≤6) (lQ:Q.length = nq) (lR:R.length = n)
  (hlt:∀ k,k < c→P.getD k 0 < c) (lP:P.length = c) (c0:cn 0 = List.replicate c 0) (cs:∀ k,cn (k+1) = (cn k).set (P.getD k 0) ((cn k).getD (P.getD k 0) 0+1)) (cl:∀ k,(cn k).length = c) (cb:∀ k i,k < c→(cn k).getD i 0≤1000) (c1:∀ i,i < c→(cn c).getD i 0 = 1)
  (C1:∀ w',Below w.heap.size w w'→Calls Tryz.prog 9 #[.agg #[.int .i64 r,.int .i64 c,.slice ao n cap]] w' fun e w''=>∃ v u lo lc,e = .returned (.tuple #[v,u,.slice lo c lc,.int .i64 0])∧NewM w'.heap.size w'' r r Q v∧NewM w'.heap.size w'' r c R u∧IntsAt w'' lo lc (mxL P)∧Below w'.heap.size w' w'')
  (C2:∀ w' ro rc,BitsAt w' ro rc (mxL R)→Calls Tryz.prog 20 #[.agg #[.int .i64 r,.int .i64 c,.slice ro n rc]] w' fun e w''=>e = .returned (.bool true)∧Below w'.heap.size w' w'')
  (CA:∀ w',Below w.heap.size w w'→Calls Tryz.prog 14 #[] w' fun e w''=>e = .returned (.bool true)∧Below w'.heap.size w' w'') :
  Calls Tryz.prog 5 #[.agg #[.int .i64 r,.int .i64 c,.slice ao n cap]] w fun e w'=>e = .returned (.bool true)∧Below w.heap.size w w':=by
 have HB:=hide (below_alloc9 w (.cells #[.int .i64 r,.int .i64 c,.slice ao n cap] 24))
 have HA:=hide (BoxM.new w (.int .i64 r) (.int .i64 c) (.slice ao n cap))
 have K1:=hide (C1 _ (uH HB));have K2:=hide C2;have KA:=hide CA;have HLT:=hide hlt;have LP:=hide lP;have H0:=hide c0;have HS:=hide cs;have HL:=hide cl;have HBD:=hide cb;have H1:=hide c1;have LQ:=hide lQ;have LR:=hide lR
 clear C1 C2 CA hlt lP c0 cs cl cb c1 lQ lR
 go_enter Tryz.func5,Tryz.ntmps5
 go_wp2_with fail
 refine (uH K1).mono ?_
 rintro e w1 ⟨v,u,lo,lc,rfl,⟨vo,vc,rfl,_,_⟩,⟨uo,uc,rfl,_,hr⟩,hp,hb⟩
 rw [uH LQ,uH LR]
 have b1:=below_alloc9 w1 (.cells #[.int .i64 r,.int .i64 r,.slice vo nq vc] 24)
 have s1:=size_alloc9 w1 (.cells #[.int .i64 r,.int .i64 r,.slice vo nq vc] 24)
 have b2:=below_alloc9 (w1.alloc (.cells #[.int .i64 r,.int .i64 r,.slice vo nq vc] 24)) (.cells #[.int .i64 r,.int .i64 c,.slice uo n uc] 24)
 have x1:=(BoxM.new w1 (.int .i64 r) (.int .i64 r) (.slice vo nq vc)).all b2
 have x2:=BoxM.new (w1.alloc (.cells #[.int .i64 r,.int .i64 r,.slice vo nq vc] 24)) (.int .i64 r) (.int .i64 c) (.slice uo n uc)
 have s2:=size_alloc9 (w1.alloc (.cells #[.int .i64 r,.int .i64 r,.slice vo nq vc] 24)) (.cells #[.int .i64 r,.int .i64 c,.slice uo n uc] 24)
 rw [s1] at x2 s2
 have a1:=(((uH HA).all hb).all b1).all b2
 have t1:=(uH HB).trans (hb.mono (uH HB).size)
 have t2:=t1.trans (b1.mono t1.size)
 have t3:=t2.trans (b2.mono t2.size)
 have r1:=(hr.below b1).below b2
 have q1:=(hp.below b1).below b2
 have o4:=OwnI.made ((w1.alloc (.cells #[.int .i64 r,.int .i64 r,.slice vo nq vc] 24)).alloc (.cells #[.int .i64 r,.int .i64 c,.slice uo n uc] 24)) c (by omega)
 have b4:=below_alloc9 ((w1.alloc (.cells #[.int .i64 r,.int .i64 r,.slice vo nq vc] 24)).alloc (.cells #[.int .i64 r,.int .i64 c,.slice uo n uc] 24)) (.cells (madeCells #[Value.int .i64 0] c) 3)
 rw [s2] at o4 b4
 have O4:=hide (show OwnI (w1.heap.size+1+1) (((w1.alloc (.cells #[.int .i64 r,.int .i64 r,.slice vo nq vc] 24)).alloc (.cells #[.int .i64 r,.int .i64 c,.slice uo n uc] 24)).alloc (.cells (madeCells #[Value.int .i64 0] c) 3)) (.slice (some ⟨w1.heap.size+1+1,0,none⟩) c c) (cn 0) from by rw [uH H0];exact o4)
 have y1:=a1.c1
 clear HA HB hb b1 s1 t1 t2 K1 hr hp o4
 have FACTS:=hide (show ∃ w3:World,w3 = ((w1.alloc (.cells #[.int .i64 r,.int .i64 r,.slice vo nq vc] 24)).alloc (.cells #[.int .i64 r,.int .i64 c,.slice uo n uc] 24)) from ⟨_,rfl⟩)
 obtain ⟨w3,hw3⟩:=uH FACTS
 have B4:=hide (show Below (w1.heap.size+1+1) w3 (((w1.alloc (.cells #[.int .i64 r,.int .i64 r,.slice vo nq vc] 24)).alloc (.cells #[.int .i64 r,.int .i64 c,.slice uo n uc] 24)).alloc (.cells (madeCells #[Value.int .i64 0] c) 3)) from by rw [hw3];exact b4)
 rw [← hw3] at x1 x2 s2 a1 t3 r1 q1
 have HA:=hide a1;have X1:=hide x1;have X2:=hide x2;have HB:=hide t3;have HR:=hide r1;have HP:=hide q1;have HSZ:=hide s2
 clear FACTS a1 x1 x2 t3 r1 q1 b4 s2 b2 hw3
 have hmk:=run_make_row' (P:=Tryz.prog) 26 3 (.int .i64 0) 8 Tryz.underlying26 (by kernel_rfl) rfl .i64 .i64 c (by omega) (by omega)
 go_wp2_with fail
 clear hmk y1
 generalize hG:w1.heap.size+1+1 = G at *
 go_loopw [8] (fun a wr=>∃ k:Nat,k≤c∧a = .int .i64 k∧Hid (OwnI G wr (.slice (some ⟨G,0,none⟩) c c) (cn k))∧Hid (Below G w3 wr)) (fun a _=>c - (intOf a).toNat)
 case atStart=>exact ⟨0,Nat.zero_le _,rfl,O4,B4⟩
 case round =>
  clear O4 B4
  obtain ⟨k,hk,rfl,hO,hB⟩:=hrel
  have hBw:=hide (show Below w3.heap.size w3 wr from by rw [uH HSZ];exact uH hB)
  by_cases hlt:k < c
  ·have hkI:(k:Int) < (c:Int):=by omega
   obtain ⟨pb,poff,hpo,_,hpc⟩:=(uH HP).ne (by rw [mxL_len,uH LP];omega)
   have hcell:=hpc k (by rw [mxL_len,uH LP];exact hlt)
   rw [mxL_int P (by rw [uH LP];exact hlt)] at hcell
   have hpl:=uH HLT k hlt
   have cS:=uH HS k
   have cB:=uH HBD k (P.getD k 0) hlt
   obtain ⟨g,eg,hg,hgl,cx,fx,put⟩:=(uH hO).at (j:=P.getD k 0) (by rw [uH HL];exact hpl)
   simp only [Option.some.injEq,Addr.mk.injEq] at eg
   obtain ⟨rfl,_⟩:=eg
   have PUT:=put ((cn k).getD (P.getD k 0) 0+1)
   rw [← cS] at PUT
   have ckp:=cell_keep hcell (uH hBw)
   have yc:=((uH HA).all (uH hBw)).c1
   subst hpo
   generalize hcn:cn (k+1) = cn1 at *
   generalize P.getD k 0 = p at *
   generalize (cn k).getD p 0 = z at *
   have hpI:(p:Int) < (c:Int):=by omega
   have hp0:¬ (p:Int) < 0:=by omega
   obtain ⟨z1,hz⟩:∃ z1,z+1 = z1:=⟨_,rfl⟩
   rw [hz] at PUT
   have hw:IntKind.i64.wrap ((z:Int)+1) = (z1:Int):=(wrap_in _ (by omega)).trans (by omega)
   have hz1:(z:Int)+1 = (z1:Int):=by omega
   have hw1:IntKind.i64.wrap (z1:Int) = (z1:Int):=wrap_in _ (by omega)
   have HK:=hide (fun w' (h:Below wr.heap.size wr w')=>(show Below wr.heap.size wr w'∧w'.cell? ⟨pb,poff+k,none⟩ = some (.int .i64 (p:Nat))∧w'.cell? ⟨w.heap.size,1,none⟩ = some (.int .i64 (c:Nat)) from ⟨h,cell_keep ckp h,cell_keep yc h⟩))
   have PT:=hide PUT
   have HCX:=hide cx;have HFX:=hide fx
   clear hpc hcell put cS cB ckp yc PUT cx fx hz
   go_wp2_with fail
   go_region_held3 (fun w'=>Below wr.heap.size wr w'∧w'.cell? ⟨pb,poff+k,none⟩ = some (.int .i64 (p:Nat))∧w'.cell? ⟨w.heap.size,1,none⟩ = some (.int .i64 (c:Nat)))
    (first | exact uH HK _ (Below.refl _ _).drew | exact uH HK _ (by assumption) | fail "KK")
    (fail "NO ARM")
   have ckq:=(uH HK _ (Below.refl _ _).drew).2.1
   have cx:=cell_keep (uH HCX) (Below.refl wr.heap.size wr).drew
   have fx:=uH HFX
   have PD:=hide ((uH PT).below (by exact (Below.refl _ _).drew))
   have HBD2:=hide (show Below G w3 ((wr.setCell ⟨G,p,none⟩ (.int .i64 (z1:Nat)))) from (uH hB).setCell (p:=⟨G,p,none⟩) hg _)
   go_wp2_with fail
   go_round
   case rel=>exact ⟨k+1,by omega,by go_num,by rw [hcn];exact PD,hide (uH HBD2).drew⟩
   case measure=>simp [intOf];omega
  ·have hkk:c = k:=by omega
   subst hkk
   go_wp2_with fail
   go_loopw [9] (fun a wr=>∃ i:Nat,i≤c∧a = .int .i64 i∧Hid (OwnI G wr (.slice (some ⟨G,0,none⟩) c c) (cn c))∧Hid (Below G w3 wr)) (fun a _=>c - (intOf a).toNat)
   case atStart=>exact ⟨0,Nat.zero_le _,rfl,hO,hB⟩
   case round =>
    clear hO hB hBw
    obtain ⟨i,hi,rfl,hO,hB⟩:=hrel
    have hBw:=hide (show Below w3.heap.size w3 wr from by rw [uH HSZ];exact uH hB)
    by_cases hlt2:i < c
    ·have hiI:(i:Int) < (c:Int):=by omega
     obtain ⟨g,eg,hg,hgl,cx,fx,_⟩:=(uH hO).at (j:=i) (by rw [uH HL];exact hlt2)
     simp only [Option.some.injEq,Addr.mk.injEq] at eg
     obtain ⟨rfl,_⟩:=eg
     rw [uH H1 i hlt2] at cx
     clear fx
     go_wp2_with fail
     go_round
     case rel=>exact ⟨i+1,by omega,by go_num,hO,hB⟩
     case measure=>simp [intOf];omega
    ·have hii:c = i:=by omega
     subst hii
     have a0:=((uH HA).all (uH hBw)).c0;have a1:=((uH HA).all (uH hBw)).c1
     have q0:=((uH X1).all (uH hBw)).c0;have q1:=((uH X1).all (uH hBw)).c1
     have p0:=((uH X2).all (uH hBw)).c0;have p1:=((uH X2).all (uH hBw)).c1;have p2:=((uH X2).all (uH hBw)).c2
     go_wp2_with fail
     clear a0 a1 q0 q1 p0 p1 p2
     refine (uH K2 _ _ _ ((uH HR).below (uH hBw))).mono ?_
     rintro e w8 ⟨rfl,hb⟩
     have t1:=(uH HB).trans ((uH hBw).mono (uH HB).size)
     have BE:=hide (t1.trans (hb.mono t1.size))
     clear hb t1
     go_wp2_with fail
     refine (uH KA _ (uH BE)).mono ?_
     rintro e w9 ⟨rfl,hb⟩
     replace BE:=hide ((uH BE).trans (hb.mono (uH BE).size))
     clear hb
     go_wp2
     go_ret
     exact ⟨rfl,uH BE⟩
def cnL (P:List Nat) (c:Nat):Nat→List Nat
 | 0=>List.replicate c 0
 | k+1=>(cnL P c k).set (P.getD k 0) ((cnL P c k).getD (P.getD k 0) 0+1)
theorem cnL_len (P:List Nat) (c:Nat):∀ k,(cnL P c k).length = c
 | 0=>List.length_replicate
 | k+1=>by show (List.set _ _ _).length = c;rw [List.length_set,cnL_len P c k]
theorem cnL_at (P:List Nat) (c:Nat) (hP:P.length = c) (hlt:∀ k,k < c→P.getD k 0 < c):∀ k,k≤c→∀ i,(cnL P c k).getD i 0 = if i < c then (P.take k).count i else 0
 | 0,_,i=>by
  show (List.replicate c 0).getD i 0 = _
  rw [List.getD_eq_getElem?_getD,List.getElem?_replicate]
  split <;> simp
 | k+1,hk,i=>by
  have ih:=cnL_at P c hP hlt k (by omega)
  show ((cnL P c k).set (P.getD k 0) ((cnL P c k).getD (P.getD k 0) 0+1)).getD i 0 = _
  rw [getD_set _ _ _ _ (by rw [cnL_len];exact hlt k (by omega)),ih,ih,if_pos (hlt k (by omega))]
  have e:P.take (k+1) = P.take k ++ [P.getD k 0]:=by
   rw [List.take_add_one,List.getElem?_eq_getElem (by omega),List.getD_eq_getElem?_getD,List.getElem?_eq_getElem (by omega)]
   rfl
  rw [e,List.count_append]
  by_cases g:i = P.getD k 0
  ·rw [if_pos g,← g,if_pos (by rw [g];exact hlt k (by omega))]
   simp
  ·rw [if_neg g]
   split
   ·rw [List.count_singleton,if_neg (by simpa using fun h=>g h.symm)];rfl
   ·rfl
theorem cnL_le (P:List Nat) (c:Nat):∀ k i,(cnL P c k).getD i 0≤k
 | 0,i=>by
  show (List.replicate c 0).getD i 0≤0
  rw [List.getD_eq_getElem?_getD,List.getElem?_replicate]
  split <;> simp
 | k+1,i=>by
  show ((cnL P c k).set (P.getD k 0) ((cnL P c k).getD (P.getD k 0) 0+1)).getD i 0≤_
  have h1:=cnL_le P c k i
  have h2:=cnL_le P c k (P.getD k 0)
  by_cases g:P.getD k 0 < (cnL P c k).length
  ·rw [getD_set _ _ _ _ g]
   split <;> omega
  ·rw [List.set_eq_of_length_le (by omega)]
   omega
theorem count_range (c i:Nat):(List.range c).count i = if i < c then 1 else 0:=by
 induction c with
 | zero=>simp
 | succ c ih =>
  rw [List.range_succ,List.count_append,ih,List.count_singleton]
  by_cases g:i = c
  ·subst g
   rw [if_neg (Nat.lt_irrefl _),if_pos (by simp),if_pos (Nat.lt_succ_self _)]
  ·have hne:¬ (c == i) = true:=fun h=>g (eq_of_beq h).symm
   rw [if_neg hne]
   by_cases g2:i < c
   ·rw [if_pos g2,if_pos (show i < c+1 by omega)]
   ·rw [if_neg g2,if_neg (show ¬ i < c+1 by omega)]
theorem pivotPlaces_by (r c:Int) (ao:Option Addr) (cap:Nat) (I:List Int) (w:World) (hI:BitsAt w ao cap I)
  (CE:∀ w' po pc,Below w.heap.size w w'→BitsAt w' po pc I→ckE r c I ≠ 0→Calls Tryz.prog 9 #[.agg #[.int .i64 r,.int .i64 c,.slice po I.length pc]] w' (PivErr w' (ckE r c I)))
  (CN:∀ w' ao cap (r c:Nat) S,Below w.heap.size w w'→Mx w' ao cap r c S→finL S = true→pfK r c S = false→Calls Tryz.prog 9 #[.agg #[.int .i64 r,.int .i64 c,.slice ao S.length cap]] w' (PivErr w' 2))
  (CY:∀ w' ao cap (r c:Nat) S,Below w.heap.size w w'→Mx w' ao cap r c S→finL S = true→pfK r c S = true→Calls Tryz.prog 9 #[.agg #[.int .i64 r,.int .i64 c,.slice ao S.length cap]] w' (PivYes w' r c S)) :
  Calls Tryz.prog 5 #[.agg #[.int .i64 r,.int .i64 c,.slice ao I.length cap]] w fun e w'=>e = .returned (.bool true)∧Below w.heap.size w w':=by
 have CA:=pivot_awake w CY
 by_cases h0:ckE r c I = 0
 ·obtain ⟨ho,hf⟩:=ckE_zero h0
  obtain ⟨p,q,rfl,rfl,hM,hS⟩:=Mx.of hI ho
  have e1:=natL_len I
  have r6:=hM.2.2.1
  have c6:=hM.2.2.2
  have hfin:finL (natL I) = true:=by
   unfold finL
   rw [mxL_natL hI,e1]
   exact hf
  cases hk:pfK p q (natL I)
  ·refine pivotPlaces_no p q ao I.length cap 2 w (.inr (.inr rfl)) (fun w' hb=>?_) CA
   have:=CN w' ao cap p q (natL I) hb (hM.below hb) hfin hk
   rw [e1] at this
   exact this
  ·have lr:(pfR p q (natL I)).length = I.length:=(pvR_len p q (natL I) hM.2.1 _).trans (hM.2.1.symm.trans e1)
   have lp:(pfP p q (natL I)).length = q:=pvP_len _ _ _ _
   have hlt:∀ k,k < q→(pfP p q (natL I)).getD k 0 < q:=fun k hk2=>by
    refine pvP_small p q (natL I) (show min q p≤q by omega) _ ?_
    show (pfP p q (natL I)).getD k 0 ∈ pfP p q (natL I)
    rw [List.getD_eq_getElem?_getD,List.getElem?_eq_getElem (by rw [lp];exact hk2)]
    exact List.getElem_mem _
   refine pivotPlaces_yes p q I.length (p * p) cap ao (pfQ p q (natL I)) (pfR p q (natL I)) (pfP p q (natL I)) (cnL (pfP p q (natL I)) q) w c6 (upQ_len _ _ _ _) lr hlt lp rfl (fun _=>rfl) (cnL_len _ _) (fun k i hk2=>by have:=cnL_le (pfP p q (natL I)) q k i;omega) (fun i hi=>?_) (fun w' hb=>?_) (fun w' ro rc hb=>?_) CA
   ·rw [cnL_at _ q lp hlt q (Nat.le_refl _),if_pos hi,List.take_of_length_le (by rw [lp];exact Nat.le_refl _)]
    refine ((pvP_perm p q (natL I) (min q p) (by omega)).count_eq i).trans ?_
    rw [count_range,if_pos hi]
   ·have:=CY w' ao cap p q (natL I) hb (hM.below hb) hfin hk
    rw [e1] at this
    refine this.mono ?_
    rintro e w'' ⟨v,u,lo,lc,rfl,h1,h2,_,h4,h5⟩
    exact ⟨v,u,lo,lc,rfl,h1,h2,h4,h5⟩
   ·have:=rupper_any p q rc ro (pfR p q (natL I)) w' ⟨hb,pvR_len p q (natL I) hM.2.1 _,r6,c6⟩ (fun i k hi hk2 hki=>pvR_zero p q (natL I) (min q p) (Nat.le_refl _) hi hk2 (by omega) hki)
    rw [lr] at this
    exact this
 ·have hw:ckE r c I = 1 ∨ ckE r c I = 4 ∨ ckE r c I = 2:=by
   unfold ckE at h0 ⊢
   repeat' split
   all_goals first | exact .inl rfl | exact .inr (.inl rfl) | (exfalso;revert h0;simp_all)
  exact pivotPlaces_no r c ao I.length cap _ w hw (fun w' hb=>CE w' ao cap hb (hI.below hb) h0) CA
end Go.Proofs.YtnnfjeieennffaaGreatDoor
namespace Go.Proofs.YtnnfjeieennffaaGreatDoor
open Go.RowKit
theorem pivotPlaces_walk (r c:Int) (ao:Option Addr) (cap:Nat) (I:List Int) (w:World) (hI:BitsAt w ao cap I) (hl:I.length≤17592186043904) (_hr:-9223372036854775808≤r∧r≤9223372036854775807) (_hc:-9223372036854775808≤c∧c≤9223372036854775807) (hT:Tab w) :
  Calls Tryz.prog 5 #[.agg #[.int .i64 r,.int .i64 c,.slice ao I.length cap]] w fun e w'=>e = .returned (.bool true)∧Below w.heap.size w w' :=
 pivotPlaces_by r c ao cap I w hI (fun w' po pc _ hx h=>pFactor_err r c po pc I w' hx hl h) (fun w' ao cap r c S hb h hf hk=>pFactor_no r c cap ao S w' h hf hk (hT.all hb)) (fun w' ao cap r c S hb h hf hk=>pFactor_yes r c cap ao S w' h hf hk (hT.all hb))
end Go.Proofs.YtnnfjeieennffaaGreatDoor
namespace Go.Proofs.YtnnfjeieennffaaGreatDoor
open Go.ChangeShapes Go.WideShapes Go.ChangeAt Go.RowKit Go.Joins
theorem Tryz.own:ownKnob Tryz.prog.godebug = none:=by kernel_rfl
theorem Tryz.laidOut:laidOutB Tryz.prog = true:=by kernel_rfl
end Go.Proofs.YtnnfjeieennffaaGreatDoor
