/- Part 42 of the texts. -/
import Derived.Test.YtnnfjeieennffaaGreatDoorParte39
import Derived.Test.YtnnfjeieennffaaGreatDoorParte40
import Derived.Test.YtnnfjeieennffaaGreatDoorParte41
import Derived.Test.YtnnfjeieennffaaGreatDoorParte30
import Derived.Test.YtnnfjeieennffaaGreatDoorParte23
set_option maxHeartbeats 16000000
set_option maxRecDepth 20000
namespace Go.Proofs.YtnnfjeieennffaaGreatDoor
open Go.RowKit
theorem mx_inf (m r:Nat) (hm:m < 9223372036854775808) (hr:r < 9223372036854775808) (h:9218868437227405312≤m ∨ 9218868437227405312≤r):9218868437227405312≤mx m r∧mx m r < 9223372036854775808:=by
 obtain ⟨a1,a2,a3⟩:=mag_fZ m hm
 obtain ⟨b1,b2,b3⟩:=mag_fZ r hr
 unfold mx
 split
 ·decide
 ·rw [a1,b1]
  rcases Nat.lt_or_ge m r with g | g
  ·have:=rv8_lt g
   rw [if_pos (by omega)]
   omega
  ·have:=rv_mono g
   rw [if_neg (by omega)]
   omega
theorem mx_lt16 (m r:Nat) (hm:m < 9223372036854775808) (hr:r < 9223372036854775808):mx m r < 9223372036854775808:=by
 unfold mx
 repeat' split
 ·decide
 ·exact hr
 ·exact hm
theorem bgF_big:∀ (xs:List Nat) (m:Nat),m < 9223372036854775808→(9218868437227405312≤m ∨ ∃ x ∈ xs,fFin x = false)→9218868437227405312≤bgF m xs∧bgF m xs < 9223372036854775808:=by
 intro xs
 induction xs with
 | nil =>
  intro m hm h
  rcases h with h | ⟨x,hx,_⟩
  ·exact ⟨h,hm⟩
  ·cases hx
 | cons x xs ih =>
  intro m hm h
  have hr:=fR_lt x
  show 9218868437227405312≤bgF (mx m (fR x)) xs∧bgF (mx m (fR x)) xs < 9223372036854775808
  have hl:=mx_lt16 m (fR x) hm (by omega)
  refine ih _ hl ?_
  rcases h with h | ⟨y,hy,hf⟩
  ·exact .inl (mx_inf m (fR x) hm (by omega) (.inl h)).1
  ·rcases List.mem_cons.1 hy with e | hy
   ·subst e
    refine .inl (mx_inf m _ hm (by omega) (.inr ?_)).1
    rcases Nat.lt_or_ge (fR y) 9218868437227405312 with g | g
    ·rw [(fK_rungs y).2.2.2 g] at hf;cases hf
    ·exact g
   ·exact .inr ⟨y,hy,hf⟩
theorem nr_fins (xs:List Nat) (h:fFin (nrV xs) = true):∀ x ∈ xs,fFin x = true:=by
 intro x hx
 cases hf:fFin x with
 | true=>rfl
 | false =>
  exfalso
  obtain ⟨b1,b2⟩:=bgF_big xs 0 (by decide) (.inr ⟨x,hx,hf⟩)
  obtain ⟨a1,a2,a3⟩:=mag_fZ (bgF 0 xs) b2
  have hb:fFin (bgF 0 xs) = false:=by
   cases hq:fFin (bgF 0 xs) with
   | false=>rfl
   | true=>have:=fR_fin _ hq;omega
  have e:nrV xs = bgF 0 xs:=by unfold nrV;rw [if_pos (.inr hb)]
  rw [e,hb] at h
  cases h
theorem top_all (xs:List Nat) (hx:∀ x ∈ xs,x < 18446744073709551616∧fFin x = true):TopV 5000 xs:=by
 refine ⟨hx,.inr ?_⟩
 obtain ⟨g1,_⟩:=bgF_fin xs 0 (by decide) (fun x h=>(hx x h).2)
 have:=eX_range (bgF 0 xs) (by omega)
 omega
theorem nr_sign (xs:List Nat) (hl:xs.length≤64) (hx:∀ x ∈ xs,x < 18446744073709551616) (h:fFin (nrV xs) = true):fS (nrV xs) = false:=by
 have hf:=nr_fins xs h
 have hT:=top_all xs (fun x h=>⟨hx x h,hf x h⟩)
 by_cases h0:bgF 0 xs = 0
 ·have e:nrV xs = 0:=by unfold nrV;rw [if_pos (.inl h0)];exact h0
  rw [e];decide
 obtain ⟨k,ek⟩:∃ k,eX (bgF 0 xs) = k:=⟨_,rfl⟩
 obtain ⟨b1,b2,b3,b4,b5,b6,b7,b8,y,hy,b9,b10⟩:=top_big 5000 xs hT h0
 rw [ek] at b8 b10
 have hn:nrV xs = xV (sV (ssV k 0 xs)) k:=by
  unfold nrV
  rw [if_neg (by rw [b2];simp [h0]),ek]
 have T1:1≤sqQ k xs:=by have:=sqQ_mem k xs y hy;grind
 have hl2:(xs.length:Rat)≤64:=Rat.natCast_le_natCast.2 hl
 have T2:sqQ k xs≤256:=by have:=sqQ_le k xs b8;grind
 have hlG:=Rat.mul_nonneg (show 0≤64 - (xs.length:Rat) by grind) (show 0≤sqQ k xs by grind)
 have z0:fQ 0 = 0:=fQ_nought 0 (by decide)
 obtain ⟨e1,e2,e3⟩:=ss_err k (sqQ k xs) T1 T2 xs 0 0 0 (fun x hx2=>⟨hx x hx2,hf x hx2,b8 x hx2⟩) (by decide) (by decide) (by grind) (by grind) (by rw [z0];unfold ab;grind)
 generalize ssV k 0 xs = s at *
 have e4:9007199254740992 * ab (fQ s - sqQ k xs)≤130 * sqQ k xs:=by
  have:(0:Rat)+sqQ k xs = sqQ k xs:=Rat.zero_add _
  rw [this] at e3
  grind
 have l:=le_ab (fQ s - sqQ k xs)
 have s1:1≤2 * fQ s:=by grind
 have k0:fK s ≠ 0:=fun e=>by
  have:=fQ_nought s e
  grind
 obtain ⟨r1,r2,r3,r4,r5,r6,r7⟩:=sqrt_err s e1 k0 e2
 have q0:fK (sV s) ≠ 0:=fun e=>by
  have:=(fK_zero (sV s)).1 e
  omega
 rw [hn,xV_fin _ _ r1 q0]
 have hle:=rnd_le (fD (sV s)).natAbs (fX (sV s)+k)
 rw [fS_wrd _ _ (by omega)]
 exact r2
def kpM (N:Nat→Nat) (j:Nat):Nat→Nat
 | 0=>0
 | t+1=>if cO (kpM N j t) (N (j+t)) < 0 then N (j+t) else kpM N j t
def kpB (N:Nat→Nat) (j:Nat):Nat→Nat
 | 0=>j
 | t+1=>if cO (kpM N j t) (N (j+t)) < 0 then j+t else kpB N j t
theorem cO_eq {a b:Nat} (ha:fFin a = true) (hb:fFin b = true):cO a b < 0 ↔ fZ a < fZ b:=by
 have h1:=(fin_kind ha).2;have h2:=(fin_kind hb).2
 unfold cO cmpI
 rw [if_neg (fun e=>e.elim h1 h2)]
 repeat' split
 all_goals omega
theorem fZ_pos16 {a:Nat} (h:fS a = false):0≤fZ a:=by
 unfold fZ
 rw [h]
 exact Int.natCast_nonneg _
theorem kp_lt (N:Nat→Nat) (j:Nat) (h:∀ k,N k < 18446744073709551616):∀ t,kpM N j t < 18446744073709551616
 | 0=>by show 0 < 18446744073709551616;decide
 | t+1=>by
  show (if _ then _ else _) < _
  split
  ·exact h _
  ·exact kp_lt N j h t
theorem kp_gt (r c:Nat) (S:List Nat) (j:Nat) (hr:r≤6) (hS:∀ x ∈ S,x < 18446744073709551616):∀ t,gtK r c S j t = true →
  kpB (pvN r c S j) j t = gtA r c S j t∧fFin (kpM (pvN r c S j) j t) = true∧((t = 0∧kpM (pvN r c S j) j t = 0) ∨ (0 < t∧fFin (pvN r c S j (gtA r c S j t)) = true∧fZ (kpM (pvN r c S j) j t) = fZ (pvN r c S j (gtA r c S j t)))):=by
 intro t
 induction t with
 | zero=>intro _;exact ⟨rfl,(by show fFin 0 = true;decide),.inl ⟨rfl,rfl⟩⟩
 | succ t ih =>
  intro hk
  have hk':(gtK r c S j t && fFin (pvN r c S j (j+t))) = true:=hk
  rw [Bool.and_eq_true] at hk'
  obtain ⟨i1,i2,i3⟩:=ih hk'.1
  have hf:=hk'.2
  have hs:fS (pvN r c S j (j+t)) = false:=nr_sign _ (by rw [colL_len];omega) (colL_lt hS _ _ _ _) hf
  show (if cO (kpM _ j t) (pvN r c S j (j+t)) < 0 then j+t else kpB _ j t) = (if cO (pvN r c S j (gtA r c S j t)) (pvN r c S j (j+t)) < 0 then j+t else gtA r c S j t)∧fFin (if cO (kpM _ j t) (pvN r c S j (j+t)) < 0 then pvN r c S j (j+t) else kpM _ j t) = true ∧
   ((t+1 = 0∧_) ∨ (0 < t+1∧fFin (pvN r c S j (if cO (pvN r c S j (gtA r c S j t)) (pvN r c S j (j+t)) < 0 then j+t else gtA r c S j t)) = true∧fZ (if cO (kpM _ j t) (pvN r c S j (j+t)) < 0 then pvN r c S j (j+t) else kpM _ j t) = fZ (pvN r c S j (if cO (pvN r c S j (gtA r c S j t)) (pvN r c S j (j+t)) < 0 then j+t else gtA r c S j t))))
  have hp:=fZ_pos16 hs
  rcases i3 with ⟨rfl,e⟩ | ⟨ht,hg,hz⟩
  ·have eA:gtA r c S j 0 = j:=rfl
   have z0:fZ 0 = 0:=(mag_fZ 0 (by decide)).1.trans (by decide)
   rw [eA,e,i1,eA]
   rw [Nat.add_zero] at *
   have c2:¬ cO (pvN r c S j j) (pvN r c S j j) < 0:=fun q=>by have:=(cO_eq hf hf).1 q;omega
   rw [if_neg c2]
   by_cases c1:cO 0 (pvN r c S j j) < 0
   ·rw [if_pos c1,if_pos c1]
    exact ⟨rfl,hf,.inr ⟨by omega,hf,rfl⟩⟩
   ·rw [if_neg c1,if_neg c1]
    refine ⟨rfl,by decide,.inr ⟨by omega,hf,?_⟩⟩
    have:¬ fZ 0 < fZ (pvN r c S j j):=fun q=>c1 ((cO_eq (by decide) hf).2 q)
    omega
  ·have hc:cO (kpM (pvN r c S j) j t) (pvN r c S j (j+t)) < 0 ↔ cO (pvN r c S j (gtA r c S j t)) (pvN r c S j (j+t)) < 0:=by
    rw [cO_eq i2 hf,cO_eq hg hf,hz]
   by_cases c1:cO (kpM (pvN r c S j) j t) (pvN r c S j (j+t)) < 0
   ·rw [if_pos c1,if_pos c1,if_pos (hc.1 c1)]
    exact ⟨rfl,hf,.inr ⟨by omega,hf,rfl⟩⟩
   ·rw [if_neg c1,if_neg c1,if_neg (fun q=>c1 (hc.2 q))]
    exact ⟨i1,i2,.inr ⟨by omega,hg,hz⟩⟩
theorem gtK_all (r c:Nat) (S:List Nat) (j:Nat):∀ t d,gtK r c S j (t+d) = true→gtK r c S j t = true:=by
 intro t d
 induction d with
 | zero=>exact fun h=>h
 | succ d ih =>
  intro h
  have h':(gtK r c S j (t+d) && _) = true:=h
  rw [Bool.and_eq_true] at h'
  exact ih h'.1
theorem pgreatest_any (r c cap j:Nat) (ro:Option Addr) (S:List Nat) (w:World) (h:Mx w ro cap r c S) (hj:j < r) (hjc:j < c) (hT:Tab w) :
  Calls Tryz.prog 71 #[.agg #[.int .i64 r,.int .i64 c,.slice ro S.length cap],.int .i64 (j:Nat)] w fun e w'=>((pvF r c S j = true∧e = .returned (.tuple #[.int .i64 (pvA r c S j:Nat),.int .i64 0])) ∨ (pvF r c S j = false∧e = .returned (.tuple #[.int .i64 0,.int .i64 2])))∧Below w.heap.size w w':=by
 have r6:=h.2.2.1;have c6:=h.2.2.2
 have hN:∀ k,pvN r c S j k < 18446744073709551616:=fun k=>nrV_lt _
 have key:=greatest_of r c S.length cap j (r - j) (c - j) ro S (fun k=>colL c S j (r - j) k) (pvN r c S j) (kpB (pvN r c S j) j) (kpM (pvN r c S j) j) (fun k=>fFin (pvN r c S j k)) (gtK r c S j) w r6 c6 hj rfl (by omega) h.1 ⟨rfl,rfl⟩ rfl (fun t _=>⟨rfl,kp_lt _ _ hN t,hN _,?_⟩) (fun t ht hf=>?_) (fun w' k hk1 hk2 hb=>?_) (fun w' k bo d _ _ hb hx=>?_) (fun w' k _ _=>sfinite_any _ w' (hN k))
 ·refine key.mono ?_
  rintro e w' ⟨hor,hb⟩
  refine ⟨?_,hb⟩
  rcases hor with ⟨hk,rfl⟩ | ⟨hk,rfl⟩
  ·exact .inl ⟨hk,by rw [(kp_gt r c S j r6 h.1.nat _ hk).1];rfl⟩
  ·exact .inr ⟨hk,rfl⟩
 ·by_cases c1:cO (kpM (pvN r c S j) j t) (pvN r c S j (j+t)) < 0
  ·refine .inl ⟨c1,?_,?_⟩
   ·show (if _ then _ else _) = _;rw [if_pos c1]
   ·show (if _ then _ else _) = _;rw [if_pos c1]
  ·refine .inr ⟨c1,?_,?_⟩
   ·show (if _ then _ else _) = _;rw [if_neg c1]
   ·show (if _ then _ else _) = _;rw [if_neg c1]
 ·cases hz:gtK r c S j (c - j) with
  | false=>rfl
  | true =>
   have:=gtK_all r c S j (t+1) (c - j - (t+1)) (by rw [show t+1+(c - j - (t+1)) = c - j by omega];exact hz)
   rw [hf] at this;cases this
 ·have:=mPart_ok r c cap j k (r - j) 1 ro S w' ⟨hb,h.2.1,r6,c6⟩ (by omega) (by omega)
  refine this.mono ?_
  rintro e w'' ⟨v,rfl,⟨bo,d,rfl,hn,hx⟩,hb2⟩
  rw [pa_col] at hx ⊢
  rw [colL_len]
  exact ⟨bo,d,rfl,hx,hb2⟩
 ·have:=vNorm_ok bo d (mxL (colL c S j (r - j) k)) w' hx (by rw [mxL_len,colL_len];omega) (hT.all hb)
  rw [mxL_len,colL_len,nmV_nrV,toN_mxL] at this
  exact this
def swJ (r c:Nat) (S:List Nat) (j a i:Nat):List Nat:=mkM r c (fun p q=>elM c S p (if p < i then swI j a q else q))
theorem swJ_0 (r c:Nat) (S:List Nat) (j a:Nat) (h:S.length = r * c):swJ r c S j a 0 = S:=by
 conv=>rhs;rw [← mkM_of r c S h]
 exact mkM_congr (fun p q _ _=>by rw [if_neg (Nat.not_lt_zero p)];rfl)
theorem swJ_r (r c:Nat) (S:List Nat) {j a:Nat} (hj:j < c) (ha:a < c):swJ r c S j a r = swM r c S j a:=by
 conv=>rhs;rw [← mkM_of r c (swM r c S j a) (swM_len r c S j a)]
 refine mkM_congr (fun p q hp hq=>?_)
 rw [if_pos hp]
 exact (el_sw r c S hj ha hp hq).symm
theorem swJ_step (r c:Nat) (S:List Nat) {j a i:Nat} (hj:j < c) (ha:a < c) (hi:i < r):((swJ r c S j a i).set (i * c+j) ((swJ r c S j a i)[i * c+a]?.getD 0)).set (i * c+a) ((swJ r c S j a i)[i * c+j]?.getD 0) = swJ r c S j a (i+1):=by
 have e1:(swJ r c S j a i)[i * c+a]?.getD 0 = elM c S i a:=by
  unfold swJ
  rw [mkM_at r c _ hi ha,if_neg (Nat.lt_irrefl i)];rfl
 have e2:(swJ r c S j a i)[i * c+j]?.getD 0 = elM c S i j:=by
  unfold swJ
  rw [mkM_at r c _ hi hj,if_neg (Nat.lt_irrefl i)];rfl
 rw [e1,e2]
 unfold swJ
 rw [mkM_set r c _ _ hi hj,mkM_set r c _ _ hi ha]
 refine mkM_congr (fun p q hp hq=>?_)
 by_cases g1:p = i
 ·subst g1
  by_cases g2:q = a
  ·subst g2
   rw [if_pos ⟨rfl,rfl⟩,if_pos (Nat.lt_succ_self p)]
   unfold swI
   rw [if_pos rfl]
  ·rw [if_neg (fun e=>g2 e.2),if_pos (Nat.lt_succ_self p)]
   unfold swI
   rw [if_neg g2]
   by_cases g3:q = j
   ·subst g3
    rw [if_pos ⟨rfl,rfl⟩,if_pos rfl]
   ·rw [if_neg (fun e=>g3 e.2),if_neg g3,if_neg (Nat.lt_irrefl p)]
 ·rw [if_neg (fun e=>g1 e.1),if_neg (fun e=>g1 e.1)]
  by_cases g2:p < i
  ·rw [if_pos g2,if_pos (by omega)]
  ·rw [if_neg g2,if_neg (by omega)]
theorem chB_any (r c cap j a:Nat) (ro:Option Addr) (S:List Nat) (w:World) (h:Mx w ro cap r c S) (hj:j < c) (ha:a < c) :
  Calls Tryz.prog 72 #[.slice ro S.length cap,.int .i64 c,.int .i64 (j:Nat),.int .i64 (a:Nat)] w fun e w'=>∃ g,e = .returned (.slice (some ⟨g,0,none⟩) S.length S.length)∧w.heap.size≤g∧RowB w' g (swM r c S j a)∧Below w.heap.size w w':=by
 have r6:=h.2.2.1;have c6:=h.2.2.2;have h36:=h.small
 have key:=chB_of S.length c r j a cap ro (swJ r c S j a) (fun i=>i * c) w (by omega) (by omega) hj ha (by rw [swJ_0 r c S j a h.2.1];exact h.1) (fun i=>by rw [h.2.1];exact mkM_len _ _ _) ⟨Nat.zero_mul c,h.2.1.symm,fun i hi=>⟨by rw [Nat.add_mul,Nat.one_mul],by rw [h.2.1];exact Nat.mul_le_mul_right c hi,swJ_step r c S hj ha hi⟩⟩
 rw [swJ_r r c S hj ha] at key
 exact key
theorem chI_any (c j a g:Nat) (L:List Nat) (w:World) (h:RowI w g L) (hl:L.length = c) (hc:c≤6) (hs:∀ x ∈ L,x≤1000000) (hj:j < c) (ha:a < c) :
  Calls Tryz.prog 73 #[.slice (some ⟨g,0,none⟩) c c,.int .i64 c,.int .i64 (j:Nat),.int .i64 (a:Nat)] w fun e w'=>∃ g,e = .returned (.slice (some ⟨g,0,none⟩) c c)∧w.heap.size≤g∧RowI w' g (swL L j a)∧Below w.heap.size w w':=by
 have hi:=h.ints hs
 rw [hl] at hi
 refine chI_of c c 1 j a c (some ⟨g,0,none⟩) (fun i=>if i = 0 then L else swL L j a) (fun i=>i * c) w (by omega) (by omega) hj ha hi (fun i=>?_) ⟨Nat.zero_mul c,Nat.one_mul c,fun i hi=>?_⟩
 ·show (if i = 0 then L else swL L j a).length = c
  split
  ·exact hl
  ·rw [swL_len,hl]
 ·obtain rfl:i = 0:=by omega
  refine ⟨by omega,by omega,?_⟩
  rw [if_pos rfl,if_neg (by omega),Nat.zero_mul,Nat.zero_add,Nat.zero_add]
  unfold swL
  rw [List.getD_eq_getElem?_getD,List.getD_eq_getElem?_getD]
theorem down_any (r c cap j:Nat) (ro:Option Addr) (S:List Nat) (w:World) (h:Mx w ro cap r c S) (hj:j+1 < r) (hjc:j < c) (hT:Tab w) :
  Calls Tryz.prog 74 #[.agg #[.int .i64 r,.int .i64 c,.slice ro S.length cap],.int .i64 (j:Nat)] w fun e w'=>DnAns w w' (finL (qxL r c S j) && mrK (qxL r c S j)) r c S.length (r - j) (qrS r c S j) (mrV (qxL r c S j)) (mrT (qxL r c S j)) e∧Below w.heap.size w w':=by
 have hl:=h.2.1
 have r6:=h.2.2.1;have c6:=h.2.2.2
 have lX:(qxL r c S j).length = r - j:=colL_len _ _ _ _ _
 have lV:(mrV (qxL r c S j)).length = r - j:=by rw [mrV_len,lX]
 refine down_of r c S.length cap j (r - j) (mrT (qxL r c S j)) (mrB (qxL r c S j)) ro S (apM r c S j j (mrV (qxL r c S j)) (mrT (qxL r c S j))) (qrS r c S j) (qxL r c S j) (mrV (qxL r c S j)) _ w r6 (by omega) rfl h.1 (fun w' hb=>?_) (fun w' bo d ho hb hx=>?_) (fun w' bo d ho hb hx=>?_) (fun w' vo vc hb hp hv=>?_) (fun w' g hrow=>?_)
 ·refine (mPart_ok r c cap j j (r - j) 1 ro S w' ⟨hb,hl,r6,c6⟩ (by omega) (by omega)).mono ?_
  rintro e w'' ⟨v,rfl,⟨bo,d,rfl,hn,hx⟩,hb2⟩
  rw [pa_col] at hx ⊢
  rw [colL_len]
  exact ⟨bo,d,rfl,hx,hb2⟩
 ·rw [Bool.and_eq_true] at ho
  have:=hMake_ok bo d (mxL (qxL r c S j)) w' hx (by rw [mxL_len,lX];omega) (by rw [mxL_len,lX];omega) (by rw [mxL_len];exact ho.1) (by rw [toN_mxL];exact ho.2) (hT.all hb)
  rw [toN_mxL,mxL_len,lX] at this
  exact this
 ·cases hf:finL (qxL r c S j)
  ·have:=hMake_inf bo d (mxL (qxL r c S j)) w' hx (by rw [mxL_len,lX];omega) (by rw [mxL_len,lX];omega) (by rw [mxL_len];exact hf)
   rw [mxL_len,lX] at this
   refine this.mono ?_
   rintro e w'' ⟨so,cs,rfl,hb2⟩
   exact ⟨so,cs,4,rfl,.inr rfl,hb2⟩
  ·have hk:mrK (qxL r c S j) = false:=by
    have:=ho
    rw [hf,Bool.true_and] at this
    exact this
   have:=hMake_none bo d (mxL (qxL r c S j)) w' hx (by rw [mxL_len,lX];omega) (by rw [mxL_len,lX];omega) (by rw [mxL_len];exact hf) (by rw [toN_mxL];exact hk) (hT.all hb)
   rw [mxL_len,lX] at this
   refine this.mono ?_
   rintro e w'' ⟨so,cs,rfl,hb2⟩
   exact ⟨so,cs,2,rfl,.inl rfl,hb2⟩
 ·have:=hApply_row r c cap j j vc (mrT (qxL r c S j)) ro vo S (mrV (qxL r c S j)) w' ⟨hp,hl,r6,c6⟩ hv (by rw [lV];omega) (by omega) (mrT_lt _) (hT.all hb)
  rw [lV] at this
  refine this.mono ?_
  rintro e w'' ⟨g,rfl,hg,hr,hb2⟩
  exact ⟨g,rfl,by omega,hr,hb2⟩
 ·have:=settle_any r c j (mrB (qxL r c S j)) g _ w' r6 c6 (by omega) (by omega) (apM_len r c S j j (mrV (qxL r c S j)) (mrT (qxL r c S j))) hrow
  rw [apM_len,← hl] at this
  exact this
theorem colW (r c:Nat) (S:List Nat) {j:Nat} (hjr:j < r) (hjc:j < c):qxL r c (pvW r c S j) j = colL c S j (r - j) (pvA r c S j):=by
 unfold qxL colL
 refine List.map_congr_left (fun p hp=>?_)
 have:=List.mem_range.1 hp
 unfold pvW
 rw [el_sw r c S hjc (pvA_lt r c S hjc) (by omega) hjc]
 unfold swI
 split
 ·rename_i g;exact congrArg (elM c S (j+p)) g
 ·rw [if_pos rfl]
theorem gtK_at (r c:Nat) (S:List Nat) (j:Nat):∀ t,gtK r c S j t = true→∀ k,j≤k→k < j+t→fFin (pvN r c S j k) = true:=by
 intro t
 induction t with
 | zero=>intro _ k h1 h2;omega
 | succ t ih =>
  intro h k h1 h2
  have h':(gtK r c S j t && fFin (pvN r c S j (j+t))) = true:=h
  rw [Bool.and_eq_true] at h'
  by_cases g:k = j+t
  ·rw [g];exact h'.2
  ·exact ih h'.1 k h1 (by omega)
theorem finW (r c:Nat) (S:List Nat) {j:Nat} (hjr:j < r) (hjc:j < c) (h:pvF r c S j = true):finL (qxL r c (pvW r c S j) j) = true:=by
 rw [colW r c S hjr hjc]
 have:=nr_fins _ (gtK_at r c S j (c - j) h (pvA r c S j) (pvA_ge r c S j) (by have:=pvA_lt r c S hjc;omega))
 unfold finL
 rw [fnK_all]
 intro k hk
 rw [mxL_at]
 refine this _ ?_
 rw [List.getD_eq_getElem?_getD,List.getElem?_eq_getElem hk]
 exact List.getElem_mem hk
theorem pvK_all16 (r c:Nat) (S:List Nat):∀ m,pvK r c S m = true ↔ ∀ j,j < m→pvO r c (pvR r c S j) j = true:=by
 intro m
 induction m with
 | zero=>exact ⟨fun _ j hj=>absurd hj (Nat.not_lt_zero j),fun _=>rfl⟩
 | succ m ih =>
  show (pvK r c S m && pvO r c (pvR r c S m) m) = true ↔ _
  rw [Bool.and_eq_true,ih]
  constructor
  ·rintro ⟨h1,h2⟩ j hj
   by_cases g:j = m
   ·rw [g];exact h2
   ·exact h1 j (by omega)
  ·intro h
   exact ⟨fun j hj=>h j (by omega),h m (Nat.lt_succ_self m)⟩
theorem ptri_any (r c cap:Nat) (ao:Option Addr) (S:List Nat) (w:World) (h:Mx w ao cap r c S) (hT:Tab w) :
  Calls Tryz.prog 31 #[.agg #[.int .i64 r,.int .i64 c,.slice ao S.length cap]] w fun e w'=>TpAns w w' (pvK r c S (min c r)) r c S.length (qrN r c) (pfR r c S) (pfP r c S) (fun j=>mrV (pvX r c S j)) (fun j=>mrT (pvX r c S j)) e∧Below w.heap.size w w':=by
 have hl:=h.2.1
 have r6:=h.2.2.1;have c6:=h.2.2.2
 have lR:=fun j=>(pvR_len r c S hl j).trans hl.symm
 have lW:=fun j=>(pvW_len r c (pvR r c S j) j).trans hl.symm
 have hlt:=h.1.nat
 have hsm:∀ j,j≤c→∀ x ∈ pvP r c S j,x≤1000000:=fun j hj x hx=>by have:=pvP_small r c S hj x hx;omega
 refine ptri_of r c S.length cap (min c r) (qrN r c) ao (pvR r c S) (fun j=>pvW r c (pvR r c S j) j) (fun j=>mrV (pvX r c S j)) (pvP r c S) (fun j=>pvA r c (pvR r c S j) j) (fun j=>mrT (pvX r c S j)) (fun j=>pvF r c (pvR r c S j) j) (fun j=>finL (pvX r c S j) && mrK (pvX r c S j)) (pvK r c S (min c r)) w r6 c6 (by omega) (fun j=>by rw [qrN_lt];omega) (by unfold qrN;omega) lR lW (fun j=>by rw [mrV_len,pvX_len]) (fun j _=>pvW_lt (pvR_lt hlt j) j) (fun j _=>pvR_lt hlt (j+1)) (fun j hj hj2=>?_) rfl ?_ (fun w' hb=>?_) (fun w' j po pc hj hb hp=>?_) (fun w' j po pc hj hp=>?_) (fun w' j pg hj hp=>?_) (fun w' j g hj hj2 hb hp=>?_)
 ·show pvS r c (pvR r c S j) j = _
  unfold pvS
  rw [if_neg hj2]
 ·rw [pvK_all16]
  constructor
  ·intro q j hj
   have:=q j hj
   unfold pvO at this
   rw [Bool.and_eq_true] at this
   refine ⟨this.1,fun hj2=>?_⟩
   have h2:=this.2
   rw [decide_eq_false (by omega),Bool.false_or] at h2
   rw [show finL (pvX r c S j) = true from finW r c _ (by omega) (by omega) this.1,Bool.true_and]
   exact h2
  ·intro q j hj
   obtain ⟨q1,q2⟩:=q j hj
   unfold pvO
   rw [show pvF r c (pvR r c S j) j = true from q1,Bool.true_and]
   by_cases g:j+1 < r
   ·have:=q2 g
    rw [Bool.and_eq_true] at this
    rw [show mrK (qxL r c (pvW r c (pvR r c S j) j) j) = true from this.2,Bool.or_true]
   ·rw [decide_eq_true (by omega),Bool.true_or]
 ·refine (mPart_ok r c cap 0 0 r c ao S w' (h.below hb) (by omega) (by omega)).mono ?_
  rintro e w'' ⟨v,rfl,⟨po,pc,rfl,hn,hx⟩,hb2⟩
  have ps:paM c S 0 0 r c = S:=by
   conv=>rhs;rw [← mkM_of r c S hl]
   unfold paM
   refine mkM_congr (fun p q _ _=>?_)
   rw [Nat.zero_add,Nat.zero_add]
   rfl
  rw [ps] at hn hx ⊢
  exact ⟨po,pc,rfl,hn,hx,hb2⟩
 ·have:=pgreatest_any r c pc j po (pvR r c S j) w' ⟨hp,pvR_len r c S hl j,r6,c6⟩ (by omega) (by omega) (hT.all hb)
  rw [lR j] at this
  exact this
 ·have:=chB_any r c pc j (pvA r c (pvR r c S j) j) po (pvR r c S j) w' ⟨hp,pvR_len r c S hl j,r6,c6⟩ (by omega) (pvA_lt r c _ (by omega))
  rw [lR j] at this
  exact this
 ·exact chI_any c j (pvA r c (pvR r c S j) j) pg (pvP r c S j) w' hp (pvP_len r c S j) c6 (hsm j (by omega)) (by omega) (pvA_lt r c _ (by omega))
 ·have:=down_any r c S.length j (some ⟨g,0,none⟩) (pvW r c (pvR r c S j) j) w' ⟨hp,pvW_len r c _ _,r6,c6⟩ hj2 (by omega) (hT.all hb)
  rw [lW j] at this
  have e:pvR r c S (j+1) = qrS r c (pvW r c (pvR r c S j) j) j:=by
   show pvS r c (pvR r c S j) j = _
   unfold pvS
   rw [if_pos hj2]
  rw [e]
  exact this
theorem up_left (r:Nat) (X:Nat→List Nat) (K:Nat):∀ t d,finL (upQ r X K (t+d)) = true→finL (upQ r X K t) = true:=by
 intro t d
 induction d with
 | zero=>exact fun h=>h
 | succ d ih=>exact fun h=>ih (ap_left (upQ_len r X K (t+d)) _ _ _ _ h)
theorem pup_any (r c lc:Nat) (lo:Option Addr) (S:List Nat) (R:List Mr) (w:World) (hr:r≤6) (hl:OwnMt 0 w (.slice lo (qrN r c) lc) R) (hRl:R.length = qrN r c) (hRm:∀ k,k < qrN r c→(mrAt R k).V = mrV (pvX r c S k)∧(mrAt R k).tau = mrT (pvX r c S k)) (hT:Tab w) :
  Calls Tryz.prog 32 #[.int .i64 r,.slice lo (qrN r c) lc] w fun e w'=>∃ Q qo qc,(Q = pfQ r c S ∨ (fnK (mxL Q) (r * r) = false∧finL (pfQ r c S) = false))∧Q.length = r * r∧e = .returned (.agg #[.int .i64 r,.int .i64 r,.slice qo (r * r) qc])∧NewB w.heap.size qo (mxL Q)∧BitsAt w' qo qc (mxL Q)∧Below w.heap.size w w':=by
 have lV:∀ j,(mrV (pvX r c S j)).length = r - j:=fun j=>by rw [mrV_len,pvX_len]
 have hK:qrN r c≤6:=by unfold qrN;omega
 refine (upright_of r (r * r) (qrN r c) lc lo (fun j=>mrV (pvX r c S j)) (upQ r (pvX r c S) (qrN r c)) (fun j=>mrT (pvX r c S j)) R w (Nat.mul_le_mul hr hr) hK hl hRl hRm (upQ_len r _ _) lV ?_ ?_ (fun w' x hx=>sfinite_any x w' hx)).mono ?_
 ·intro w'
  refine (mEye_ok r w' hr).mono ?_
  rintro e w'' ⟨v,rfl,⟨qo,qc,rfl,hn,hb⟩,hb2⟩
  exact ⟨qo,qc,by rw [show (eyM r).length = r * r from mkM_len r r _],hn,hb,hb2⟩
 ·intro w' t j po pc vo vc ht hj hb hp hv
  have hj2:=(qrN_lt r c j).1 (by omega)
  have:=hApply_ok r r pc j 0 vc (mrT (pvX r c S j)) po vo (upQ r (pvX r c S) (qrN r c) t) (mrV (pvX r c S j)) w' ⟨hp,upQ_len r _ _ t,hr,hr⟩ hv (by rw [lV];omega) (by omega) (mrT_lt _) (hT.all hb)
  rw [upQ_len,lV] at this
  refine this.mono ?_
  rintro e w'' ⟨v,rfl,⟨qo,qc,rfl,hn,hx⟩,hb2⟩
  rw [apM_len]
  have e:apM r r (upQ r (pvX r c S) (qrN r c) t) j 0 (mrV (pvX r c S j)) (mrT (pvX r c S j)) = upQ r (pvX r c S) (qrN r c) (t+1):=by
   show _ = apM r r (upQ r (pvX r c S) (qrN r c) t) (qrN r c - 1 - t) 0 (mrV (pvX r c S (qrN r c - 1 - t))) (mrT (pvX r c S (qrN r c - 1 - t)))
   rw [← hj]
  rw [e] at hn hx
  exact ⟨qo,qc,rfl,hn,hx,hb2⟩
 ·rintro e w' ⟨t,qo,qc,ht,hor,rfl,hn,hx,hb⟩
  refine ⟨_,qo,qc,?_,upQ_len r _ _ t,rfl,hn,hx,hb⟩
  rcases hor with e | e
  ·left;rw [e];rfl
  ·right
   refine ⟨e,?_⟩
   cases hf:finL (pfQ r c S)
   ·rfl
   ·have h2:=up_left r (pvX r c S) (qrN r c) t (qrN r c - t) (by rw [show t+(qrN r c - t) = qrN r c by omega];exact hf)
    unfold finL at h2
    rw [upQ_len,e] at h2
    cases h2
theorem pFactor_any (r c cap:Nat) (ao:Option Addr) (S:List Nat) (w:World) (h:Mx w ao cap r c S) (hf:finL S = true) (hT:Tab w) :
  Calls Tryz.prog 9 #[.agg #[.int .i64 r,.int .i64 c,.slice ao S.length cap]] w fun e w'=>(pfK r c S = true∧PivYes w r c S e w') ∨ (pfK r c S = false∧PivErr w 2 e w'):=by
 have hl:=h.2.1
 have r6:=h.2.2.1;have c6:=h.2.2.2
 have h36:=h.small
 have hq36:r * r≤36:=Nat.mul_le_mul r6 r6
 have lr:(pfR r c S).length = S.length:=(pvR_len r c S hl _).trans hl.symm
 have lq:(pfQ r c S).length = r * r:=upQ_len _ _ _ _
 have lp:(pfP r c S).length = c:=pvP_len _ _ _ _
 have hck:ckE (r:Int) (c:Int) (mxL S) = 0:=by
  unfold ckE
  rw [mxL_len,mx_ok h]
  have:fnK (mxL S) S.length = true:=hf
  rw [this]
  rfl
 refine (gfactor_of r c S.length (r * r) (qrN r c) cap ao (pfR r c S) (pfQ r c S) (pfP r c S) (fun j=>mrV (pvX r c S j)) (fun j=>mrT (pvX r c S j)) (pvK r c S (min c r)) (finL (pfQ r c S)) (finL (pfR r c S)) w lr lq (by unfold finL;rw [lq]) ?_ (fun w' hb=>ptri_any r c cap ao S w' (h.below hb) (hT.all hb)) (fun w' lo lc R hb h1 h2 h3=>pup_any r c lc lo S R w' r6 h1 h2 h3 (hT.all hb)) ?_ ?_).mono ?_
 ·intro w' hb
  have:=ccheck_any r c ao cap (mxL S) w' (h.1.below hb) (by rw [mxL_len];omega)
  rw [mxL_len,hck] at this
  exact this
 ·intro w' Q qo qc hb hl2
  have:=vFinite_any qo qc (mxL Q) w' hb (by rw [mxL_len];omega)
  rw [mxL_len,hl2] at this
  exact this
 ·intro w' ro rc hb
  have:=vFinite_any ro rc (mxL (pfR r c S)) w' hb (by rw [mxL_len];omega)
  unfold finL
  rw [mxL_len,lr] at this
  rw [lr]
  exact this
 ·rintro e w' ⟨hor,hb⟩
  rcases hor with ⟨hk,v,u,pg,rfl,h1,h2,hg,hp⟩ | ⟨hk,v,u,rfl,h1,h2⟩
  ·refine .inl ⟨hk,v,u,some ⟨pg,0,none⟩,c,rfl,h1,h2,.inr ⟨pg,0,rfl,hg⟩,?_,hb⟩
   have:=hp.ints (fun x hx=>by have:=pvP_small r c S (show min c r≤c by omega) x hx;omega)
   rw [lp] at this
   exact this
  ·exact .inr ⟨hk,v,u,none,0,rfl,h1,h2,hb⟩
theorem pFactor_yes (r c cap:Nat) (ao:Option Addr) (S:List Nat) (w:World) (h:Mx w ao cap r c S) (hf:finL S = true) (hk:pfK r c S = true) (hT:Tab w) :
  Calls Tryz.prog 9 #[.agg #[.int .i64 r,.int .i64 c,.slice ao S.length cap]] w (PivYes w r c S):=by
 refine (pFactor_any r c cap ao S w h hf hT).mono ?_
 rintro e w' (⟨_,h1⟩ | ⟨hk2,_⟩)
 ·exact h1
 ·rw [hk] at hk2;cases hk2
end Go.Proofs.YtnnfjeieennffaaGreatDoor
namespace Go.Proofs.YtnnfjeieennffaaGreatDoor
open Go.RowKit
attribute [local go_sem ↓] Go.wp_at_zero Go.wp_at_succ
theorem rtold_of (r c n cap m a0 b0 sh:Nat) (ao:Option Addr) (d ad:Nat→Nat) (f:Nat→Bool) (w:World) (hr:r≤6) (hc:c≤6)
  (hm:∀ k,k≤r→k≤c→(∀ j,j < k→f j = true)→(¬ (k < r∧k < c) ∨ f k = false)→k = m)
  (C1:∀ w',Below w.heap.size w w'→0 < r→0 < c→Calls Tryz.prog 50 #[.agg #[.int .i64 r,.int .i64 c,.slice ao n cap],.int .i64 0,.int .i64 0] w' fun e w''=>e = .returned (.int .u64 (a0:Nat))∧Below w'.heap.size w' w'')
  (C2:∀ w',Calls Tryz.prog 49 #[.int .u64 a0] w' fun e w''=>e = .returned (.int .u64 (b0:Nat))∧Below w'.heap.size w' w'')
  (C3:∀ w',Calls Tryz.prog 48 #[.int .u64 b0,.int .i64 (-40)] w' fun e w''=>e = .returned (.int .u64 (sh:Nat))∧Below w'.heap.size w' w'')
  (C4:∀ w' k,Below w.heap.size w w'→k < r→k < c→Calls Tryz.prog 50 #[.agg #[.int .i64 r,.int .i64 c,.slice ao n cap],.int .i64 (k:Nat),.int .i64 (k:Nat)] w' fun e w''=>e = .returned (.int .u64 (d k:Nat))∧Below w'.heap.size w' w'')
  (C5:∀ w' k,Calls Tryz.prog 49 #[.int .u64 (d k:Nat)] w' fun e w''=>e = .returned (.int .u64 (ad k:Nat))∧Below w'.heap.size w' w'')
  (C6:∀ w' k,Calls Tryz.prog 47 #[.int .u64 sh,.int .u64 (ad k:Nat)] w' fun e w''=>e = .returned (.bool (f k))∧Below w'.heap.size w' w'') :
  Calls Tryz.prog 16 #[.agg #[.int .i64 r,.int .i64 c,.slice ao n cap]] w fun e w'=>e = .returned (.int .i64 (m:Nat))∧Below w.heap.size w w':=by
 have HB:=hide (below_alloc9 w (.cells #[.int .i64 r,.int .i64 c,.slice ao n cap] 24))
 have HX:=hide (BoxM.new w (.int .i64 r) (.int .i64 c) (.slice ao n cap))
 have K1:=hide C1;have K2:=hide C2;have K3:=hide C3;have K4:=hide C4;have K5:=hide C5;have K6:=hide C6;have HM:=hide hm
 clear C1 C2 C3 C4 C5 C6 hm
 go_enter Tryz.func16,Tryz.ntmps16
 go_wp2_with fail
 go_loopw [3] (fun a wr=>∃ k:Nat,k≤r∧k≤c∧a = .int .i64 k∧Hid (∀ j,j < k→f j = true)∧Hid (BoxM wr w.heap.size (.int .i64 r) (.int .i64 c) (.slice ao n cap))∧Hid (Below w.heap.size w wr)) (fun a _=>r - (intOf a).toNat)
 case atStart=>exact ⟨0,Nat.zero_le _,Nat.zero_le _,rfl,fun j hj=>absurd hj (Nat.not_lt_zero j),HX,HB⟩
 case round =>
  clear HX HB
  obtain ⟨k,hkr,hkc,rfl,hF,hX,hB⟩:=hrel
  have HK:=hide (fun w' (h:Below wr.heap.size wr w')=>(show Below wr.heap.size wr w'∧(w'.cell? ⟨w.heap.size,0,none⟩ = some (.int .i64 (r:Nat))∧w'.cell? ⟨w.heap.size,1,none⟩ = some (.int .i64 (c:Nat))∧w'.cell? ⟨w.heap.size,2,none⟩ = some (.slice ao n cap)) from ⟨h,((uH hX).all h).c0,((uH hX).all h).c1,((uH hX).all h).c2⟩))
  have hw:(k < r∧k < c) ∨ (r≤k ∨ (k < r∧c≤k)):=by omega
  rcases hw with ⟨h1,h2⟩ | hge
  ·have h1I:(k:Int) < (r:Int):=by omega
   have h2I:(k:Int) < (c:Int):=by omega
   have hw1:IntKind.i64.wrap ((k:Int)+1) = (k:Int)+1:=wrap_in _ (by omega)
   have HW:=hide (fun w' (h:Below wr.heap.size wr w')=>(uH hB).trans (h.mono (uH hB).size))
   have G4:=hide (fun w' hb=>uH K4 w' k hb h1 h2);have G5:=hide (fun w'=>uH K5 w' k);have G6:=hide (fun w'=>uH K6 w' k)
   have HE:=hide (fun (h:f k = false)=>uH HM k (by omega) (by omega) (uH hF) (.inr h))
   generalize hfk:f k = b at *
   generalize d k = dk at *
   generalize ad k = ak at *
   go_wp2_with fail
   go_region_held3 (fun w'=>Below wr.heap.size wr w'∧(w'.cell? ⟨w.heap.size,0,none⟩ = some (.int .i64 (r:Nat))∧w'.cell? ⟨w.heap.size,1,none⟩ = some (.int .i64 (c:Nat))∧w'.cell? ⟨w.heap.size,2,none⟩ = some (.slice ao n cap)))
    (first | exact uH HK _ (Below.refl _ _).drew | exact uH HK _ (by assumption) | fail "KK")
    (first
     | (go_at_call 50;refine (uH K1 _ (uH HW _ (And.left (by assumption))) (by omega) (by omega)).mono ?_;rintro e w2 ⟨rfl,hb⟩;have hB2:Below wr.heap.size wr w2:=Below.trans (And.left (by assumption)) (hb.mono (Below.size (And.left (by assumption))));clear hb K1)
     | (go_at_call 49;refine (uH K2 _).mono ?_;rintro e w3 ⟨rfl,hb⟩;have hB3:Below wr.heap.size wr w3:=Below.trans (And.left (by assumption)) (hb.mono (Below.size (And.left (by assumption))));clear hb K2)
     | (go_at_call 48;refine (uH K3 _).mono ?_;rintro e w4 ⟨rfl,hb⟩;have hB4:Below wr.heap.size wr w4:=Below.trans (And.left (by assumption)) (hb.mono (Below.size (And.left (by assumption))));clear hb)
     | (go_at_call 50;refine (uH G4 _ (uH HW _ (And.left (by assumption)))).mono ?_;rintro e w5 ⟨rfl,hb⟩;have hB5:Below wr.heap.size wr w5:=Below.trans (And.left (by assumption)) (hb.mono (Below.size (And.left (by assumption))));clear hb)
     | (go_at_call 49;refine (uH G5 _).mono ?_;rintro e w6 ⟨rfl,hb⟩;have hB6:Below wr.heap.size wr w6:=Below.trans (And.left (by assumption)) (hb.mono (Below.size (And.left (by assumption))));clear hb)
     | (go_at_call 47;refine (uH G6 _).mono ?_;rintro e w7 ⟨rfl,hb⟩;have hB7:Below wr.heap.size wr w7:=Below.trans (And.left (by assumption)) (hb.mono (Below.size (And.left (by assumption))));clear hb)
     | fail "NO ARM")
   have B7:Below wr.heap.size wr w7:=hB7
   replace hX:=hide ((uH hX).all B7)
   have BE:=hide ((uH hB).trans (B7.mono (uH hB).size))
   clear hB HK HW
   cases b with
   | false =>
    have HE2:=hide (uH HE rfl)
    clear HE
    go_wp2_with fail
    go_ret
    exact ⟨by rw [← uH HE2];rfl,uH BE⟩
   | true =>
    go_wp2_with fail
    go_round
    case rel =>
     refine ⟨k+1,by omega,by omega,by go_num,?_,hX,BE⟩
     show ∀ j,j < k+1→f j = true
     intro j hj
     rcases Nat.lt_or_ge j k with g | g
     ·exact uH hF j g
     ·rw [show j = k by omega];exact hfk
    case measure=>simp [intOf];omega
  ·have HE:=hide (uH HM k hkr hkc (uH hF) (.inl (by omega)))
   rcases hge with h1 | ⟨h1,h2⟩
   ·have h1I:¬ (k:Int) < (r:Int):=by omega
    go_wp2_with fail
    refine wp_region_held_drew (S:=(fun w'=>Below wr.heap.size wr w'∧(w'.cell? ⟨w.heap.size,0,none⟩ = some (.int .i64 (r:Nat))∧w'.cell? ⟨w.heap.size,1,none⟩ = some (.int .i64 (c:Nat))∧w'.cell? ⟨w.heap.size,2,none⟩ = some (.slice ao n cap)))) (by kernel_rfl) ?_ (fun hHeld=>?_)
    ·exact uH HK _ (Below.refl _ _).drew
    refine wpAnyH_take (i:=0) (oi:={ dst:=some 4,op:=Op.move (Operand.tmp 3),type:=3,pos := "ref.go:113",after:=#[],guard:=none }) (v:=(Value.int .i64 (k:Nat))) rfl (by kernel_rfl) (by kernel_rfl) (by kernel_rfl) (fun _ _ _ h=>h) (Or.inl ⟨by rfl,?_⟩) (by assumption) ?_
    ·(intro w hSw;(try dsimp only at hSw);go_simp)
    simp only [Act.put,List.setIfInBounds_toArray,List.set_cons_zero,List.set_cons_succ]
    refine wpAnyH_take (i:=1) (oi:={ dst:=some 5,op:=Op.fieldAddr 24 (Operand.tmp 1) 0,type:=0,pos := "ref.go:113",after:=#[],guard:=none }) (v:=(Value.pointer (some ⟨w.heap.size,0,none⟩))) rfl (by kernel_rfl) (by kernel_rfl) (by kernel_rfl) (fun _ _ _ h=>h) (Or.inl ⟨by rfl,?_⟩) (by assumption) ?_
    ·(intro w hSw;(try dsimp only at hSw);go_simp)
    simp only [Act.put,List.setIfInBounds_toArray,List.set_cons_zero,List.set_cons_succ]
    refine wpAnyH_take (i:=2) (oi:={ dst:=some 6,op:=Op.load 3 (Operand.tmp 5),type:=3,pos := "ref.go:113",after:=#[{ on:=1,ground:=Ground.data }],guard:=none }) (v:=(Value.int .i64 (r:Nat))) rfl (by kernel_rfl) (by kernel_rfl) (by kernel_rfl) (fun _ _ _ h=>h) (Or.inl ⟨by rfl,?_⟩) (by assumption) ?_
    ·(intro w hSw;(try dsimp only at hSw);go_simp)
    simp only [Act.put,List.setIfInBounds_toArray,List.set_cons_zero,List.set_cons_succ]
    refine wpAnyH_take (i:=3) (oi:={ dst:=some 7,op:=Op.binOp BinOp.lss 3 (Operand.tmp 4) (Operand.tmp 6) 3,type:=4,pos := "ref.go:113",after:=#[{ on:=0,ground:=Ground.data },{ on:=2,ground:=Ground.data }],guard:=none }) (v:=(Value.bool false)) rfl (by kernel_rfl) (by kernel_rfl) (by kernel_rfl) (fun _ _ _ h=>h) (Or.inl ⟨by rfl,?_⟩) (by assumption) ?_
    ·(intro w hSw;(try dsimp only at hSw);go_simp)
    simp only [Act.put,List.setIfInBounds_toArray,List.set_cons_zero,List.set_cons_succ]
    refine wpAnyH_take (i:=4) (oi:={ dst:=some 8,op:=Op.move (Operand.tmp 7),type:=4,pos := "ref.go:113",after:=#[{ on:=3,ground:=Ground.data }],guard:=none }) (v:=(Value.bool false)) rfl (by kernel_rfl) (by kernel_rfl) (by kernel_rfl) (fun _ _ _ h=>h) (Or.inl ⟨by rfl,?_⟩) (by assumption) ?_
    ·(intro w hSw;(try dsimp only at hSw);go_simp)
    simp only [Act.put,List.setIfInBounds_toArray,List.set_cons_zero,List.set_cons_succ]
    refine wpAnyH_take (i:=5) (oi:={ dst:=some 9,op:=Op.move (Operand.tmp 3),type:=3,pos := "ref.go:113",after:=#[{ on:=4,ground:=Ground.guard }],guard:=some (4,true) }) (v:=undef) rfl (by kernel_rfl) (by kernel_rfl) (by kernel_rfl) (fun _ _ _ h=>h) (Or.inr ⟨by rfl,rfl⟩) (by assumption) ?_
    simp only [Act.put,List.setIfInBounds_toArray,List.set_cons_zero,List.set_cons_succ]
    refine wpAnyH_take (i:=6) (oi:={ dst:=some 10,op:=Op.fieldAddr 24 (Operand.tmp 1) 1,type:=0,pos := "ref.go:113",after:=#[{ on:=4,ground:=Ground.guard }],guard:=some (4,true) }) (v:=undef) rfl (by kernel_rfl) (by kernel_rfl) (by kernel_rfl) (fun _ _ _ h=>h) (Or.inr ⟨by rfl,rfl⟩) (by assumption) ?_
    simp only [Act.put,List.setIfInBounds_toArray,List.set_cons_zero,List.set_cons_succ]
    refine wpAnyH_take (i:=7) (oi:={ dst:=some 11,op:=Op.load 3 (Operand.tmp 10),type:=3,pos := "ref.go:113",after:=#[{ on:=6,ground:=Ground.data },{ on:=4,ground:=Ground.guard }],guard:=some (4,true) }) (v:=undef) rfl (by kernel_rfl) (by kernel_rfl) (by kernel_rfl) (fun _ _ _ h=>h) (Or.inr ⟨by rfl,rfl⟩) (by assumption) ?_
    simp only [Act.put,List.setIfInBounds_toArray,List.set_cons_zero,List.set_cons_succ]
    refine wpAnyH_take (i:=8) (oi:={ dst:=some 12,op:=Op.binOp BinOp.lss 3 (Operand.tmp 9) (Operand.tmp 11) 3,type:=4,pos := "ref.go:113",after:=#[{ on:=5,ground:=Ground.data },{ on:=7,ground:=Ground.data },{ on:=4,ground:=Ground.guard }],guard:=some (4,true) }) (v:=undef) rfl (by kernel_rfl) (by kernel_rfl) (by kernel_rfl) (fun _ _ _ h=>h) (Or.inr ⟨by rfl,rfl⟩) (by assumption) ?_
    simp only [Act.put,List.setIfInBounds_toArray,List.set_cons_zero,List.set_cons_succ]
    refine wpAnyH_take (i:=9) (oi:={ dst:=some 13,op:=Op.pick (Operand.tmp 8) (Operand.tmp 12) (Operand.const (Value.bool false)),type:=4,pos := "ref.go:113",after:=#[{ on:=4,ground:=Ground.data },{ on:=8,ground:=Ground.data }],guard:=none }) (v:=(Value.bool false)) rfl (by kernel_rfl) (by kernel_rfl) (by kernel_rfl) (fun _ _ _ h=>h) (Or.inl ⟨by rfl,?_⟩) (by assumption) ?_
    ·(intro w hSw;(try dsimp only at hSw);go_simp)
    simp only [Act.put,List.setIfInBounds_toArray,List.set_cons_zero,List.set_cons_succ]
    refine wpAnyH_take (i:=10) (oi:={ dst:=some 14,op:=Op.move (Operand.tmp 13),type:=4,pos := "ref.go:113",after:=#[{ on:=9,ground:=Ground.data },{ on:=4,ground:=Ground.chain }],guard:=none }) (v:=(Value.bool false)) rfl (by kernel_rfl) (by kernel_rfl) (by kernel_rfl) (fun _ _ _ h=>h) (Or.inl ⟨by rfl,?_⟩) (by assumption) ?_
    ·(intro w hSw;(try dsimp only at hSw);go_simp)
    simp only [Act.put,List.setIfInBounds_toArray,List.set_cons_zero,List.set_cons_succ]
    refine wpAnyH_take (i:=11) (oi:={ dst:=some 15,op:=Op.load 24 (Operand.tmp 1),type:=24,pos := "ref.go:113",after:=#[{ on:=10,ground:=Ground.guard }],guard:=some (10,true) }) (v:=undef) rfl (by kernel_rfl) (by kernel_rfl) (by kernel_rfl) (fun _ _ _ h=>h) (Or.inr ⟨by rfl,rfl⟩) (by assumption) ?_
    simp only [Act.put,List.setIfInBounds_toArray,List.set_cons_zero,List.set_cons_succ]
    refine wpAnyH_take (i:=12) (oi:={ dst:=some 16,op:=Op.call { callee:=Callee.value (Operand.func 50),args:=#[Operand.tmp 15,Operand.const (Value.int IntKind.i64 0),Operand.const (Value.int IntKind.i64 0)],argTypes:=#[24,3,3] },type:=31,pos := "ref.go:113",after:=#[{ on:=11,ground:=Ground.data },{ on:=10,ground:=Ground.chain },{ on:=10,ground:=Ground.guard }],guard:=some (10,true) }) (v:=undef) rfl (by kernel_rfl) (by kernel_rfl) (by kernel_rfl) (fun _ _ _ h=>h) (Or.inr ⟨by rfl,rfl⟩) (by assumption) ?_
    simp only [Act.put,List.setIfInBounds_toArray,List.set_cons_zero,List.set_cons_succ]
    refine wpAnyH_take (i:=13) (oi:={ dst:=some 17,op:=Op.call { callee:=Callee.value (Operand.func 49),args:=#[Operand.tmp 16],argTypes:=#[31] },type:=31,pos := "ref.go:113",after:=#[{ on:=12,ground:=Ground.data },{ on:=12,ground:=Ground.chain },{ on:=10,ground:=Ground.guard }],guard:=some (10,true) }) (v:=undef) rfl (by kernel_rfl) (by kernel_rfl) (by kernel_rfl) (fun _ _ _ h=>h) (Or.inr ⟨by rfl,rfl⟩) (by assumption) ?_
    simp only [Act.put,List.setIfInBounds_toArray,List.set_cons_zero,List.set_cons_succ]
    refine wpAnyH_take (i:=14) (oi:={ dst:=some 18,op:=Op.call { callee:=Callee.value (Operand.func 48),args:=#[Operand.tmp 17,Operand.const (Value.int IntKind.i64 (-40))],argTypes:=#[31,3] },type:=31,pos := "ref.go:113",after:=#[{ on:=13,ground:=Ground.data },{ on:=13,ground:=Ground.chain },{ on:=10,ground:=Ground.guard }],guard:=some (10,true) }) (v:=undef) rfl (by kernel_rfl) (by kernel_rfl) (by kernel_rfl) (fun _ _ _ h=>h) (Or.inr ⟨by rfl,rfl⟩) (by assumption) ?_
    simp only [Act.put,List.setIfInBounds_toArray,List.set_cons_zero,List.set_cons_succ]
    refine wpAnyH_take (i:=15) (oi:={ dst:=some 19,op:=Op.load 24 (Operand.tmp 1),type:=24,pos := "ref.go:113",after:=#[{ on:=10,ground:=Ground.guard }],guard:=some (10,true) }) (v:=undef) rfl (by kernel_rfl) (by kernel_rfl) (by kernel_rfl) (fun _ _ _ h=>h) (Or.inr ⟨by rfl,rfl⟩) (by assumption) ?_
    simp only [Act.put,List.setIfInBounds_toArray,List.set_cons_zero,List.set_cons_succ]
    refine wpAnyH_take (i:=16) (oi:={ dst:=some 20,op:=Op.move (Operand.tmp 3),type:=3,pos := "ref.go:113",after:=#[{ on:=10,ground:=Ground.guard }],guard:=some (10,true) }) (v:=undef) rfl (by kernel_rfl) (by kernel_rfl) (by kernel_rfl) (fun _ _ _ h=>h) (Or.inr ⟨by rfl,rfl⟩) (by assumption) ?_
    simp only [Act.put,List.setIfInBounds_toArray,List.set_cons_zero,List.set_cons_succ]
    refine wpAnyH_take (i:=17) (oi:={ dst:=some 21,op:=Op.move (Operand.tmp 3),type:=3,pos := "ref.go:113",after:=#[{ on:=10,ground:=Ground.guard }],guard:=some (10,true) }) (v:=undef) rfl (by kernel_rfl) (by kernel_rfl) (by kernel_rfl) (fun _ _ _ h=>h) (Or.inr ⟨by rfl,rfl⟩) (by assumption) ?_
    simp only [Act.put,List.setIfInBounds_toArray,List.set_cons_zero,List.set_cons_succ]
    refine wpAnyH_take (i:=18) (oi:={ dst:=some 22,op:=Op.call { callee:=Callee.value (Operand.func 50),args:=#[Operand.tmp 19,Operand.tmp 20,Operand.tmp 21],argTypes:=#[24,3,3] },type:=31,pos := "ref.go:113",after:=#[{ on:=15,ground:=Ground.data },{ on:=16,ground:=Ground.data },{ on:=17,ground:=Ground.data },{ on:=14,ground:=Ground.chain },{ on:=10,ground:=Ground.guard }],guard:=some (10,true) }) (v:=undef) rfl (by kernel_rfl) (by kernel_rfl) (by kernel_rfl) (fun _ _ _ h=>h) (Or.inr ⟨by rfl,rfl⟩) (by assumption) ?_
    simp only [Act.put,List.setIfInBounds_toArray,List.set_cons_zero,List.set_cons_succ]
    refine wpAnyH_take (i:=19) (oi:={ dst:=some 23,op:=Op.call { callee:=Callee.value (Operand.func 49),args:=#[Operand.tmp 22],argTypes:=#[31] },type:=31,pos := "ref.go:113",after:=#[{ on:=18,ground:=Ground.data },{ on:=18,ground:=Ground.chain },{ on:=10,ground:=Ground.guard }],guard:=some (10,true) }) (v:=undef) rfl (by kernel_rfl) (by kernel_rfl) (by kernel_rfl) (fun _ _ _ h=>h) (Or.inr ⟨by rfl,rfl⟩) (by assumption) ?_
    simp only [Act.put,List.setIfInBounds_toArray,List.set_cons_zero,List.set_cons_succ]
    refine wpAnyH_take (i:=20) (oi:={ dst:=some 24,op:=Op.call { callee:=Callee.value (Operand.func 47),args:=#[Operand.tmp 18,Operand.tmp 23],argTypes:=#[31,31] },type:=4,pos := "ref.go:113",after:=#[{ on:=14,ground:=Ground.data },{ on:=19,ground:=Ground.data },{ on:=19,ground:=Ground.chain },{ on:=10,ground:=Ground.guard }],guard:=some (10,true) }) (v:=undef) rfl (by kernel_rfl) (by kernel_rfl) (by kernel_rfl) (fun _ _ _ h=>h) (Or.inr ⟨by rfl,rfl⟩) (by assumption) ?_
    simp only [Act.put,List.setIfInBounds_toArray,List.set_cons_zero,List.set_cons_succ]
    refine wpAnyH_take (i:=21) (oi:={ dst:=some 25,op:=Op.pick (Operand.tmp 14) (Operand.tmp 24) (Operand.const (Value.bool false)),type:=4,pos := "ref.go:113",after:=#[{ on:=10,ground:=Ground.data },{ on:=20,ground:=Ground.data }],guard:=none }) (v:=(Value.bool false)) rfl (by kernel_rfl) (by kernel_rfl) (by kernel_rfl) (fun _ _ _ h=>h) (Or.inl ⟨by rfl,?_⟩) (by assumption) ?_
    ·(intro w hSw;(try dsimp only at hSw);go_simp)
    simp only [Act.put,List.setIfInBounds_toArray,List.set_cons_zero,List.set_cons_succ]
    refine wpAnyH_done (by kernel_rfl) ?_ _
    clear HK hX
    have BE:=hide ((uH hB).trans ((And.left (show Below wr.heap.size wr _∧_ from by assumption)).mono (uH hB).size))
    clear hB
    go_wp2_with fail
    go_ret
    exact ⟨by rw [← uH HE];rfl,uH BE⟩
   ·have h1I:(k:Int) < (r:Int):=by omega
    have h2I:¬ (k:Int) < (c:Int):=by omega
    go_wp2_with fail
    refine wp_region_held_drew (S:=(fun w'=>Below wr.heap.size wr w'∧(w'.cell? ⟨w.heap.size,0,none⟩ = some (.int .i64 (r:Nat))∧w'.cell? ⟨w.heap.size,1,none⟩ = some (.int .i64 (c:Nat))∧w'.cell? ⟨w.heap.size,2,none⟩ = some (.slice ao n cap)))) (by kernel_rfl) ?_ (fun hHeld=>?_)
    ·exact uH HK _ (Below.refl _ _).drew
    refine wpAnyH_take (i:=0) (oi:={ dst:=some 4,op:=Op.move (Operand.tmp 3),type:=3,pos := "ref.go:113",after:=#[],guard:=none }) (v:=(Value.int .i64 (k:Nat))) rfl (by kernel_rfl) (by kernel_rfl) (by kernel_rfl) (fun _ _ _ h=>h) (Or.inl ⟨by rfl,?_⟩) (by assumption) ?_
    ·(intro w hSw;(try dsimp only at hSw);go_simp)
    simp only [Act.put,List.setIfInBounds_toArray,List.set_cons_zero,List.set_cons_succ]
    refine wpAnyH_take (i:=1) (oi:={ dst:=some 5,op:=Op.fieldAddr 24 (Operand.tmp 1) 0,type:=0,pos := "ref.go:113",after:=#[],guard:=none }) (v:=(Value.pointer (some ⟨w.heap.size,0,none⟩))) rfl (by kernel_rfl) (by kernel_rfl) (by kernel_rfl) (fun _ _ _ h=>h) (Or.inl ⟨by rfl,?_⟩) (by assumption) ?_
    ·(intro w hSw;(try dsimp only at hSw);go_simp)
    simp only [Act.put,List.setIfInBounds_toArray,List.set_cons_zero,List.set_cons_succ]
    refine wpAnyH_take (i:=2) (oi:={ dst:=some 6,op:=Op.load 3 (Operand.tmp 5),type:=3,pos := "ref.go:113",after:=#[{ on:=1,ground:=Ground.data }],guard:=none }) (v:=(Value.int .i64 (r:Nat))) rfl (by kernel_rfl) (by kernel_rfl) (by kernel_rfl) (fun _ _ _ h=>h) (Or.inl ⟨by rfl,?_⟩) (by assumption) ?_
    ·(intro w hSw;(try dsimp only at hSw);go_simp)
    simp only [Act.put,List.setIfInBounds_toArray,List.set_cons_zero,List.set_cons_succ]
    refine wpAnyH_take (i:=3) (oi:={ dst:=some 7,op:=Op.binOp BinOp.lss 3 (Operand.tmp 4) (Operand.tmp 6) 3,type:=4,pos := "ref.go:113",after:=#[{ on:=0,ground:=Ground.data },{ on:=2,ground:=Ground.data }],guard:=none }) (v:=(Value.bool true)) rfl (by kernel_rfl) (by kernel_rfl) (by kernel_rfl) (fun _ _ _ h=>h) (Or.inl ⟨by rfl,?_⟩) (by assumption) ?_
    ·(intro w hSw;(try dsimp only at hSw);go_simp)
    simp only [Act.put,List.setIfInBounds_toArray,List.set_cons_zero,List.set_cons_succ]
    refine wpAnyH_take (i:=4) (oi:={ dst:=some 8,op:=Op.move (Operand.tmp 7),type:=4,pos := "ref.go:113",after:=#[{ on:=3,ground:=Ground.data }],guard:=none }) (v:=(Value.bool true)) rfl (by kernel_rfl) (by kernel_rfl) (by kernel_rfl) (fun _ _ _ h=>h) (Or.inl ⟨by rfl,?_⟩) (by assumption) ?_
    ·(intro w hSw;(try dsimp only at hSw);go_simp)
    simp only [Act.put,List.setIfInBounds_toArray,List.set_cons_zero,List.set_cons_succ]
    refine wpAnyH_take (i:=5) (oi:={ dst:=some 9,op:=Op.move (Operand.tmp 3),type:=3,pos := "ref.go:113",after:=#[{ on:=4,ground:=Ground.guard }],guard:=some (4,true) }) (v:=(Value.int .i64 (k:Nat))) rfl (by kernel_rfl) (by kernel_rfl) (by kernel_rfl) (fun _ _ _ h=>h) (Or.inl ⟨by rfl,?_⟩) (by assumption) ?_
    ·(intro w hSw;(try dsimp only at hSw);go_simp)
    simp only [Act.put,List.setIfInBounds_toArray,List.set_cons_zero,List.set_cons_succ]
    refine wpAnyH_take (i:=6) (oi:={ dst:=some 10,op:=Op.fieldAddr 24 (Operand.tmp 1) 1,type:=0,pos := "ref.go:113",after:=#[{ on:=4,ground:=Ground.guard }],guard:=some (4,true) }) (v:=(Value.pointer (some ⟨w.heap.size,1,none⟩))) rfl (by kernel_rfl) (by kernel_rfl) (by kernel_rfl) (fun _ _ _ h=>h) (Or.inl ⟨by rfl,?_⟩) (by assumption) ?_
    ·(intro w hSw;(try dsimp only at hSw);go_simp)
    simp only [Act.put,List.setIfInBounds_toArray,List.set_cons_zero,List.set_cons_succ]
    refine wpAnyH_take (i:=7) (oi:={ dst:=some 11,op:=Op.load 3 (Operand.tmp 10),type:=3,pos := "ref.go:113",after:=#[{ on:=6,ground:=Ground.data },{ on:=4,ground:=Ground.guard }],guard:=some (4,true) }) (v:=(Value.int .i64 (c:Nat))) rfl (by kernel_rfl) (by kernel_rfl) (by kernel_rfl) (fun _ _ _ h=>h) (Or.inl ⟨by rfl,?_⟩) (by assumption) ?_
    ·(intro w hSw;(try dsimp only at hSw);go_simp)
    simp only [Act.put,List.setIfInBounds_toArray,List.set_cons_zero,List.set_cons_succ]
    refine wpAnyH_take (i:=8) (oi:={ dst:=some 12,op:=Op.binOp BinOp.lss 3 (Operand.tmp 9) (Operand.tmp 11) 3,type:=4,pos := "ref.go:113",after:=#[{ on:=5,ground:=Ground.data },{ on:=7,ground:=Ground.data },{ on:=4,ground:=Ground.guard }],guard:=some (4,true) }) (v:=(Value.bool false)) rfl (by kernel_rfl) (by kernel_rfl) (by kernel_rfl) (fun _ _ _ h=>h) (Or.inl ⟨by rfl,?_⟩) (by assumption) ?_
    ·(intro w hSw;(try dsimp only at hSw);go_simp)
    simp only [Act.put,List.setIfInBounds_toArray,List.set_cons_zero,List.set_cons_succ]
    refine wpAnyH_take (i:=9) (oi:={ dst:=some 13,op:=Op.pick (Operand.tmp 8) (Operand.tmp 12) (Operand.const (Value.bool false)),type:=4,pos := "ref.go:113",after:=#[{ on:=4,ground:=Ground.data },{ on:=8,ground:=Ground.data }],guard:=none }) (v:=(Value.bool false)) rfl (by kernel_rfl) (by kernel_rfl) (by kernel_rfl) (fun _ _ _ h=>h) (Or.inl ⟨by rfl,?_⟩) (by assumption) ?_
    ·(intro w hSw;(try dsimp only at hSw);go_simp)
    simp only [Act.put,List.setIfInBounds_toArray,List.set_cons_zero,List.set_cons_succ]
    refine wpAnyH_take (i:=10) (oi:={ dst:=some 14,op:=Op.move (Operand.tmp 13),type:=4,pos := "ref.go:113",after:=#[{ on:=9,ground:=Ground.data },{ on:=4,ground:=Ground.chain }],guard:=none }) (v:=(Value.bool false)) rfl (by kernel_rfl) (by kernel_rfl) (by kernel_rfl) (fun _ _ _ h=>h) (Or.inl ⟨by rfl,?_⟩) (by assumption) ?_
    ·(intro w hSw;(try dsimp only at hSw);go_simp)
    simp only [Act.put,List.setIfInBounds_toArray,List.set_cons_zero,List.set_cons_succ]
    refine wpAnyH_take (i:=11) (oi:={ dst:=some 15,op:=Op.load 24 (Operand.tmp 1),type:=24,pos := "ref.go:113",after:=#[{ on:=10,ground:=Ground.guard }],guard:=some (10,true) }) (v:=undef) rfl (by kernel_rfl) (by kernel_rfl) (by kernel_rfl) (fun _ _ _ h=>h) (Or.inr ⟨by rfl,rfl⟩) (by assumption) ?_
    simp only [Act.put,List.setIfInBounds_toArray,List.set_cons_zero,List.set_cons_succ]
    refine wpAnyH_take (i:=12) (oi:={ dst:=some 16,op:=Op.call { callee:=Callee.value (Operand.func 50),args:=#[Operand.tmp 15,Operand.const (Value.int IntKind.i64 0),Operand.const (Value.int IntKind.i64 0)],argTypes:=#[24,3,3] },type:=31,pos := "ref.go:113",after:=#[{ on:=11,ground:=Ground.data },{ on:=10,ground:=Ground.chain },{ on:=10,ground:=Ground.guard }],guard:=some (10,true) }) (v:=undef) rfl (by kernel_rfl) (by kernel_rfl) (by kernel_rfl) (fun _ _ _ h=>h) (Or.inr ⟨by rfl,rfl⟩) (by assumption) ?_
    simp only [Act.put,List.setIfInBounds_toArray,List.set_cons_zero,List.set_cons_succ]
    refine wpAnyH_take (i:=13) (oi:={ dst:=some 17,op:=Op.call { callee:=Callee.value (Operand.func 49),args:=#[Operand.tmp 16],argTypes:=#[31] },type:=31,pos := "ref.go:113",after:=#[{ on:=12,ground:=Ground.data },{ on:=12,ground:=Ground.chain },{ on:=10,ground:=Ground.guard }],guard:=some (10,true) }) (v:=undef) rfl (by kernel_rfl) (by kernel_rfl) (by kernel_rfl) (fun _ _ _ h=>h) (Or.inr ⟨by rfl,rfl⟩) (by assumption) ?_
    simp only [Act.put,List.setIfInBounds_toArray,List.set_cons_zero,List.set_cons_succ]
    refine wpAnyH_take (i:=14) (oi:={ dst:=some 18,op:=Op.call { callee:=Callee.value (Operand.func 48),args:=#[Operand.tmp 17,Operand.const (Value.int IntKind.i64 (-40))],argTypes:=#[31,3] },type:=31,pos := "ref.go:113",after:=#[{ on:=13,ground:=Ground.data },{ on:=13,ground:=Ground.chain },{ on:=10,ground:=Ground.guard }],guard:=some (10,true) }) (v:=undef) rfl (by kernel_rfl) (by kernel_rfl) (by kernel_rfl) (fun _ _ _ h=>h) (Or.inr ⟨by rfl,rfl⟩) (by assumption) ?_
    simp only [Act.put,List.setIfInBounds_toArray,List.set_cons_zero,List.set_cons_succ]
    refine wpAnyH_take (i:=15) (oi:={ dst:=some 19,op:=Op.load 24 (Operand.tmp 1),type:=24,pos := "ref.go:113",after:=#[{ on:=10,ground:=Ground.guard }],guard:=some (10,true) }) (v:=undef) rfl (by kernel_rfl) (by kernel_rfl) (by kernel_rfl) (fun _ _ _ h=>h) (Or.inr ⟨by rfl,rfl⟩) (by assumption) ?_
    simp only [Act.put,List.setIfInBounds_toArray,List.set_cons_zero,List.set_cons_succ]
    refine wpAnyH_take (i:=16) (oi:={ dst:=some 20,op:=Op.move (Operand.tmp 3),type:=3,pos := "ref.go:113",after:=#[{ on:=10,ground:=Ground.guard }],guard:=some (10,true) }) (v:=undef) rfl (by kernel_rfl) (by kernel_rfl) (by kernel_rfl) (fun _ _ _ h=>h) (Or.inr ⟨by rfl,rfl⟩) (by assumption) ?_
    simp only [Act.put,List.setIfInBounds_toArray,List.set_cons_zero,List.set_cons_succ]
    refine wpAnyH_take (i:=17) (oi:={ dst:=some 21,op:=Op.move (Operand.tmp 3),type:=3,pos := "ref.go:113",after:=#[{ on:=10,ground:=Ground.guard }],guard:=some (10,true) }) (v:=undef) rfl (by kernel_rfl) (by kernel_rfl) (by kernel_rfl) (fun _ _ _ h=>h) (Or.inr ⟨by rfl,rfl⟩) (by assumption) ?_
    simp only [Act.put,List.setIfInBounds_toArray,List.set_cons_zero,List.set_cons_succ]
    refine wpAnyH_take (i:=18) (oi:={ dst:=some 22,op:=Op.call { callee:=Callee.value (Operand.func 50),args:=#[Operand.tmp 19,Operand.tmp 20,Operand.tmp 21],argTypes:=#[24,3,3] },type:=31,pos := "ref.go:113",after:=#[{ on:=15,ground:=Ground.data },{ on:=16,ground:=Ground.data },{ on:=17,ground:=Ground.data },{ on:=14,ground:=Ground.chain },{ on:=10,ground:=Ground.guard }],guard:=some (10,true) }) (v:=undef) rfl (by kernel_rfl) (by kernel_rfl) (by kernel_rfl) (fun _ _ _ h=>h) (Or.inr ⟨by rfl,rfl⟩) (by assumption) ?_
    simp only [Act.put,List.setIfInBounds_toArray,List.set_cons_zero,List.set_cons_succ]
    refine wpAnyH_take (i:=19) (oi:={ dst:=some 23,op:=Op.call { callee:=Callee.value (Operand.func 49),args:=#[Operand.tmp 22],argTypes:=#[31] },type:=31,pos := "ref.go:113",after:=#[{ on:=18,ground:=Ground.data },{ on:=18,ground:=Ground.chain },{ on:=10,ground:=Ground.guard }],guard:=some (10,true) }) (v:=undef) rfl (by kernel_rfl) (by kernel_rfl) (by kernel_rfl) (fun _ _ _ h=>h) (Or.inr ⟨by rfl,rfl⟩) (by assumption) ?_
    simp only [Act.put,List.setIfInBounds_toArray,List.set_cons_zero,List.set_cons_succ]
    refine wpAnyH_take (i:=20) (oi:={ dst:=some 24,op:=Op.call { callee:=Callee.value (Operand.func 47),args:=#[Operand.tmp 18,Operand.tmp 23],argTypes:=#[31,31] },type:=4,pos := "ref.go:113",after:=#[{ on:=14,ground:=Ground.data },{ on:=19,ground:=Ground.data },{ on:=19,ground:=Ground.chain },{ on:=10,ground:=Ground.guard }],guard:=some (10,true) }) (v:=undef) rfl (by kernel_rfl) (by kernel_rfl) (by kernel_rfl) (fun _ _ _ h=>h) (Or.inr ⟨by rfl,rfl⟩) (by assumption) ?_
    simp only [Act.put,List.setIfInBounds_toArray,List.set_cons_zero,List.set_cons_succ]
    refine wpAnyH_take (i:=21) (oi:={ dst:=some 25,op:=Op.pick (Operand.tmp 14) (Operand.tmp 24) (Operand.const (Value.bool false)),type:=4,pos := "ref.go:113",after:=#[{ on:=10,ground:=Ground.data },{ on:=20,ground:=Ground.data }],guard:=none }) (v:=(Value.bool false)) rfl (by kernel_rfl) (by kernel_rfl) (by kernel_rfl) (fun _ _ _ h=>h) (Or.inl ⟨by rfl,?_⟩) (by assumption) ?_
    ·(intro w hSw;(try dsimp only at hSw);go_simp)
    simp only [Act.put,List.setIfInBounds_toArray,List.set_cons_zero,List.set_cons_succ]
    refine wpAnyH_done (by kernel_rfl) ?_ _
    clear HK hX
    have BE:=hide ((uH hB).trans ((And.left (show Below wr.heap.size wr _∧_ from by assumption)).mono (uH hB).size))
    clear hB
    go_wp2_with fail
    go_ret
    exact ⟨by rw [← uH HE];rfl,uH BE⟩
end Go.Proofs.YtnnfjeieennffaaGreatDoor
namespace Go.Proofs.YtnnfjeieennffaaGreatDoor
open Go.RowKit
attribute [local go_sem ↓] Go.wp_at_zero Go.wp_at_succ
def tdB (c:Nat) (S:List Nat) (k:Nat):Bool:=lsB (xV (fR (elM c S 0 0)) (-40)) (fR (elM c S k k))
def tdN (r c:Nat) (S:List Nat):Nat:=((List.range (min r c)).takeWhile (tdB c S)).length
theorem takeWhile_len (f:Nat→Bool):∀ m k,k≤m→(∀ j,j < k→f j = true)→(k = m ∨ f k = false)→((List.range m).takeWhile f).length = k:=by
 intro m k hk h1 h2
 have e:List.range m = List.range k ++ (List.range (m - k)).map (k+·):=by
  rw [← List.range_add]
  congr 1
  omega
 rw [e,List.takeWhile_append_of_pos (fun x hx=>h1 x (List.mem_range.1 hx)),List.length_append,List.length_range]
 rcases Nat.eq_zero_or_pos (m - k) with g | g
 ·rw [g];rfl
 ·obtain ⟨d,hd⟩:∃ d,m - k = d+1:=⟨m - k - 1,by omega⟩
  rw [hd,List.range_succ_eq_map,List.map_cons,List.takeWhile_cons,Nat.add_zero,h2.resolve_left (by omega)]
  rfl
theorem fR_lt16 (a:Nat):fR a < 18446744073709551616:=by unfold fR;omega
theorem rtold16_any (r c cap:Nat) (ao:Option Addr) (S:List Nat) (w:World) (h:Mx w ao cap r c S) :
  Calls Tryz.prog 16 #[.agg #[.int .i64 r,.int .i64 c,.slice ao S.length cap]] w fun e w'=>e = .returned (.int .i64 (tdN r c S:Nat))∧Below w.heap.size w w':=by
 have ab:∀ (a:Nat),a < 18446744073709551616→∀ w',Calls Tryz.prog 49 #[.int .u64 a] w' fun e w''=>e = .returned (.int .u64 (fR a:Nat))∧Below w'.heap.size w' w'':=fun a ha w'=>(r8abs_any a w' ha).mono (by
  rintro e w'' ⟨rfl,rfl⟩
  exact ⟨rfl,Below.refl _ _⟩)
 have h0:=h.el_lt 0 0
 have hf:=fR_lt16 (elM c S 0 0)
 refine rtold_of r c S.length cap (tdN r c S) (elM c S 0 0) (fR (elM c S 0 0)) (xV (fR (elM c S 0 0)) (-40)) ao (fun k=>elM c S k k) (fun k=>fR (elM c S k k)) (tdB c S) w h.2.2.1 h.2.2.2 (fun k h1 h2 h3 h4=>?_) (fun w' hb hr hc=>?_) (ab _ h0) (fun w'=>r9shift_any _ _ w' hf (by omega)) (fun w' k hb hr hc=>rat_any r c cap k k ao S w' (h.below hb) hr hc) (fun w' k=>ab _ (h.el_lt k k) w') (fun w' k=>rless16_any _ _ w' (xV_lt _ _ hf) (fR_lt16 _))
 ·refine (takeWhile_len _ (min r c) k (by omega) h3 ?_).symm
  rcases h4 with g | g
  ·exact .inl (by omega)
  ·exact .inr g
 ·have:=rat_any r c cap 0 0 ao S w' (h.below hb) hr hc
  exact this
theorem pivotTolds_of (r c:Int) (ao po:Option Addr) (n cap m pc p1 p2:Nat) (I:List Int) (S:List Nat) (f tn er:Int) (okr:Bool) (w:World) (hI:IntsAt w po pc I) (hm:I.length = m) (hml:m≤35184372088830) (s36:S.length≤36)
  (way:((f = 1 ∨ f = 4)∧tn = 0) ∨ f = 0)
  (HBAD:(okr = false ∨ ∃ j,j < m∧¬ (0≤atI I j∧atI I j < c))→er = 1∧p1 = 0∧p2 = 0∧S = [])
  (HBIG:okr = true→(∀ j,j < m→0≤atI I j∧atI I j < c)→6 < m→er = 3∧p1 = 0∧p2 = 0∧S = [])
  (HOK:okr = true→(∀ j,j < m→0≤atI I j∧atI I j < c)→m≤6→er = 0)
  (C1:∀ w',Below w.heap.size w w'→Calls Tryz.prog 15 #[.agg #[.int .i64 r,.int .i64 c,.slice ao n cap]] w' fun e w''=>e = .returned (.tuple #[.int .i64 tn,.int .i64 f])∧Below w'.heap.size w' w'')
  (C2:∀ w',Below w.heap.size w w'→Calls Tryz.prog 10 #[.agg #[.int .i64 r,.int .i64 c,.slice ao n cap]] w' fun e w''=>e = .returned (.int .i64 f)∧Below w'.heap.size w' w'')
  (C3:f = 0→∀ w',Below w.heap.size w w'→Calls Tryz.prog 16 #[.agg #[.int .i64 r,.int .i64 c,.slice ao n cap]] w' fun e w''=>e = .returned (.int .i64 tn)∧Below w'.heap.size w' w'')
  (C4:∀ w',Below w.heap.size w w'→Calls Tryz.prog 17 #[.agg #[.int .i64 r,.int .i64 c,.slice ao n cap],.slice po m pc] w' fun e w''=>∃ v,e = .returned (.tuple #[v,.int .i64 er])∧NewM w'.heap.size w'' p1 p2 S v∧Below w'.heap.size w' w'')
  (C5:∀ w',Calls Tryz.prog 18 #[.agg #[.int .i64 r,.int .i64 c,.slice ao n cap]] w' fun e w''=>e = .returned (.bool okr)∧Below w'.heap.size w' w'')
  (C6:okr = true→(∀ j,j < m→0≤atI I j∧atI I j < c)→m≤6→∀ w',Below w.heap.size w w'→Calls Tryz.prog 19 #[.agg #[.int .i64 r,.int .i64 c,.slice ao n cap],.slice po m pc] w' fun e w''=>∃ v,e = .returned v∧NewM 0 w'' p1 p2 S v∧Below w'.heap.size w' w'')
  (CA:∀ w',Below w.heap.size w w'→Calls Tryz.prog 14 #[] w' fun e w''=>e = .returned (.bool true)∧Below w'.heap.size w' w'') :
  Calls Tryz.prog 4 #[.agg #[.int .i64 r,.int .i64 c,.slice ao n cap],.slice po m pc] w fun e w'=>e = .returned (.bool true)∧Below w.heap.size w w':=by
 have HI:=hide hI;have HM:=hide hm;have HBD:=hide HBAD;have HBG:=hide HBIG;have HO:=hide HOK
 have K1:=hide C1;have K2:=hide C2;have K3:=hide C3;have K4:=hide C4;have K5:=hide C5;have K6:=hide C6;have KA:=hide CA
 have KS:=hide (fun w' xo xc yo yc (h1:BitsAt w' xo xc (mxL S)) (h2:BitsAt w' yo yc (mxL S))=>rsame_any p1 p2 xo yo xc yc S w' h1 h2 (by omega))
 have HB:=hide (below_alloc9 w (.cells #[.int .i64 r,.int .i64 c,.slice ao n cap] 24))
 have HA:=hide (BoxM.new w (.int .i64 r) (.int .i64 c) (.slice ao n cap))
 clear hI hm HBAD HBIG HOK C1 C2 C3 C4 C5 C6 CA s36
 go_enter Tryz.func4,Tryz.ntmps4
 go_wp2_with fail
 refine (uH K1 _ (uH HB)).mono ?_
 rintro e w1 ⟨rfl,hb⟩
 replace HA:=hide ((uH HA).all hb)
 replace HB:=hide ((uH HB).trans (hb.mono (uH HB).size))
 clear hb K1
 have y0:=(uH HA).c0;have y1:=(uH HA).c1;have y2:=(uH HA).c2
 go_wp2_with fail
 clear y0 y1 y2
 refine (uH K2 _ (uH HB)).mono ?_
 rintro e w2 ⟨rfl,hb⟩
 replace HA:=hide ((uH HA).all hb)
 replace HB:=hide ((uH HB).trans (hb.mono (uH HB).size))
 clear hb K2
 have y0:=(uH HA).c0;have y1:=(uH HA).c1;have y2:=(uH HA).c2
 have way3:(f = 1∧tn = 0) ∨ (f = 4∧tn = 0) ∨ f = 0:=by
  rcases way with ⟨h | h,h2⟩ | h
  ·exact .inl ⟨h,h2⟩
  ·exact .inr (.inl ⟨h,h2⟩)
  ·exact .inr (.inr h)
 clear way
 rcases way3 with ⟨rfl,rfl⟩ | ⟨rfl,rfl⟩ | rfl
 case' inl =>
  go_wp2_with fail
  clear y0 y1 y2 K3
 case' inr.inl =>
  go_wp2_with fail
  clear y0 y1 y2 K3
 case' inr.inr =>
  have G3:=hide (uH K3 rfl)
  clear K3
  go_wp2_with fail
  clear y0 y1 y2
  refine (uH G3 _ (uH HB)).mono ?_
  rintro e w3 ⟨rfl,hb⟩
  replace HA:=hide ((uH HA).all hb)
  replace HB:=hide ((uH HB).trans (hb.mono (uH HB).size))
  clear hb G3
  have y0:=(uH HA).c0;have y1:=(uH HA).c1;have y2:=(uH HA).c2
  go_wp2_with fail
  clear y0 y1 y2
 all_goals
  refine (uH K4 _ (uH HB)).mono ?_
  rintro e w4 ⟨v,rfl,⟨so,sc,rfl,_,hs⟩,hb⟩
  have ba:=below_alloc9 w4 (.cells #[.int .i64 p1,.int .i64 p2,.slice so S.length sc] 24)
  have XM:=hide (BoxM.new w4 (.int .i64 p1) (.int .i64 p2) (.slice so S.length sc))
  have HS:=hide (hs.below ba)
  replace HA:=hide (((uH HA).all hb).all ba)
  have t1:=(uH HB).trans (hb.mono (uH HB).size)
  replace HB:=hide (t1.trans (ba.mono t1.size))
  clear hb ba hs t1
  have y0:=(uH HA).c0;have y1:=(uH HA).c1;have y2:=(uH HA).c2
  go_wp2_with fail
  clear y0 y1 y2
  generalize w4.heap.size = g at *
  refine (uH K5 _).mono ?_
  rintro e w5 ⟨rfl,hb⟩
  replace HA:=hide ((uH HA).all hb)
  replace XM:=hide ((uH XM).all hb)
  replace HS:=hide ((uH HS).below hb)
  replace HB:=hide ((uH HB).trans (hb.mono (uH HB).size))
  clear hb
  have ho2:okr = false ∨ okr = true:=by cases okr <;> simp
  rcases ho2 with ho | ho
  all_goals
   rw [ho]
   have HOQ:=hide ho
   clear ho
   go_wp2_with fail
   go_loopw [10,11] (fun h i wr=>∃ k:Nat,k≤m∧i = .int .i64 k∧((h = .int .i64 0∧Hid (okr = true)∧Hid (∀ j,j < k→0≤atI I j∧atI I j < c)) ∨ (h = .int .i64 1∧Hid (okr = false ∨ ∃ j,j < m∧¬ (0≤atI I j∧atI I j < c))))∧Hid (BoxM wr w.heap.size (.int .i64 r) (.int .i64 c) (.slice ao n cap))∧Hid (BoxM wr g (.int .i64 p1) (.int .i64 p2) (.slice so S.length sc))∧Hid (BitsAt wr so sc (mxL S))∧Hid (Below w.heap.size w wr)) (fun _ i _=>m - (intOf i).toNat)
   case atStart=>first | exact ⟨0,Nat.zero_le _,rfl,.inl ⟨rfl,HOQ,fun j hj=>absurd hj (Nat.not_lt_zero j)⟩,HA,XM,HS,HB⟩ | exact ⟨0,Nat.zero_le _,rfl,.inr ⟨rfl,.inl (uH HOQ)⟩,HA,XM,HS,HB⟩
   case round =>
    clear HA XM HS HB
    obtain ⟨k,hk,rfl,hst,hA,hX,hS,hB⟩:=hrel
    rcases hst with ⟨rfl,hok,hg⟩ | ⟨rfl,hbad⟩
    ·by_cases hlt:k < m
     ·have hkI:(k:Int) < (m:Int):=by omega
      obtain ⟨pb,poff,hpo,_,hpc⟩:=(uH HI).ne (by rw [uH HM];omega)
      have ck:wr.cell? ⟨pb,poff+k,none⟩ = some (.int .i64 (atI I k)):=cell_keep (hpc k (by rw [uH HM];exact hlt)) (uH hB)
      subst hpo
      clear hpc
      have yc:=(uH hA).c1
      have hbd:¬ (0≤atI I k∧atI I k < c)→Hid (okr = false ∨ ∃ j,j < m∧¬ (0≤atI I j∧atI I j < c)):=fun h=>.inr ⟨k,hlt,h⟩
      have hgd:(0≤atI I k∧atI I k < c)→Hid (∀ j,j < k+1→0≤atI I j∧atI I j < c):=fun h j hj=>by
       rcases Nat.lt_or_ge j k with q | q
       ·exact uH hg j q
       ·rw [show j = k by omega];exact h
      generalize atI I k = x at *
      have HBB:=hide hbd;have HGG:=hide hgd
      have HK:=hide (fun w' (h:Below wr.heap.size wr w')=>(show Below wr.heap.size wr w'∧w'.cell? ⟨pb,poff+k,none⟩ = some (.int .i64 x)∧w'.cell? ⟨w.heap.size,1,none⟩ = some (.int .i64 c) from ⟨h,cell_keep ck h,cell_keep yc h⟩))
      clear ck yc hbd hgd
      have hx3:x < 0 ∨ (0≤x∧x < c) ∨ (0≤x∧c≤x):=by omega
      rcases hx3 with h1 | ⟨h1,h2⟩ | ⟨h1,h2⟩
      ·have hnb:=hide (uH HBB (by omega))
       go_wp2_with fail
       refine wp_region_held_drew (S:=(fun w'=>Below wr.heap.size wr w'∧w'.cell? ⟨pb,poff+k,none⟩ = some (.int .i64 x)∧w'.cell? ⟨w.heap.size,1,none⟩ = some (.int .i64 c))) (by kernel_rfl) ?_ (fun hHeld=>?_)
       ·exact uH HK _ (Below.refl _ _).drew
       refine wpAnyH_take (i:=0) (oi:={ dst:=some 59,op:=Op.move (Operand.tmp 1),type:=26,pos := "law.go:54",after:=#[],guard:=none }) (v:=(Value.slice (some ⟨pb,poff,none⟩) m pc)) rfl (by kernel_rfl) (by kernel_rfl) (by kernel_rfl) (fun _ _ _ h=>h) (Or.inl ⟨by rfl,?_⟩) (by assumption) ?_
       ·(intro w hSw;(try dsimp only at hSw);go_simp)
       simp only [Act.put,List.setIfInBounds_toArray,List.set_cons_zero,List.set_cons_succ]
       refine wpAnyH_take (i:=1) (oi:={ dst:=some 60,op:=Op.move (Operand.tmp 11),type:=3,pos := "law.go:54",after:=#[],guard:=none }) (v:=(Value.int .i64 (k:Nat))) rfl (by kernel_rfl) (by kernel_rfl) (by kernel_rfl) (fun _ _ _ h=>h) (Or.inl ⟨by rfl,?_⟩) (by assumption) ?_
       ·(intro w hSw;(try dsimp only at hSw);go_simp)
       simp only [Act.put,List.setIfInBounds_toArray,List.set_cons_zero,List.set_cons_succ]
       refine wpAnyH_take (i:=2) (oi:={ dst:=some 61,op:=Op.indexAddr 26 (Operand.tmp 59) (Operand.tmp 60),type:=0,pos := "law.go:54",after:=#[{ on:=0,ground:=Ground.data },{ on:=1,ground:=Ground.data }],guard:=none }) (v:=(Value.pointer (some ⟨pb,poff+k,none⟩))) rfl (by kernel_rfl) (by kernel_rfl) (by kernel_rfl) (fun _ _ _ h=>h) (Or.inl ⟨by rfl,?_⟩) (by assumption) ?_
       ·(intro w hSw;(try dsimp only at hSw);go_simp)
       simp only [Act.put,List.setIfInBounds_toArray,List.set_cons_zero,List.set_cons_succ]
       refine wpAnyH_take (i:=3) (oi:={ dst:=some 62,op:=Op.load 3 (Operand.tmp 61),type:=3,pos := "law.go:54",after:=#[{ on:=2,ground:=Ground.data }],guard:=none }) (v:=(Value.int .i64 x)) rfl (by kernel_rfl) (by kernel_rfl) (by kernel_rfl) (fun _ _ _ h=>h) (Or.inl ⟨by rfl,?_⟩) (by assumption) ?_
       ·(intro w hSw;(try dsimp only at hSw);go_simp)
       simp only [Act.put,List.setIfInBounds_toArray,List.set_cons_zero,List.set_cons_succ]
       refine wpAnyH_take (i:=4) (oi:={ dst:=some 63,op:=Op.binOp BinOp.lss 3 (Operand.tmp 62) (Operand.const (Value.int IntKind.i64 0)) 3,type:=4,pos := "law.go:54",after:=#[{ on:=3,ground:=Ground.data }],guard:=none }) (v:=(Value.bool true)) rfl (by kernel_rfl) (by kernel_rfl) (by kernel_rfl) (fun _ _ _ h=>h) (Or.inl ⟨by rfl,?_⟩) (by assumption) ?_
       ·(intro w hSw;(try dsimp only at hSw);go_simp)
       simp only [Act.put,List.setIfInBounds_toArray,List.set_cons_zero,List.set_cons_succ]
       refine wpAnyH_take (i:=5) (oi:={ dst:=some 64,op:=Op.move (Operand.tmp 63),type:=4,pos := "law.go:54",after:=#[{ on:=4,ground:=Ground.data }],guard:=none }) (v:=(Value.bool true)) rfl (by kernel_rfl) (by kernel_rfl) (by kernel_rfl) (fun _ _ _ h=>h) (Or.inl ⟨by rfl,?_⟩) (by assumption) ?_
       ·(intro w hSw;(try dsimp only at hSw);go_simp)
       simp only [Act.put,List.setIfInBounds_toArray,List.set_cons_zero,List.set_cons_succ]
       refine wpAnyH_take (i:=6) (oi:={ dst:=some 65,op:=Op.move (Operand.tmp 1),type:=26,pos := "law.go:54",after:=#[{ on:=5,ground:=Ground.guard }],guard:=some (5,false) }) (v:=undef) rfl (by kernel_rfl) (by kernel_rfl) (by kernel_rfl) (fun _ _ _ h=>h) (Or.inr ⟨by rfl,rfl⟩) (by assumption) ?_
       simp only [Act.put,List.setIfInBounds_toArray,List.set_cons_zero,List.set_cons_succ]
       refine wpAnyH_take (i:=7) (oi:={ dst:=some 66,op:=Op.move (Operand.tmp 11),type:=3,pos := "law.go:54",after:=#[{ on:=5,ground:=Ground.guard }],guard:=some (5,false) }) (v:=undef) rfl (by kernel_rfl) (by kernel_rfl) (by kernel_rfl) (fun _ _ _ h=>h) (Or.inr ⟨by rfl,rfl⟩) (by assumption) ?_
       simp only [Act.put,List.setIfInBounds_toArray,List.set_cons_zero,List.set_cons_succ]
       refine wpAnyH_take (i:=8) (oi:={ dst:=some 67,op:=Op.indexAddr 26 (Operand.tmp 65) (Operand.tmp 66),type:=0,pos := "law.go:54",after:=#[{ on:=6,ground:=Ground.data },{ on:=7,ground:=Ground.data },{ on:=5,ground:=Ground.guard }],guard:=some (5,false) }) (v:=undef) rfl (by kernel_rfl) (by kernel_rfl) (by kernel_rfl) (fun _ _ _ h=>h) (Or.inr ⟨by rfl,rfl⟩) (by assumption) ?_
       simp only [Act.put,List.setIfInBounds_toArray,List.set_cons_zero,List.set_cons_succ]
       refine wpAnyH_take (i:=9) (oi:={ dst:=some 68,op:=Op.load 3 (Operand.tmp 67),type:=3,pos := "law.go:54",after:=#[{ on:=8,ground:=Ground.data },{ on:=5,ground:=Ground.guard }],guard:=some (5,false) }) (v:=undef) rfl (by kernel_rfl) (by kernel_rfl) (by kernel_rfl) (fun _ _ _ h=>h) (Or.inr ⟨by rfl,rfl⟩) (by assumption) ?_
       simp only [Act.put,List.setIfInBounds_toArray,List.set_cons_zero,List.set_cons_succ]
       refine wpAnyH_take (i:=10) (oi:={ dst:=some 69,op:=Op.fieldAddr 24 (Operand.tmp 2) 1,type:=0,pos := "law.go:54",after:=#[{ on:=5,ground:=Ground.guard }],guard:=some (5,false) }) (v:=undef) rfl (by kernel_rfl) (by kernel_rfl) (by kernel_rfl) (fun _ _ _ h=>h) (Or.inr ⟨by rfl,rfl⟩) (by assumption) ?_
       simp only [Act.put,List.setIfInBounds_toArray,List.set_cons_zero,List.set_cons_succ]
       refine wpAnyH_take (i:=11) (oi:={ dst:=some 70,op:=Op.load 3 (Operand.tmp 69),type:=3,pos := "law.go:54",after:=#[{ on:=10,ground:=Ground.data },{ on:=5,ground:=Ground.guard }],guard:=some (5,false) }) (v:=undef) rfl (by kernel_rfl) (by kernel_rfl) (by kernel_rfl) (fun _ _ _ h=>h) (Or.inr ⟨by rfl,rfl⟩) (by assumption) ?_
       simp only [Act.put,List.setIfInBounds_toArray,List.set_cons_zero,List.set_cons_succ]
       refine wpAnyH_take (i:=12) (oi:={ dst:=some 71,op:=Op.binOp BinOp.geq 3 (Operand.tmp 68) (Operand.tmp 70) 3,type:=4,pos := "law.go:54",after:=#[{ on:=9,ground:=Ground.data },{ on:=11,ground:=Ground.data },{ on:=5,ground:=Ground.guard }],guard:=some (5,false) }) (v:=undef) rfl (by kernel_rfl) (by kernel_rfl) (by kernel_rfl) (fun _ _ _ h=>h) (Or.inr ⟨by rfl,rfl⟩) (by assumption) ?_
       simp only [Act.put,List.setIfInBounds_toArray,List.set_cons_zero,List.set_cons_succ]
       refine wpAnyH_take (i:=13) (oi:={ dst:=some 72,op:=Op.pick (Operand.tmp 64) (Operand.const (Value.bool true)) (Operand.tmp 71),type:=4,pos := "law.go:54",after:=#[{ on:=5,ground:=Ground.data },{ on:=12,ground:=Ground.data }],guard:=none }) (v:=(Value.bool true)) rfl (by kernel_rfl) (by kernel_rfl) (by kernel_rfl) (fun _ _ _ h=>h) (Or.inl ⟨by rfl,?_⟩) (by assumption) ?_
       ·(intro w hSw;(try dsimp only at hSw);go_simp)
       simp only [Act.put,List.setIfInBounds_toArray,List.set_cons_zero,List.set_cons_succ]
       refine wpAnyH_done (by kernel_rfl) ?_ _
       have hd:=(And.left (show Below wr.heap.size wr _∧_ from by assumption))
       have n1:=hide ((uH hA).all hd);have n2:=hide ((uH hX).all hd);have n3:=hide ((uH hS).below hd);have n4:=hide ((uH hB).trans (hd.mono (uH hB).size))
       clear hd hA hX hS hB HK
       go_wp2_with fail
       go_round
       case rel=>exact ⟨k+1,by omega,by go_num,.inr ⟨rfl,uH hnb⟩,n1,n2,n3,n4⟩
       case measure=>simp [intOf];omega
      ·have hnb:=hide (uH HGG ⟨h1,h2⟩)
       have h0:¬ x < 0:=by omega
       have h3:¬ c≤x:=by omega
       have d0:decide (x < 0) = false:=decide_eq_false h0
       have d3:decide (c≤x) = false:=decide_eq_false h3
       go_wp2_with fail
       refine wp_region_held_drew (S:=(fun w'=>Below wr.heap.size wr w'∧w'.cell? ⟨pb,poff+k,none⟩ = some (.int .i64 x)∧w'.cell? ⟨w.heap.size,1,none⟩ = some (.int .i64 c))) (by kernel_rfl) ?_ (fun hHeld=>?_)
       ·exact uH HK _ (Below.refl _ _).drew
       refine wpAnyH_take (i:=0) (oi:={ dst:=some 59,op:=Op.move (Operand.tmp 1),type:=26,pos := "law.go:54",after:=#[],guard:=none }) (v:=(Value.slice (some ⟨pb,poff,none⟩) m pc)) rfl (by kernel_rfl) (by kernel_rfl) (by kernel_rfl) (fun _ _ _ h=>h) (Or.inl ⟨by rfl,?_⟩) (by assumption) ?_
       ·(intro w hSw;(try dsimp only at hSw);go_simp)
       simp only [Act.put,List.setIfInBounds_toArray,List.set_cons_zero,List.set_cons_succ]
       refine wpAnyH_take (i:=1) (oi:={ dst:=some 60,op:=Op.move (Operand.tmp 11),type:=3,pos := "law.go:54",after:=#[],guard:=none }) (v:=(Value.int .i64 (k:Nat))) rfl (by kernel_rfl) (by kernel_rfl) (by kernel_rfl) (fun _ _ _ h=>h) (Or.inl ⟨by rfl,?_⟩) (by assumption) ?_
       ·(intro w hSw;(try dsimp only at hSw);go_simp)
       simp only [Act.put,List.setIfInBounds_toArray,List.set_cons_zero,List.set_cons_succ]
       refine wpAnyH_take (i:=2) (oi:={ dst:=some 61,op:=Op.indexAddr 26 (Operand.tmp 59) (Operand.tmp 60),type:=0,pos := "law.go:54",after:=#[{ on:=0,ground:=Ground.data },{ on:=1,ground:=Ground.data }],guard:=none }) (v:=(Value.pointer (some ⟨pb,poff+k,none⟩))) rfl (by kernel_rfl) (by kernel_rfl) (by kernel_rfl) (fun _ _ _ h=>h) (Or.inl ⟨by rfl,?_⟩) (by assumption) ?_
       ·(intro w hSw;(try dsimp only at hSw);go_simp)
       simp only [Act.put,List.setIfInBounds_toArray,List.set_cons_zero,List.set_cons_succ]
       refine wpAnyH_take (i:=3) (oi:={ dst:=some 62,op:=Op.load 3 (Operand.tmp 61),type:=3,pos := "law.go:54",after:=#[{ on:=2,ground:=Ground.data }],guard:=none }) (v:=(Value.int .i64 x)) rfl (by kernel_rfl) (by kernel_rfl) (by kernel_rfl) (fun _ _ _ h=>h) (Or.inl ⟨by rfl,?_⟩) (by assumption) ?_
       ·(intro w hSw;(try dsimp only at hSw);go_simp)
       simp only [Act.put,List.setIfInBounds_toArray,List.set_cons_zero,List.set_cons_succ]
       refine wpAnyH_take (i:=4) (oi:={ dst:=some 63,op:=Op.binOp BinOp.lss 3 (Operand.tmp 62) (Operand.const (Value.int IntKind.i64 0)) 3,type:=4,pos := "law.go:54",after:=#[{ on:=3,ground:=Ground.data }],guard:=none }) (v:=(Value.bool false)) rfl (by kernel_rfl) (by kernel_rfl) (by kernel_rfl) (fun _ _ _ h=>h) (Or.inl ⟨by rfl,?_⟩) (by assumption) ?_
       ·(intro w hSw;(try dsimp only at hSw);go_simp)
       simp only [Act.put,List.setIfInBounds_toArray,List.set_cons_zero,List.set_cons_succ]
       refine wpAnyH_take (i:=5) (oi:={ dst:=some 64,op:=Op.move (Operand.tmp 63),type:=4,pos := "law.go:54",after:=#[{ on:=4,ground:=Ground.data }],guard:=none }) (v:=(Value.bool false)) rfl (by kernel_rfl) (by kernel_rfl) (by kernel_rfl) (fun _ _ _ h=>h) (Or.inl ⟨by rfl,?_⟩) (by assumption) ?_
       ·(intro w hSw;(try dsimp only at hSw);go_simp)
       simp only [Act.put,List.setIfInBounds_toArray,List.set_cons_zero,List.set_cons_succ]
       refine wpAnyH_take (i:=6) (oi:={ dst:=some 65,op:=Op.move (Operand.tmp 1),type:=26,pos := "law.go:54",after:=#[{ on:=5,ground:=Ground.guard }],guard:=some (5,false) }) (v:=(Value.slice (some ⟨pb,poff,none⟩) m pc)) rfl (by kernel_rfl) (by kernel_rfl) (by kernel_rfl) (fun _ _ _ h=>h) (Or.inl ⟨by rfl,?_⟩) (by assumption) ?_
       ·(intro w hSw;(try dsimp only at hSw);go_simp)
       simp only [Act.put,List.setIfInBounds_toArray,List.set_cons_zero,List.set_cons_succ]
       refine wpAnyH_take (i:=7) (oi:={ dst:=some 66,op:=Op.move (Operand.tmp 11),type:=3,pos := "law.go:54",after:=#[{ on:=5,ground:=Ground.guard }],guard:=some (5,false) }) (v:=(Value.int .i64 (k:Nat))) rfl (by kernel_rfl) (by kernel_rfl) (by kernel_rfl) (fun _ _ _ h=>h) (Or.inl ⟨by rfl,?_⟩) (by assumption) ?_
       ·(intro w hSw;(try dsimp only at hSw);go_simp)
       simp only [Act.put,List.setIfInBounds_toArray,List.set_cons_zero,List.set_cons_succ]
       refine wpAnyH_take (i:=8) (oi:={ dst:=some 67,op:=Op.indexAddr 26 (Operand.tmp 65) (Operand.tmp 66),type:=0,pos := "law.go:54",after:=#[{ on:=6,ground:=Ground.data },{ on:=7,ground:=Ground.data },{ on:=5,ground:=Ground.guard }],guard:=some (5,false) }) (v:=(Value.pointer (some ⟨pb,poff+k,none⟩))) rfl (by kernel_rfl) (by kernel_rfl) (by kernel_rfl) (fun _ _ _ h=>h) (Or.inl ⟨by rfl,?_⟩) (by assumption) ?_
       ·(intro w hSw;(try dsimp only at hSw);go_simp)
       simp only [Act.put,List.setIfInBounds_toArray,List.set_cons_zero,List.set_cons_succ]
       refine wpAnyH_take (i:=9) (oi:={ dst:=some 68,op:=Op.load 3 (Operand.tmp 67),type:=3,pos := "law.go:54",after:=#[{ on:=8,ground:=Ground.data },{ on:=5,ground:=Ground.guard }],guard:=some (5,false) }) (v:=(Value.int .i64 x)) rfl (by kernel_rfl) (by kernel_rfl) (by kernel_rfl) (fun _ _ _ h=>h) (Or.inl ⟨by rfl,?_⟩) (by assumption) ?_
       ·(intro w hSw;(try dsimp only at hSw);go_simp)
       simp only [Act.put,List.setIfInBounds_toArray,List.set_cons_zero,List.set_cons_succ]
       refine wpAnyH_take (i:=10) (oi:={ dst:=some 69,op:=Op.fieldAddr 24 (Operand.tmp 2) 1,type:=0,pos := "law.go:54",after:=#[{ on:=5,ground:=Ground.guard }],guard:=some (5,false) }) (v:=(Value.pointer (some ⟨w.heap.size,1,none⟩))) rfl (by kernel_rfl) (by kernel_rfl) (by kernel_rfl) (fun _ _ _ h=>h) (Or.inl ⟨by rfl,?_⟩) (by assumption) ?_
       ·(intro w hSw;(try dsimp only at hSw);go_simp)
       simp only [Act.put,List.setIfInBounds_toArray,List.set_cons_zero,List.set_cons_succ]
       refine wpAnyH_take (i:=11) (oi:={ dst:=some 70,op:=Op.load 3 (Operand.tmp 69),type:=3,pos := "law.go:54",after:=#[{ on:=10,ground:=Ground.data },{ on:=5,ground:=Ground.guard }],guard:=some (5,false) }) (v:=(Value.int .i64 c)) rfl (by kernel_rfl) (by kernel_rfl) (by kernel_rfl) (fun _ _ _ h=>h) (Or.inl ⟨by rfl,?_⟩) (by assumption) ?_
       ·(intro w hSw;(try dsimp only at hSw);go_simp)
       simp only [Act.put,List.setIfInBounds_toArray,List.set_cons_zero,List.set_cons_succ]
       refine wpAnyH_take (i:=12) (oi:={ dst:=some 71,op:=Op.binOp BinOp.geq 3 (Operand.tmp 68) (Operand.tmp 70) 3,type:=4,pos := "law.go:54",after:=#[{ on:=9,ground:=Ground.data },{ on:=11,ground:=Ground.data },{ on:=5,ground:=Ground.guard }],guard:=some (5,false) }) (v:=(Value.bool false)) rfl (by kernel_rfl) (by kernel_rfl) (by kernel_rfl) (fun _ _ _ h=>h) (Or.inl ⟨by rfl,?_⟩) (by assumption) ?_
       ·(intro w hSw;(try dsimp only at hSw);go_simp)
       simp only [Act.put,List.setIfInBounds_toArray,List.set_cons_zero,List.set_cons_succ]
       refine wpAnyH_take (i:=13) (oi:={ dst:=some 72,op:=Op.pick (Operand.tmp 64) (Operand.const (Value.bool true)) (Operand.tmp 71),type:=4,pos := "law.go:54",after:=#[{ on:=5,ground:=Ground.data },{ on:=12,ground:=Ground.data }],guard:=none }) (v:=(Value.bool false)) rfl (by kernel_rfl) (by kernel_rfl) (by kernel_rfl) (fun _ _ _ h=>h) (Or.inl ⟨by rfl,?_⟩) (by assumption) ?_
       ·(intro w hSw;(try dsimp only at hSw);go_simp)
       simp only [Act.put,List.setIfInBounds_toArray,List.set_cons_zero,List.set_cons_succ]
       refine wpAnyH_done (by kernel_rfl) ?_ _
       have hd:=(And.left (show Below wr.heap.size wr _∧_ from by assumption))
       have n1:=hide ((uH hA).all hd);have n2:=hide ((uH hX).all hd);have n3:=hide ((uH hS).below hd);have n4:=hide ((uH hB).trans (hd.mono (uH hB).size))
       clear hd hA hX hS hB HK
       go_wp2_with fail
       go_round
       case rel=>exact ⟨k+1,by omega,by go_num,.inl ⟨rfl,hok,hnb⟩,n1,n2,n3,n4⟩
       case measure=>simp [intOf];omega
      ·have hnb:=hide (uH HBB (by omega))
       have h0:¬ x < 0:=by omega
       have d0:decide (x < 0) = false:=decide_eq_false h0
       go_wp2_with fail
       refine wp_region_held_drew (S:=(fun w'=>Below wr.heap.size wr w'∧w'.cell? ⟨pb,poff+k,none⟩ = some (.int .i64 x)∧w'.cell? ⟨w.heap.size,1,none⟩ = some (.int .i64 c))) (by kernel_rfl) ?_ (fun hHeld=>?_)
       ·exact uH HK _ (Below.refl _ _).drew
       refine wpAnyH_take (i:=0) (oi:={ dst:=some 59,op:=Op.move (Operand.tmp 1),type:=26,pos := "law.go:54",after:=#[],guard:=none }) (v:=(Value.slice (some ⟨pb,poff,none⟩) m pc)) rfl (by kernel_rfl) (by kernel_rfl) (by kernel_rfl) (fun _ _ _ h=>h) (Or.inl ⟨by rfl,?_⟩) (by assumption) ?_
       ·(intro w hSw;(try dsimp only at hSw);go_simp)
       simp only [Act.put,List.setIfInBounds_toArray,List.set_cons_zero,List.set_cons_succ]
       refine wpAnyH_take (i:=1) (oi:={ dst:=some 60,op:=Op.move (Operand.tmp 11),type:=3,pos := "law.go:54",after:=#[],guard:=none }) (v:=(Value.int .i64 (k:Nat))) rfl (by kernel_rfl) (by kernel_rfl) (by kernel_rfl) (fun _ _ _ h=>h) (Or.inl ⟨by rfl,?_⟩) (by assumption) ?_
       ·(intro w hSw;(try dsimp only at hSw);go_simp)
       simp only [Act.put,List.setIfInBounds_toArray,List.set_cons_zero,List.set_cons_succ]
       refine wpAnyH_take (i:=2) (oi:={ dst:=some 61,op:=Op.indexAddr 26 (Operand.tmp 59) (Operand.tmp 60),type:=0,pos := "law.go:54",after:=#[{ on:=0,ground:=Ground.data },{ on:=1,ground:=Ground.data }],guard:=none }) (v:=(Value.pointer (some ⟨pb,poff+k,none⟩))) rfl (by kernel_rfl) (by kernel_rfl) (by kernel_rfl) (fun _ _ _ h=>h) (Or.inl ⟨by rfl,?_⟩) (by assumption) ?_
       ·(intro w hSw;(try dsimp only at hSw);go_simp)
       simp only [Act.put,List.setIfInBounds_toArray,List.set_cons_zero,List.set_cons_succ]
       refine wpAnyH_take (i:=3) (oi:={ dst:=some 62,op:=Op.load 3 (Operand.tmp 61),type:=3,pos := "law.go:54",after:=#[{ on:=2,ground:=Ground.data }],guard:=none }) (v:=(Value.int .i64 x)) rfl (by kernel_rfl) (by kernel_rfl) (by kernel_rfl) (fun _ _ _ h=>h) (Or.inl ⟨by rfl,?_⟩) (by assumption) ?_
       ·(intro w hSw;(try dsimp only at hSw);go_simp)
       simp only [Act.put,List.setIfInBounds_toArray,List.set_cons_zero,List.set_cons_succ]
       refine wpAnyH_take (i:=4) (oi:={ dst:=some 63,op:=Op.binOp BinOp.lss 3 (Operand.tmp 62) (Operand.const (Value.int IntKind.i64 0)) 3,type:=4,pos := "law.go:54",after:=#[{ on:=3,ground:=Ground.data }],guard:=none }) (v:=(Value.bool false)) rfl (by kernel_rfl) (by kernel_rfl) (by kernel_rfl) (fun _ _ _ h=>h) (Or.inl ⟨by rfl,?_⟩) (by assumption) ?_
       ·(intro w hSw;(try dsimp only at hSw);go_simp)
       simp only [Act.put,List.setIfInBounds_toArray,List.set_cons_zero,List.set_cons_succ]
       refine wpAnyH_take (i:=5) (oi:={ dst:=some 64,op:=Op.move (Operand.tmp 63),type:=4,pos := "law.go:54",after:=#[{ on:=4,ground:=Ground.data }],guard:=none }) (v:=(Value.bool false)) rfl (by kernel_rfl) (by kernel_rfl) (by kernel_rfl) (fun _ _ _ h=>h) (Or.inl ⟨by rfl,?_⟩) (by assumption) ?_
       ·(intro w hSw;(try dsimp only at hSw);go_simp)
       simp only [Act.put,List.setIfInBounds_toArray,List.set_cons_zero,List.set_cons_succ]
       refine wpAnyH_take (i:=6) (oi:={ dst:=some 65,op:=Op.move (Operand.tmp 1),type:=26,pos := "law.go:54",after:=#[{ on:=5,ground:=Ground.guard }],guard:=some (5,false) }) (v:=(Value.slice (some ⟨pb,poff,none⟩) m pc)) rfl (by kernel_rfl) (by kernel_rfl) (by kernel_rfl) (fun _ _ _ h=>h) (Or.inl ⟨by rfl,?_⟩) (by assumption) ?_
       ·(intro w hSw;(try dsimp only at hSw);go_simp)
       simp only [Act.put,List.setIfInBounds_toArray,List.set_cons_zero,List.set_cons_succ]
       refine wpAnyH_take (i:=7) (oi:={ dst:=some 66,op:=Op.move (Operand.tmp 11),type:=3,pos := "law.go:54",after:=#[{ on:=5,ground:=Ground.guard }],guard:=some (5,false) }) (v:=(Value.int .i64 (k:Nat))) rfl (by kernel_rfl) (by kernel_rfl) (by kernel_rfl) (fun _ _ _ h=>h) (Or.inl ⟨by rfl,?_⟩) (by assumption) ?_
       ·(intro w hSw;(try dsimp only at hSw);go_simp)
       simp only [Act.put,List.setIfInBounds_toArray,List.set_cons_zero,List.set_cons_succ]
       refine wpAnyH_take (i:=8) (oi:={ dst:=some 67,op:=Op.indexAddr 26 (Operand.tmp 65) (Operand.tmp 66),type:=0,pos := "law.go:54",after:=#[{ on:=6,ground:=Ground.data },{ on:=7,ground:=Ground.data },{ on:=5,ground:=Ground.guard }],guard:=some (5,false) }) (v:=(Value.pointer (some ⟨pb,poff+k,none⟩))) rfl (by kernel_rfl) (by kernel_rfl) (by kernel_rfl) (fun _ _ _ h=>h) (Or.inl ⟨by rfl,?_⟩) (by assumption) ?_
       ·(intro w hSw;(try dsimp only at hSw);go_simp)
       simp only [Act.put,List.setIfInBounds_toArray,List.set_cons_zero,List.set_cons_succ]
       refine wpAnyH_take (i:=9) (oi:={ dst:=some 68,op:=Op.load 3 (Operand.tmp 67),type:=3,pos := "law.go:54",after:=#[{ on:=8,ground:=Ground.data },{ on:=5,ground:=Ground.guard }],guard:=some (5,false) }) (v:=(Value.int .i64 x)) rfl (by kernel_rfl) (by kernel_rfl) (by kernel_rfl) (fun _ _ _ h=>h) (Or.inl ⟨by rfl,?_⟩) (by assumption) ?_
       ·(intro w hSw;(try dsimp only at hSw);go_simp)
       simp only [Act.put,List.setIfInBounds_toArray,List.set_cons_zero,List.set_cons_succ]
       refine wpAnyH_take (i:=10) (oi:={ dst:=some 69,op:=Op.fieldAddr 24 (Operand.tmp 2) 1,type:=0,pos := "law.go:54",after:=#[{ on:=5,ground:=Ground.guard }],guard:=some (5,false) }) (v:=(Value.pointer (some ⟨w.heap.size,1,none⟩))) rfl (by kernel_rfl) (by kernel_rfl) (by kernel_rfl) (fun _ _ _ h=>h) (Or.inl ⟨by rfl,?_⟩) (by assumption) ?_
       ·(intro w hSw;(try dsimp only at hSw);go_simp)
       simp only [Act.put,List.setIfInBounds_toArray,List.set_cons_zero,List.set_cons_succ]
       refine wpAnyH_take (i:=11) (oi:={ dst:=some 70,op:=Op.load 3 (Operand.tmp 69),type:=3,pos := "law.go:54",after:=#[{ on:=10,ground:=Ground.data },{ on:=5,ground:=Ground.guard }],guard:=some (5,false) }) (v:=(Value.int .i64 c)) rfl (by kernel_rfl) (by kernel_rfl) (by kernel_rfl) (fun _ _ _ h=>h) (Or.inl ⟨by rfl,?_⟩) (by assumption) ?_
       ·(intro w hSw;(try dsimp only at hSw);go_simp)
       simp only [Act.put,List.setIfInBounds_toArray,List.set_cons_zero,List.set_cons_succ]
       refine wpAnyH_take (i:=12) (oi:={ dst:=some 71,op:=Op.binOp BinOp.geq 3 (Operand.tmp 68) (Operand.tmp 70) 3,type:=4,pos := "law.go:54",after:=#[{ on:=9,ground:=Ground.data },{ on:=11,ground:=Ground.data },{ on:=5,ground:=Ground.guard }],guard:=some (5,false) }) (v:=(Value.bool true)) rfl (by kernel_rfl) (by kernel_rfl) (by kernel_rfl) (fun _ _ _ h=>h) (Or.inl ⟨by rfl,?_⟩) (by assumption) ?_
       ·(intro w hSw;(try dsimp only at hSw);go_simp)
       simp only [Act.put,List.setIfInBounds_toArray,List.set_cons_zero,List.set_cons_succ]
       refine wpAnyH_take (i:=13) (oi:={ dst:=some 72,op:=Op.pick (Operand.tmp 64) (Operand.const (Value.bool true)) (Operand.tmp 71),type:=4,pos := "law.go:54",after:=#[{ on:=5,ground:=Ground.data },{ on:=12,ground:=Ground.data }],guard:=none }) (v:=(Value.bool true)) rfl (by kernel_rfl) (by kernel_rfl) (by kernel_rfl) (fun _ _ _ h=>h) (Or.inl ⟨by rfl,?_⟩) (by assumption) ?_
       ·(intro w hSw;(try dsimp only at hSw);go_simp)
       simp only [Act.put,List.setIfInBounds_toArray,List.set_cons_zero,List.set_cons_succ]
       refine wpAnyH_done (by kernel_rfl) ?_ _
       have hd:=(And.left (show Below wr.heap.size wr _∧_ from by assumption))
       have n1:=hide ((uH hA).all hd);have n2:=hide ((uH hX).all hd);have n3:=hide ((uH hS).below hd);have n4:=hide ((uH hB).trans (hd.mono (uH hB).size))
       clear hd hA hX hS hB HK
       go_wp2_with fail
       go_round
       case rel=>exact ⟨k+1,by omega,by go_num,.inr ⟨rfl,uH hnb⟩,n1,n2,n3,n4⟩
       case measure=>simp [intOf];omega
     ·have hkk:m = k:=by omega
      subst hkk
      by_cases h6:6 < m
      ·have h6I:(6:Int) < (m:Int):=by omega
       obtain ⟨rfl,rfl,rfl,rfl⟩:=uH HBG (uH hok) (uH hg) h6
       have y0:=(uH hX).c0;have y1:=(uH hX).c1;have y2:=(uH hX).c2
       simp only [List.length_nil] at y2
       go_wp2_with fail
       clear y0 y1 y2
       refine (uH KS _ _ _ _ _ (uH hS) (BitsAt.nilAt _ _ _)).mono ?_
       rintro e w7 ⟨rfl,hb⟩
       have BE:=hide ((uH hB).trans (hb.mono (uH hB).size))
       clear hb
       go_wp2_with fail
       refine (uH KA _ (uH BE)).mono ?_
       rintro e w8 ⟨rfl,hb⟩
       replace BE:=hide ((uH BE).trans (hb.mono (uH BE).size))
       clear hb
       go_wp2
       go_ret
       exact ⟨rfl,uH BE⟩
      ·have h6I:¬ (6:Int) < (m:Int):=by omega
       obtain rfl:=uH HO (uH hok) (uH hg) (by omega)
       have G6:=hide (uH K6 (uH hok) (uH hg) (by omega))
       go_wp2_with fail
       refine at_world (fun W=>BoxM W w.heap.size (.int .i64 r) (.int .i64 c) (.slice ao n cap)∧BoxM W g (.int .i64 p1) (.int .i64 p2) (.slice so S.length sc)∧BitsAt W so sc (mxL S)∧Below w.heap.size w W) ⟨uH hA,uH hX,uH hS,uH hB⟩ ?_
       clear hA hX hS hB
       rintro W ⟨hA,hX,hS,hB⟩
       have HS:=hide hS
       have HW:=hide (fun w' (h:Below W.heap.size W w')=>hB.trans (h.mono hB.size))
       have HK:=hide (fun w' (h:Below W.heap.size W w')=>(show Below W.heap.size W w'∧(w'.cell? ⟨w.heap.size,0,none⟩ = some (.int .i64 r)∧w'.cell? ⟨w.heap.size,1,none⟩ = some (.int .i64 c)∧w'.cell? ⟨w.heap.size,2,none⟩ = some (.slice ao n cap))∧(w'.cell? ⟨g,0,none⟩ = some (.int .i64 (p1:Nat))∧w'.cell? ⟨g,1,none⟩ = some (.int .i64 (p2:Nat))∧w'.cell? ⟨g,2,none⟩ = some (.slice so S.length sc)) from ⟨h,⟨(hA.all h).c0,(hA.all h).c1,(hA.all h).c2⟩,(hX.all h).c0,(hX.all h).c1,(hX.all h).c2⟩))
       clear hA hX hS hB
       go_region_held3 (fun w'=>Below W.heap.size W w'∧(w'.cell? ⟨w.heap.size,0,none⟩ = some (.int .i64 r)∧w'.cell? ⟨w.heap.size,1,none⟩ = some (.int .i64 c)∧w'.cell? ⟨w.heap.size,2,none⟩ = some (.slice ao n cap))∧(w'.cell? ⟨g,0,none⟩ = some (.int .i64 (p1:Nat))∧w'.cell? ⟨g,1,none⟩ = some (.int .i64 (p2:Nat))∧w'.cell? ⟨g,2,none⟩ = some (.slice so S.length sc)))
        (first | exact uH HK _ (Below.refl _ _).drew | exact uH HK _ (by assumption) | fail "KK")
        (first
         | (go_at_call 19;refine (uH G6 _ (uH HW _ (And.left (by assumption)))).mono ?_;rintro e w7 ⟨v7,rfl,⟨xo,xc,rfl,_,hx7⟩,hb⟩;have hB7:Below W.heap.size W w7:=Below.trans (And.left (by assumption)) (hb.mono (Below.size (And.left (by assumption))));have HX7:=hide hx7;clear hb hx7)
         | (go_at_call 12;refine (uH KS _ _ _ _ _ ((uH HS).below (And.left (by assumption))) (by first | exact uH HX7 | exact (uH HX7).below (Below.refl _ _).drew)).mono ?_;rintro e w8 ⟨rfl,hb⟩;have hB8:Below W.heap.size W w8:=Below.trans (And.left (by assumption)) (hb.mono (Below.size (And.left (by assumption))));clear hb)
         | (go_at_call 14;refine (uH KA _ (uH HW _ (And.left (by assumption)))).mono ?_;rintro e w9 ⟨rfl,hb⟩;have hB9:Below W.heap.size W w9:=Below.trans (And.left (by assumption)) (hb.mono (Below.size (And.left (by assumption))));clear hb)
         | fail "NO ARM")
       all_goals
        have BE:=hide (uH HW _ (And.left (by assumption)))
        go_wp2
        go_ret
        exact ⟨rfl,uH BE⟩
    ·have hw:(m:Int)≤(k:Int) ∨ (k:Int) < (m:Int):=by omega
     rcases hw with hw | hw
     all_goals
      obtain ⟨rfl,rfl,rfl,rfl⟩:=uH HBD (uH hbad)
      have y0:=(uH hX).c0;have y1:=(uH hX).c1;have y2:=(uH hX).c2
      simp only [List.length_nil] at y2
      go_wp2_with fail
      clear y0 y1 y2
      refine (uH KS _ _ _ _ _ (uH hS) (BitsAt.nilAt _ _ _)).mono ?_
      rintro e w7 ⟨rfl,hb⟩
      have BE:=hide ((uH hB).trans (hb.mono (uH hB).size))
      clear hb
      go_wp2_with fail
      refine (uH KA _ (uH BE)).mono ?_
      rintro e w8 ⟨rfl,hb⟩
      replace BE:=hide ((uH BE).trans (hb.mono (uH BE).size))
      clear hb
      go_wp2
      go_ret
      exact ⟨rfl,uH BE⟩
end Go.Proofs.YtnnfjeieennffaaGreatDoor
namespace Go.Proofs.YtnnfjeieennffaaGreatDoor
open Go.RowKit
attribute [local go_sem ↓] Go.wp_at_zero Go.wp_at_succ
theorem onDiag_any (r c cap j:Nat) (ao:Option Addr) (S:List Nat) (w:World) (h:Mx w ao cap r c S) (hj:j < r) (hjc:j < c) :
  Calls Tryz.prog 46 #[.agg #[.int .i64 r,.int .i64 c,.slice ao S.length cap],.int .i64 (j:Nat)] w fun e w'=>e = .returned (.int .u64 (fR (elM c S j j):Nat))∧Below w.heap.size w w':=by
 have b0:=below_alloc9 w (.cells #[.int .i64 r,.int .i64 c,.slice ao S.length cap] 24)
 have x0:=BoxM.new w (.int .i64 r) (.int .i64 c) (.slice ao S.length cap)
 obtain ⟨b,off,hao,hbw,hcell,_⟩:=h.cells hj hjc
 have hu:=h.el_lt j j
 have hp:=place_lt hj hjc
 have h36:=h.small
 have hl:=h.2.1
 have K:=hide (fun w'=>cabs_any (elM c S j j) w' hu)
 generalize elM c S j j = u at *
 have d1:=cell_keep hcell b0
 obtain ⟨q,hq⟩:∃ q,j * c = q:=⟨_,rfl⟩
 rw [hq] at d1 hp
 obtain ⟨p,hpp⟩:∃ p,q+j = p:=⟨_,rfl⟩
 rw [hpp] at d1 hp
 generalize hnn:S.length = n at *
 have hpI:(p:Int) < (n:Int):=by omega
 have e2:IntKind.i64.wrap ((j:Int) * (c:Int)) = (q:Int):=by
  rw [cast_mul10 j c,hq]
  exact wrap_in _ (by omega)
 have e3:IntKind.i64.wrap ((q:Int)+(j:Int)) = (p:Int):=(wrap_in _ (by omega)).trans (by omega)
 have e5:(j:Int) * (c:Int) = (q:Int):=by rw [cast_mul10 j c,hq]
 have e6:(q:Int)+(j:Int) = (p:Int):=by omega
 have e7:IntKind.i64.wrap (q:Int) = (q:Int):=wrap_in _ (by omega)
 have e8:IntKind.i64.wrap (p:Int) = (p:Int):=wrap_in _ (by omega)
 subst hao
 have y1:=x0.c1;have y2:=x0.c2
 have HB:=hide b0
 clear b0 x0 hcell hq hpp hp hl h36 h hnn hbw
 go_enter Tryz.func46,Tryz.ntmps46
 go_wp2_with fail
 refine (uH K _).mono ?_
 rintro e w1 ⟨rfl,hb⟩
 have B1:=hide ((uH HB).trans (hb.mono (uH HB).size))
 clear hb HB K y1 y2 d1
 go_wp2
 go_ret
 exact ⟨rfl,uH B1⟩
theorem ptold_err (r c:Int) (ao:Option Addr) (n cap:Nat) (er:Int) (w:World) (her:er = 1 ∨ er = 4)
  (C1:∀ w',Below w.heap.size w w'→Calls Tryz.prog 30 #[.agg #[.int .i64 r,.int .i64 c,.slice ao n cap]] w' fun e w''=>e = .returned (.int .i64 er)∧Below w'.heap.size w' w'') :
  Calls Tryz.prog 15 #[.agg #[.int .i64 r,.int .i64 c,.slice ao n cap]] w fun e w'=>e = .returned (.tuple #[.int .i64 0,.int .i64 er])∧Below w.heap.size w w':=by
 have HB:=hide (below_alloc9 w (.cells #[.int .i64 r,.int .i64 c,.slice ao n cap] 24))
 have HX:=hide (BoxM.new w (.int .i64 r) (.int .i64 c) (.slice ao n cap))
 have K1:=hide (C1 _ (uH HB))
 have y0:=(uH HX).c0;have y1:=(uH HX).c1;have y2:=(uH HX).c2
 clear C1
 rcases her with rfl | rfl
 all_goals
  go_enter Tryz.func15,Tryz.ntmps15
  go_wp2_with fail
  refine (uH K1).mono ?_
  rintro e w1 ⟨rfl,hb⟩
  have B1:=hide ((uH HB).trans (hb.mono (uH HB).size))
  clear hb K1 HB HX y0 y1 y2
  go_wp2_with fail
  exact bodyPost_ret (v:=.tuple #[.int .i64 0,.int .i64 _]) (by simp [results,Tryz.results15,go_sem]) rfl ⟨rfl,uH B1⟩
theorem ptold_of (r c n cap q m a0 sh:Nat) (ao:Option Addr) (ad:Nat→Nat) (f:Nat→Bool) (w:World) (hq:(q:Int) = min (r:Int) (c:Int)) (hq6:q≤6)
  (hm:∀ k,k≤q→(∀ j,j < k→f j = true)→(k = q ∨ f k = false)→k = m)
  (C0:∀ w',Below w.heap.size w w'→Calls Tryz.prog 30 #[.agg #[.int .i64 r,.int .i64 c,.slice ao n cap]] w' fun e w''=>e = .returned (.int .i64 0)∧Below w'.heap.size w' w'')
  (C1:∀ w',Below w.heap.size w w'→0 < q→Calls Tryz.prog 46 #[.agg #[.int .i64 r,.int .i64 c,.slice ao n cap],.int .i64 0] w' fun e w''=>e = .returned (.int .u64 (a0:Nat))∧Below w'.heap.size w' w'')
  (C2:∀ w',Below w.heap.size w w'→Calls Tryz.prog 45 #[.int .u64 a0,.int .i64 (-40)] w' fun e w''=>e = .returned (.int .u64 (sh:Nat))∧Below w'.heap.size w' w'')
  (C3:∀ w' k,Below w.heap.size w w'→k < q→Calls Tryz.prog 46 #[.agg #[.int .i64 r,.int .i64 c,.slice ao n cap],.int .i64 (k:Nat)] w' fun e w''=>e = .returned (.int .u64 (ad k:Nat))∧Below w'.heap.size w' w'')
  (C4:∀ w' k,k < q→Calls Tryz.prog 44 #[.int .u64 sh,.int .u64 (ad k:Nat)] w' fun e w''=>e = .returned (.bool (f k))∧Below w'.heap.size w' w'') :
  Calls Tryz.prog 15 #[.agg #[.int .i64 r,.int .i64 c,.slice ao n cap]] w fun e w'=>e = .returned (.tuple #[.int .i64 (m:Nat),.int .i64 0])∧Below w.heap.size w w':=by
 have hmin:∀ (W:World) ts t,(Builtin.min_ ts t #[.int .i64 (r:Int),.int .i64 (c:Int)]).run Tryz.prog W = .ok (.int .i64 (q:Int)) W:=fun W ts t=>by rw [hq];exact min2_run _ W ts t _ _
 have HB:=hide (below_alloc9 w (.cells #[.int .i64 r,.int .i64 c,.slice ao n cap] 24))
 have HX:=hide (BoxM.new w (.int .i64 r) (.int .i64 c) (.slice ao n cap))
 have K0:=hide (C0 _ (uH HB));have K1:=hide C1;have K2:=hide C2;have K3:=hide C3;have K4:=hide C4;have HM:=hide hm
 have y0:=(uH HX).c0;have y1:=(uH HX).c1;have y2:=(uH HX).c2
 clear C0 C1 C2 C3 C4 hm hq
 go_enter Tryz.func15,Tryz.ntmps15
 go_wp2_with fail
 clear y0 y1 y2
 refine (uH K0).mono ?_
 rintro e w1 ⟨rfl,hb⟩
 replace HX:=hide ((uH HX).all hb)
 replace HB:=hide ((uH HB).trans (hb.mono (uH HB).size))
 clear hb K0
 have y0:=(uH HX).c0;have y1:=(uH HX).c1
 go_wp2_with fail
 clear y0 y1 hmin
 go_loopw [18] (fun a wr=>∃ k:Nat,k≤q∧a = .int .i64 k∧Hid (∀ j,j < k→f j = true)∧Hid (BoxM wr w.heap.size (.int .i64 r) (.int .i64 c) (.slice ao n cap))∧Hid (Below w.heap.size w wr)) (fun a _=>q - (intOf a).toNat)
 case atStart=>exact ⟨0,Nat.zero_le _,rfl,fun j hj=>absurd hj (Nat.not_lt_zero j),HX,HB⟩
 case round =>
  clear HX HB
  obtain ⟨k,hk,rfl,hF,hX,hB⟩:=hrel
  by_cases hlt:k < q
  ·have hkI:(k:Int) < (q:Int):=by omega
   go_wp2_with fail
   refine at_world (fun W=>BoxM W w.heap.size (.int .i64 r) (.int .i64 c) (.slice ao n cap)∧Below w.heap.size w W) ⟨uH hX,uH hB⟩ ?_
   clear hX hB
   rintro W ⟨hx,hb⟩
   have hX:=hide (hx.all (Below.refl W.heap.size W).drew)
   have hB:=hide (hb.trans (((Below.refl W.heap.size W).drew).mono hb.size))
   clear hx hb
   refine wp_region_held_drew (S:=(fun w'=>w'.cell? ⟨w.heap.size,0,none⟩ = some (.int .i64 (r:Nat))∧w'.cell? ⟨w.heap.size,1,none⟩ = some (.int .i64 (c:Nat))∧w'.cell? ⟨w.heap.size,2,none⟩ = some (.slice ao n cap))) (by kernel_rfl) ?_ (fun hHeld=>?_)
   ·exact ⟨(uH hX).c0,(uH hX).c1,(uH hX).c2⟩
   refine wpAnyH_take (i:=0) (oi:={ dst:=some 21,op:=Op.load 24 (Operand.tmp 1),type:=24,pos := "pivot.go:40",after:=#[],guard:=none }) (v:=(Value.agg #[.int .i64 (r:Nat),.int .i64 (c:Nat),.slice ao n cap])) rfl (by kernel_rfl) (by kernel_rfl) (by kernel_rfl) (fun _ _ _ h=>h) (Or.inl ⟨by rfl,?_⟩) (by assumption) ?_
   ·(intro w hSw;(try dsimp only at hSw);go_simp)
   simp only [Act.put,List.setIfInBounds_toArray,List.set_cons_zero,List.set_cons_succ]
   refine wpAnyH_take (i:=3) (oi:={ dst:=some 24,op:=Op.load 24 (Operand.tmp 1),type:=24,pos := "pivot.go:40",after:=#[],guard:=none }) (v:=(Value.agg #[.int .i64 (r:Nat),.int .i64 (c:Nat),.slice ao n cap])) rfl (by kernel_rfl) (by kernel_rfl) (by kernel_rfl) (fun _ _ _ h=>h) (Or.inl ⟨by rfl,?_⟩) (by assumption) ?_
   ·(intro w hSw;(try dsimp only at hSw);go_simp)
   simp only [Act.put,List.setIfInBounds_toArray,List.set_cons_zero,List.set_cons_succ]
   refine wpAnyH_take (i:=4) (oi:={ dst:=some 25,op:=Op.move (Operand.tmp 6),type:=3,pos := "pivot.go:40",after:=#[],guard:=none }) (v:=(Value.int .i64 (k:Nat))) rfl (by kernel_rfl) (by kernel_rfl) (by kernel_rfl) (fun _ _ _ h=>h) (Or.inl ⟨by rfl,?_⟩) (by assumption) ?_
   ·(intro w hSw;(try dsimp only at hSw);go_simp)
   simp only [Act.put,List.setIfInBounds_toArray,List.set_cons_zero,List.set_cons_succ]
   refine wpAnyH_ready (rs:=[1]) (by kernel_rfl) (by simp) ?_
   refine AllReadyH.cons (o:={ dst:=some 22,op:=Op.call { callee:=Callee.value (Operand.func 46),args:=#[Operand.tmp 21,Operand.const (Value.int IntKind.i64 0)],argTypes:=#[24,3] },type:=31,pos := "pivot.go:40",after:=#[{ on:=0,ground:=Ground.data }],guard:=none }) rfl (fun K hK=>?_) AllReadyH.nil
   go_simp
   refine (uH K1 _ (uH hB) (by omega)).mono ?_
   rintro e w2 ⟨rfl,hb⟩
   replace hX:=hide ((uH hX).all hb)
   replace hB:=hide ((uH hB).trans (hb.mono (uH hB).size))
   clear hb
   go_wp2_with fail
   refine hK.out _ _ ?_ (fun hHeld=>?_)
   ·exact ⟨(uH hX).c0,(uH hX).c1,(uH hX).c2⟩
   clear hK K
   refine wpAnyH_ready (rs:=[2]) (by kernel_rfl) (by simp) ?_
   refine AllReadyH.cons (o:={ dst:=some 23,op:=Op.call { callee:=Callee.value (Operand.func 45),args:=#[Operand.tmp 22,Operand.const (Value.int IntKind.i64 (-40))],argTypes:=#[31,3] },type:=31,pos := "pivot.go:40",after:=#[{ on:=1,ground:=Ground.data },{ on:=1,ground:=Ground.chain }],guard:=none }) rfl (fun K hK=>?_) AllReadyH.nil
   go_simp
   refine (uH K2 _ (uH hB)).mono ?_
   rintro e w3 ⟨rfl,hb⟩
   replace hX:=hide ((uH hX).all hb)
   replace hB:=hide ((uH hB).trans (hb.mono (uH hB).size))
   clear hb
   go_wp2_with fail
   refine hK.out _ _ ?_ (fun hHeld=>?_)
   ·exact ⟨(uH hX).c0,(uH hX).c1,(uH hX).c2⟩
   clear hK K
   refine wpAnyH_ready (rs:=[5]) (by kernel_rfl) (by simp) ?_
   refine AllReadyH.cons (o:={ dst:=some 26,op:=Op.call { callee:=Callee.value (Operand.func 46),args:=#[Operand.tmp 24,Operand.tmp 25],argTypes:=#[24,3] },type:=31,pos := "pivot.go:40",after:=#[{ on:=3,ground:=Ground.data },{ on:=4,ground:=Ground.data },{ on:=2,ground:=Ground.chain }],guard:=none }) rfl (fun K hK=>?_) AllReadyH.nil
   go_simp
   refine (uH K3 _ k (uH hB) hlt).mono ?_
   rintro e w4 ⟨rfl,hb⟩
   replace hX:=hide ((uH hX).all hb)
   replace hB:=hide ((uH hB).trans (hb.mono (uH hB).size))
   clear hb
   go_wp2_with fail
   refine hK.out _ _ ?_ (fun hHeld=>?_)
   ·exact ⟨(uH hX).c0,(uH hX).c1,(uH hX).c2⟩
   clear hK K
   refine wpAnyH_ready (rs:=[6]) (by kernel_rfl) (by simp) ?_
   refine AllReadyH.cons (o:={ dst:=some 27,op:=Op.call { callee:=Callee.value (Operand.func 44),args:=#[Operand.tmp 23,Operand.tmp 26],argTypes:=#[31,31] },type:=4,pos := "pivot.go:40",after:=#[{ on:=2,ground:=Ground.data },{ on:=5,ground:=Ground.data },{ on:=5,ground:=Ground.chain }],guard:=none }) rfl (fun K hK=>?_) AllReadyH.nil
   go_simp
   refine (uH K4 _ k hlt).mono ?_
   rintro e w5 ⟨rfl,hb⟩
   replace hX:=hide ((uH hX).all hb)
   replace hB:=hide ((uH hB).trans (hb.mono (uH hB).size))
   clear hb
   go_wp2_with fail
   refine hK.out _ _ ?_ (fun hHeld=>?_)
   ·exact ⟨(uH hX).c0,(uH hX).c1,(uH hX).c2⟩
   clear hK K
   refine wpAnyH_take (i:=7) (oi:={ dst:=some 28,op:=Op.unOp UnOp.not 4 (Operand.tmp 27),type:=4,pos := "pivot.go:40",after:=#[{ on:=6,ground:=Ground.data }],guard:=none }) (v:=(Value.bool (!f k))) rfl (by kernel_rfl) (by kernel_rfl) (by kernel_rfl) (fun _ _ _ h=>h) (Or.inl ⟨by rfl,?_⟩) (by assumption) ?_
   ·(intro w hSw;(try dsimp only at hSw);go_simp)
   simp only [Act.put,List.setIfInBounds_toArray,List.set_cons_zero,List.set_cons_succ]
   refine wpAnyH_done (by kernel_rfl) ?_ _
   cases hf:f k with
   | false =>
    have hz:Hid (k = m):=hide (uH HM k hk (uH hF) (.inr hf))
    go_wp2_with fail
    exact bodyPost_ret (v:=.tuple #[.int .i64 (k:Nat),.int .i64 0]) (by simp [results,Tryz.results15,go_sem]) rfl ⟨by rw [uH hz],uH hB⟩
   | true =>
    have hF2:Hid (∀ j,j < k+1→f j = true):=hide (fun j hj=>by
     by_cases g:j = k
     ·rw [g];exact hf
     ·exact uH hF j (by omega))
    go_wp2_with fail
    go_round
    case rel=>exact ⟨k+1,by omega,by go_num,hF2,hX,hB⟩
    case measure=>first | (simp [intOf];done) | (simp [intOf];omega)
  ·have hkk:k = q:=by omega
   have hz:Hid (q = m):=hide (uH HM q (Nat.le_refl _) (by rw [← hkk];exact uH hF) (.inl rfl))
   have hkI:¬ ((k:Int) < (q:Int)):=by omega
   clear hkk
   go_wp2_with fail
   exact bodyPost_ret (v:=.tuple #[.int .i64 (q:Nat),.int .i64 0]) (by simp [results,Tryz.results15,go_sem]) rfl ⟨by rw [uH hz],uH hB⟩
theorem pTold_err (r c:Int) (ao:Option Addr) (cap:Nat) (I:List Int) (w:World) (hI:BitsAt w ao cap I) (hl:I.length≤17592186043904) (h:ckE r c I ≠ 0) :
  Calls Tryz.prog 15 #[.agg #[.int .i64 r,.int .i64 c,.slice ao I.length cap]] w fun e w'=>e = .returned (.tuple #[.int .i64 0,.int .i64 (ckE r c I)])∧Below w.heap.size w w':=by
 have hw:ckE r c I = 1 ∨ ckE r c I = 4:=by
  unfold ckE at h ⊢
  repeat' split
  all_goals first | exact .inl rfl | exact .inr rfl | (exfalso;revert h;simp_all)
 exact ptold_err r c ao I.length cap _ w hw (fun w' hb=>ccheck_any r c ao cap I w' (hI.below hb) (by omega))
theorem pTold_any (r c cap:Nat) (ao:Option Addr) (S:List Nat) (w:World) (h:Mx w ao cap r c S) (hf:finL S = true) (hT:Tab w) :
  Calls Tryz.prog 15 #[.agg #[.int .i64 r,.int .i64 c,.slice ao S.length cap]] w fun e w'=>e = .returned (.tuple #[.int .i64 (tdN r c S:Nat),.int .i64 0])∧Below w.heap.size w w':=by
 have r6:=h.2.2.1;have c6:=h.2.2.2
 have h36:=h.small
 have hck:ckE (r:Int) (c:Int) (mxL S) = 0:=by
  unfold ckE
  rw [mxL_len,mx_ok h]
  have:fnK (mxL S) S.length = true:=hf
  rw [this]
  rfl
 have hlt:∀ k,fR (elM c S k k) < 18446744073709551616:=fun k=>by have:=fR_lt (elM c S k k);omega
 refine ptold_of r c S.length cap (min r c) (tdN r c S) (fR (elM c S 0 0)) (xV (fR (elM c S 0 0)) (-40)) ao (fun k=>fR (elM c S k k)) (tdB c S) w (by omega) (by omega) (fun k hk h1 h2=>(takeWhile_len (tdB c S) (min r c) k hk h1 h2).symm) (fun w' hb=>?_) (fun w' hb h0=>?_) (fun w' hb=>?_) (fun w' k hb hk=>?_) (fun w' k hk=>?_)
 ·have:=ccheck_any r c ao cap (mxL S) w' (h.1.below hb) (by rw [mxL_len];omega)
  rw [mxL_len,hck] at this
  exact this
 ·exact onDiag_any r c cap 0 ao S w' (h.below hb) (by omega) (by omega)
 ·exact vscale_any (fR (elM c S 0 0)) (-40) w' (hlt 0) (hT.all hb)
 ·exact onDiag_any r c cap k ao S w' (h.below hb) (by omega) (by omega)
 ·have:=cless_any (xV (fR (elM c S 0 0)) (-40)) (fR (elM c S k k)) w' (xV_lt _ _ (hlt 0)) (hlt k)
  exact this
end Go.Proofs.YtnnfjeieennffaaGreatDoor
namespace Go.Proofs.YtnnfjeieennffaaGreatDoor
open Go.RowKit
theorem pivot_awake_any (w:World) (hT:Tab w):∀ w',Below w.heap.size w w'→Calls Tryz.prog 14 #[] w' fun e w''=>e = .returned (.bool true)∧Below w'.heap.size w' w'' :=
 pivot_awake w (fun w' ao cap r c S hb h hf hk=>pFactor_yes r c cap ao S w' h hf hk (hT.all hb))
end Go.Proofs.YtnnfjeieennffaaGreatDoor
