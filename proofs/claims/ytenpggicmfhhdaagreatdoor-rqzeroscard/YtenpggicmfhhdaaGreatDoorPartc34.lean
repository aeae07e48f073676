/- Part 34 of the texts. -/
import Derived.Test.YtenpggicmfhhdaaGreatDoorPartc33
import Derived.Test.YtenpggicmfhhdaaGreatDoorPartc29
import Derived.Test.YtenpggicmfhhdaaGreatDoorPartc23
import Derived.Deep.RegionHeld3
import Derived.Test.YtenpggicmfhhdaaGreatDoorPartc18
import Derived.Test.YtenpggicmfhhdaaGreatDoorPartc16
import Derived.Test.YtenpggicmfhhdaaGreatDoorPartc17
import Derived.Test.YtenpggicmfhhdaaGreatDoorPartc24
import Derived.Test.YtenpggicmfhhdaaGreatDoorPartc25
import Derived.Test.YtenpggicmfhhdaaGreatDoorPartc27
import Derived.Deep.RegionLaw
import Derived.Test.YtenpggicmfhhdaaGreatDoorPartc13
import Derived.Test.YtenpggicmfhhdaaGreatDoorPartc14
import Derived.Test.YtenpggicmfhhdaaGreatDoorPartc12
import Derived.Test.YtenpggicmfhhdaaGreatDoorPartc11
import Derived.Deep.Cut
import Derived.BigQuiet
import Derived.Test.YtenpggicmfhhdaaGreatDoorPartc05
import Derived.Test.YtenpggicmfhhdaaGreatDoorPartc02
import Derived.Maps.AppendAt
import Derived.Test.YtenpggicmfhhdaaGreatDoorPartc08
import Derived.Lib.BitFns
import Derived.Test.YtenpggicmfhhdaaGreatDoorPartc07
import Derived.Test.YtenpggicmfhhdaaGreatDoorPartc06
import Derived.Test.YtenpggicmfhhdaaGreatDoorPartc01
import Derived.Maps.Own
import Derived.Maps.OwnOps
import Derived.Maps.OwnSet
import Derived.DeepKeys4
import Derived.WalkSmall
import Derived.OwnWalk
import Derived.Deep.AppendLies
import Derived.Test.YtenpggicmfhhdaaGreatDoorPartc26
import Derived.Deep.RegionWith
import Derived.Test.YtenpggicmfhhdaaGreatDoorPartc32
import Derived.Test.YtenpggicmfhhdaaGreatDoorPartc30
import Derived.Test.YtenpggicmfhhdaaGreatDoorPartc31
set_option maxHeartbeats 8000000
set_option maxRecDepth 20000
namespace Go.Proofs.YtenpggicmfhhdaaGreatDoor
open Go.RowKit
attribute [local go_sem ↓] Go.wp_at_zero Go.wp_at_succ
theorem happly_form (r c:Int) (ao:Option Addr) (n cap:Nat) (i k:Int) (vo:Option Addr) (L vc tau:Nat) (w:World)
  (C1:∀ w',Calls Tryz.prog 19 #[.agg #[.int .i64 r,.int .i64 c,.slice ao n cap]] w' fun e w''=>e = .returned (.int .i64 1)∧Below w'.heap.size w' w'') :
  Calls Tryz.prog 52 #[.agg #[.int .i64 r,.int .i64 c,.slice ao n cap],.int .i64 i,.int .i64 k,.slice vo L vc,.int .u64 tau] w fun e w'=>∃ v,e = .returned (.tuple #[v,.int .i64 1])∧NewM w.heap.size w' 0 0 [] v∧Below w.heap.size w w':=by
 have K:=hide (C1 ((w.alloc (.cells #[.int .i64 r,.int .i64 c,.slice ao n cap] 24)).alloc (.cells #[.int .i64 0,.int .i64 0,.slice none 0 0] 24)))
 simp only [size_alloc9] at K
 have KB:=hide (boxes2 w (.int .i64 r) (.int .i64 c) (.slice ao n cap) (.int .i64 0) (.int .i64 0) (.slice none 0 0))
 clear C1
 go_enter Tryz.func52,Tryz.ntmps52
 go_wp2_with fail
 refine Calls.mono (uH K) ?_
 rintro e w1 ⟨rfl,hb1⟩
 obtain ⟨hB,hA,hX⟩:=uH KB w1 hb1
 clear K KB hb1 hA
 have f0:=hX.free 0;have f1:=hX.free 1;have f2:=hX.free 2
 have s0:=hX.c0;have s1:=hX.c1;have s2:=hX.c2
 have XP:=hX.put (.int .i64 0) (.int .i64 0) (.slice none 0 0)
 have z0:=XP.c0;have z1:=XP.c1;have z2:=XP.c2
 have BP:=hide (below_putM hB (b:=w.heap.size+1) (by omega) (.int .i64 0) (.int .i64 0) (.slice none 0 0))
 clear XP hX hB
 go_wp2
 refine bodyPost_ret (v:=.tuple #[.agg #[.int .i64 0,.int .i64 0,.slice none 0 0],_]) (by simp [results,Tryz.results52,go_sem,z0,z1,z2]) rfl ⟨_,rfl,NewM.zero _ _,uH BP⟩
theorem happly_of (r c n cap i k L vc tau:Nat) (ao vo:Option Addr) (S:List Nat) (w:World) (hr:r≤6) (hi:i+L≤r) (hk:k≤c) 
  (C1:∀ w',Calls Tryz.prog 19 #[.agg #[.int .i64 r,.int .i64 c,.slice ao n cap]] w' fun e w''=>e = .returned (.int .i64 0)∧Below w'.heap.size w' w'')
  (C2:∀ w',Below w.heap.size w w'→Calls Tryz.prog 77 #[.agg #[.int .i64 r,.int .i64 c,.slice ao n cap],.int .i64 i,.int .i64 k,.slice vo L vc,.int .u64 tau] w' fun e w''=>∃ g,e = .returned (.agg #[.int .i64 r,.int .i64 c,.slice (some ⟨g,0,none⟩) n n])∧w'.heap.size≤g∧RowB w'' g S∧Below w'.heap.size w' w'') :
  Calls Tryz.prog 52 #[.agg #[.int .i64 r,.int .i64 c,.slice ao n cap],.int .i64 i,.int .i64 k,.slice vo L vc,.int .u64 tau] w fun e w'=>∃ g,e = .returned (.tuple #[.agg #[.int .i64 r,.int .i64 c,.slice (some ⟨g,0,none⟩) n n],.int .i64 0])∧w.heap.size+2≤g∧RowB w' g S∧Below w.heap.size w w':=by
 have K:=hide (C1 ((w.alloc (.cells #[.int .i64 r,.int .i64 c,.slice ao n cap] 24)).alloc (.cells #[.int .i64 0,.int .i64 0,.slice none 0 0] 24)))
 simp only [size_alloc9] at K
 have KB:=hide (boxes2 w (.int .i64 r) (.int .i64 c) (.slice ao n cap) (.int .i64 0) (.int .i64 0) (.slice none 0 0))
 have K2:=hide C2
 have HZ:=hide (show w.heap.size+2≤((w.alloc (.cells #[.int .i64 r,.int .i64 c,.slice ao n cap] 24)).alloc (.cells #[.int .i64 0,.int .i64 0,.slice none 0 0] 24)).heap.size by rw [size_alloc9,size_alloc9];omega)
 have hw:IntKind.i64.wrap ((r:Int) - (L:Int)) = (r:Int) - (L:Int):=wrap_in _ (by omega)
 have h1:(i:Int)≤(r:Int) - (L:Int):=by omega
 have h2:(k:Int)≤(c:Int):=by omega
 clear C1 C2
 go_enter Tryz.func52,Tryz.ntmps52
 go_wp2_with fail
 refine Calls.mono (uH K) ?_
 rintro e w1 ⟨rfl,hb1⟩
 obtain ⟨hB,hA,hX⟩:=uH KB w1 hb1
 have HG1:=hide (Nat.le_trans (uH HZ) hb1.size)
 clear K KB hb1 HZ
 have a0:=hA.c0;have a1:=hA.c1;have a2:=hA.c2
 have HB:=hide hB;have HX:=hide hX
 clear hB hA hX
 go_wp2_with fail
 clear a0 a1 a2
 refine (uH K2 _ (uH HB)).mono ?_
 rintro e w2 ⟨g,rfl,hg,hr,hb⟩
 have hB:=(uH HB).trans (hb.mono (uH HB).size)
 have hX:=(uH HX).all hb
 have HG:=hide (Nat.le_trans (uH HG1) hg)
 have f0:=hX.free 0;have f1:=hX.free 1;have f2:=hX.free 2
 have s0:=hX.c0;have s1:=hX.c1;have s2:=hX.c2
 have XP:=hX.put (.int .i64 r) (.int .i64 c) (.slice (some ⟨g,0,none⟩) n n)
 have z0:=XP.c0;have z1:=XP.c1;have z2:=XP.c2
 have Q:=hide (hr.three (g:=w.heap.size+1) (by have:=uH HG;omega) (.int .i64 r) (.int .i64 c) (.slice (some ⟨g,0,none⟩) n n))
 have BP:=hide (below_putM hB (b:=w.heap.size+1) (by omega) (.int .i64 r) (.int .i64 c) (.slice (some ⟨g,0,none⟩) n n))
 clear hB hX hb hg hr XP HB HX K2 HG1
 go_wp2
 exact bodyPost_ret (v:=.tuple #[.agg #[.int .i64 r,.int .i64 c,.slice (some ⟨g,0,none⟩) n n],.int .i64 0]) (by simp [results,Tryz.results52,go_sem,z0,z1,z2]) rfl ⟨_,rfl,uH HG,uH Q,uH BP⟩
theorem apM_lt {r c:Nat} {S:List Nat} (hS:∀ p q,elM c S p q < 18446744073709551616) (i k:Nat) (vs:List Nat) (tau:Nat):∀ x ∈ apM r c S i k vs tau,x < 18446744073709551616:=by
 intro x hx
 unfold apM mkM at hx
 obtain ⟨p,_,rfl⟩:=List.mem_map.1 hx
 show (if _ then _ else _) < _
 split
 ·rename_i g
  exact apL_lt c S i _ vs tau (by omega) hS
 ·exact hS _ _
theorem pa_col (c:Nat) (S:List Nat) (i d n:Nat):paM c S i d n 1 = colL c S i n d:=by
 unfold paM mkM colL
 rw [Nat.mul_one]
 refine List.map_congr_left (fun p _=>?_)
 show elM c S (i+p / 1) (d+p % 1) = _
 rw [Nat.div_one,Nat.mod_one,Nat.add_zero]
theorem hApply_row (r c cap i k vc tau:Nat) (ao vo:Option Addr) (S vs:List Nat) (w:World) (h:Mx w ao cap r c S) (hV:BitsAt w vo vc (mxL vs)) (hi:i+vs.length≤r) (hk:k≤c) (ht:tau < 18446744073709551616) (hT:Tab w) :
  Calls Tryz.prog 52 #[.agg #[.int .i64 r,.int .i64 c,.slice ao S.length cap],.int .i64 i,.int .i64 k,.slice vo vs.length vc,.int .u64 tau] w fun e w'=>∃ g,e = .returned (.tuple #[.agg #[.int .i64 r,.int .i64 c,.slice (some ⟨g,0,none⟩) S.length S.length],.int .i64 0])∧w.heap.size+2≤g∧RowB w' g (apM r c S i k vs tau)∧Below w.heap.size w w':=by
 have h36:=h.small
 have r6:=h.2.2.1
 have c6:=h.2.2.2
 refine happly_of r c S.length cap i k vs.length vc tau ao vo (apM r c S i k vs tau) w r6 hi hk (fun w'=>?_) (fun w' hb=>?_)
 ·have:=mcheck_any (r:Int) (c:Int) ao S.length cap w' (by omega)
  rw [if_pos (mx_ok h)] at this
  exact this
 have hM:=h.below hb
 have hV':=hV.below hb
 have hT':=hT.all hb
 rw [← apJ_all r c S i k vs tau c (Nat.le_refl _)]
 refine mirrored_of r c S.length cap i k vs.length vc tau ao vo (fun d j=>apJ r c S i k vs tau d j) (fun d=>mxL (colL c S i vs.length d)) (fun d j=>(i+j) * c+d) (fun d j=>(apL c S i d vs tau).getD j 0) (fun d=>mV tau (dtV 0 vs (colL c S i vs.length d))) w' h36 c6 r6 hi hk
  (by show BitsAt w' ao cap (mxL (apJ r c S i k vs tau k 0));rw [apJ_0 r c S i k vs tau h.2.1];exact hM.1) (fun d j=>by rw [apJ_len,h.2.1]) (fun d=>apJ_next r c S i k vs tau d)
  (fun d j hd hdc hj=>⟨by rw [h.2.1];exact place_lt (by omega) hdc,rfl,apJ_set r c S hi hdc hd hj⟩) (fun w'' d hb2 hd hdc=>?_) (fun w'' d po pc hb2 hd hdc hX=>?_) (fun w'' d j po pc bx bt bv hb2 hd hdc hj hX hx ht' hv=>?_)
 ·refine (mPart_ok r c cap i d vs.length 1 ao S w'' (hM.below hb2) hi (by omega)).mono ?_
  rintro e w3 ⟨v,rfl,⟨po,pc,rfl,hn,hx⟩,hb3⟩
  rw [pa_col] at hn hx ⊢
  rw [colL_len]
  exact ⟨po,pc,rfl,hn,hx,hb3⟩
 ·have I:=himage_any po vo pc vc tau (colL c S i vs.length d) vs w'' hX (hV'.below hb2) (colL_len _ _ _ _ _) (by omega) ht (hT'.all hb2)
  rw [colL_len] at I
  exact I
 ·have hV2:=hV'.below hb2
  have hT2:=hT'.all hb2
  obtain ⟨b1,o1,e1,_,z1⟩:=hX.ne (by rw [mxL_len,colL_len];omega)
  obtain ⟨b2,o2,e2,_,z2⟩:=hV2.ne (by rw [mxL_len];omega)
  subst e1
  subst e2
  have q1:=z1 j (by rw [mxL_len,colL_len];exact hj)
  have q2:=z2 j (by rw [mxL_len];exact hj)
  rw [mxL_at,colL_at c S i vs.length d hj] at q1
  rw [mxL_at] at q2
  have lv:vs.getD j 0 < 18446744073709551616:=by
   have:=hV.lt j
   rwa [mxL_at] at this
  show Calls _ _ _ w'' fun e w3=>e = .returned (.int .u64 ((apL c S i d vs tau).getD j 0:Nat))∧_
  rw [apL_at c S i d vs tau hj]
  exact himage1_of _ _ _ (mV (mV tau (dtV 0 vs (colL c S i vs.length d))) (vs.getD j 0)) _ j vs.length vs.length pc vc bx bv bt b1 o1 b2 o2 w'' hj hj hx hv ht' q1 q2
   (fun w3 hb3=>vmul_any _ _ w3 (mV_lt _ _) lv (hT2.all hb3)) (fun w3 hb3=>psub_any _ _ w3 (h.el_lt _ _) (mV_lt _ _) (hT2.all hb3))
theorem hApply_ok (r c cap i k vc tau:Nat) (ao vo:Option Addr) (S vs:List Nat) (w:World) (h:Mx w ao cap r c S) (hV:BitsAt w vo vc (mxL vs)) (hi:i+vs.length≤r) (hk:k≤c) (ht:tau < 18446744073709551616) (hT:Tab w) :
  Calls Tryz.prog 52 #[.agg #[.int .i64 r,.int .i64 c,.slice ao S.length cap],.int .i64 i,.int .i64 k,.slice vo vs.length vc,.int .u64 tau] w fun e w'=>∃ v,e = .returned (.tuple #[v,.int .i64 0])∧NewM w.heap.size w' r c (apM r c S i k vs tau) v∧Below w.heap.size w w':=by
 refine (hApply_row r c cap i k vc tau ao vo S vs w h hV hi hk ht hT).mono ?_
 rintro e w' ⟨g,rfl,hg,hr,hb⟩
 have l:S.length = (apM r c S i k vs tau).length:=by rw [apM_len,h.2.1]
 have hr2:=hr.bits (apM_lt (fun p q=>h.el_lt p q) i k vs tau)
 refine ⟨_,rfl,⟨_,S.length,by rw [l],.inr ⟨g,0,rfl,by omega⟩,?_⟩,hb⟩
 rw [l]
 exact hr2
end Go.Proofs.YtenpggicmfhhdaaGreatDoor
namespace Go.Proofs.YtenpggicmfhhdaaGreatDoor
open Go.RowKit
theorem aV_left (a b:Nat) (h:fFin (aV a b) = true):fFin a = true:=by
 by_cases h4:fK a = 4
 ·unfold aV at h
  rw [if_pos (.inl h4)] at h
  exact absurd h (by decide +kernel)
 by_cases h3:fK a = 3
 ·unfold aV at h
  by_cases hb:fK b = 4
  ·rw [if_pos (.inr hb)] at h
   exact absurd h (by decide +kernel)
  ·rw [if_neg (fun e=>e.elim h4 hb),if_pos h3] at h
   split at h
   ·exact absurd h (by decide +kernel)
   ·exact h
 exact fin_of a h3 h4
theorem finL_all (xs:List Nat):finL xs = true ↔ ∀ k,k < xs.length→fFin (xs.getD k 0) = true:=by
 unfold finL
 rw [fnK_all]
 exact ⟨fun h k hk=>by have:=h k hk;rwa [mxL_at] at this,fun h k hk=>by rw [mxL_at];exact h k hk⟩
theorem ap_left {r c:Nat} {S:List Nat} (hl:S.length = r * c) (i k:Nat) (vs:List Nat) (tau:Nat) (h:finL (apM r c S i k vs tau) = true):finL S = true:=by
 rw [finL_all] at h ⊢
 intro x hx
 rw [apM_len] at h
 rw [hl] at hx
 obtain ⟨h1,h2,h3⟩:=place_in hx
 have hf:fFin (elM c (apM r c S i k vs tau) (x / c) (x % c)) = true:=by
  have:=h x hx
  unfold elM
  rwa [h3]
 rw [el_ap r c S i k vs tau h1 h2] at hf
 have e:S.getD x 0 = elM c S (x / c) (x % c):=by unfold elM;rw [h3]
 rw [e]
 split at hf
 ·rename_i g
  rw [apL_at c S i (x % c) vs tau (j:=x / c - i) (by omega)] at hf
  have:=aV_left _ _ hf
  rwa [show i+(x / c - i) = x / c by omega] at this
 ·exact hf
theorem qrQ_left (r c:Nat) (S:List Nat) (K:Nat):∀ t d,finL (qrQ r c S K (t+d)) = true→finL (qrQ r c S K t) = true:=by
 intro t d
 induction d with
 | zero=>exact fun h=>h
 | succ d ih=>exact fun h=>ih (ap_left (qrQ_len r c S K (t+d)) _ _ _ _ h)
theorem pa_self (r c:Nat) (S:List Nat) (h:S.length = r * c):paM c S 0 0 r c = S:=by
 conv=>rhs;rw [← mkM_of r c S h]
 unfold paM
 refine mkM_congr (fun p q _ _=>?_)
 rw [Nat.zero_add,Nat.zero_add]
 rfl
theorem triangle_any (r c cap:Nat) (ao:Option Addr) (S:List Nat) (w:World) (h:Mx w ao cap r c S) (hT:Tab w) :
  Calls Tryz.prog 35 #[.agg #[.int .i64 r,.int .i64 c,.slice ao S.length cap]] w fun e w'=>TriAns w w' (qrK r c S (qrN r c)) r c S.length (qrN r c) (facR r c S) (fun j=>mrV (qrX r c S j)) (fun j=>mrT (qrX r c S j)) e∧Below w.heap.size w w':=by
 have hl:=h.2.1
 have r6:=h.2.2.1
 have c6:=h.2.2.2
 have lR:=fun j=>(qrR_len r c S hl j).trans hl.symm
 have lX:∀ j,(qrX r c S j).length = r - j:=qrX_len r c S
 have lV:∀ j,(mrV (qrX r c S j)).length = r - j:=fun j=>by rw [mrV_len,lX]
 have lA:∀ j,(apM r c (qrR r c S j) j j (mrV (qrX r c S j)) (mrT (qrX r c S j))).length = S.length:=fun j=>by rw [apM_len,hl]
 refine triangle_of r c S.length cap (qrN r c) (min (c:Int) ((r:Int) - 1)) ao (qrR r c S) (fun j=>apM r c (qrR r c S j) j j (mrV (qrX r c S j)) (mrT (qrX r c S j))) (qrX r c S) (fun j=>mrV (qrX r c S j)) (fun j=>mrT (qrX r c S j)) (fun j=>mrB (qrX r c S j)) (fun j=>finL (qrX r c S j) && mrK (qrX r c S j)) (qrK r c S (qrN r c)) w r6 c6 rfl (fun j=>by rw [qrN_lt];omega) lR lA lV (fun j _=>qrR_lt h.1.nat (j+1)) (fun j _=>apS_lt (qrR_lt h.1.nat j) _ _ _ _) ?_ ?_ ?_ ?_ ?_ ?_ ?_
 ·rw [qrK_all]
  exact ⟨fun q j hj=>by rw [(q j hj).1,(q j hj).2];rfl,fun q j hj=>by have:=q j hj;rwa [Bool.and_eq_true] at this⟩
 ·intro w' hb
  refine (mPart_ok r c cap 0 0 r c ao S w' (h.below hb) (by omega) (by omega)).mono ?_
  rintro e w'' ⟨v,rfl,⟨po,pc,rfl,hn,hx⟩,hb2⟩
  rw [pa_self r c S hl] at hn hx ⊢
  exact ⟨po,pc,rfl,hn,hx,hb2⟩
 ·intro w' j po pc hj hb
  have hj2:=(qrN_lt r c j).1 hj
  have:=mPart_ok r c pc j j (r - j) 1 po (qrR r c S j) w' ⟨hb,qrR_len r c S hl j,r6,c6⟩ (by omega) (by omega)
  rw [lR j] at this
  refine this.mono ?_
  rintro e w'' ⟨v,rfl,⟨bo,d,rfl,hn,hx⟩,hb2⟩
  rw [pa_col] at hx ⊢
  rw [colL_len]
  exact ⟨bo,d,rfl,hx,hb2⟩
 ·intro w' j bo d hj ho hb hx
  have hj2:=(qrN_lt r c j).1 hj
  rw [Bool.and_eq_true] at ho
  have:=hMake_ok bo d (mxL (qrX r c S j)) w' hx (by rw [mxL_len,lX];omega) (by rw [mxL_len,lX];omega) (by rw [mxL_len];exact ho.1) (by rw [toN_mxL];exact ho.2) (hT.all hb)
  rw [toN_mxL,mxL_len,lX] at this
  exact this
 ·intro w' j bo d hj ho hb hx
  have hj2:=(qrN_lt r c j).1 hj
  cases hf:finL (qrX r c S j)
  ·have:=hMake_inf bo d (mxL (qrX r c S j)) w' hx (by rw [mxL_len,lX];omega) (by rw [mxL_len,lX];omega) (by rw [mxL_len];exact hf)
   rw [mxL_len,lX] at this
   refine this.mono ?_
   rintro e w'' ⟨so,cs,rfl,hb2⟩
   exact ⟨so,cs,4,rfl,.inr rfl,hb2⟩
  ·have hk:mrK (qrX r c S j) = false:=by
    have:=ho
    rw [hf,Bool.true_and] at this
    exact this
   have:=hMake_none bo d (mxL (qrX r c S j)) w' hx (by rw [mxL_len,lX];omega) (by rw [mxL_len,lX];omega) (by rw [mxL_len];exact hf) (by rw [toN_mxL];exact hk) (hT.all hb)
   rw [mxL_len,lX] at this
   refine this.mono ?_
   rintro e w'' ⟨so,cs,rfl,hb2⟩
   exact ⟨so,cs,2,rfl,.inl rfl,hb2⟩
 ·intro w' j po pc vo vc hj hb hp hv
  have hj2:=(qrN_lt r c j).1 hj
  have:=hApply_row r c pc j j vc (mrT (qrX r c S j)) po vo (qrR r c S j) (mrV (qrX r c S j)) w' ⟨hp,qrR_len r c S hl j,r6,c6⟩ hv (by rw [lV];omega) (by omega) (mrT_lt _) (hT.all hb)
  rw [lR j,lV] at this
  refine this.mono ?_
  rintro e w'' ⟨g,rfl,hg,hr,hb2⟩
  exact ⟨g,rfl,by omega,hr,hb2⟩
 ·intro w' j g hj hrow
  have hj2:=(qrN_lt r c j).1 hj
  have:=settle_any r c j (mrB (qrX r c S j)) g _ w' r6 c6 (by omega) (by omega) (apM_len r c (qrR r c S j) j j (mrV (qrX r c S j)) (mrT (qrX r c S j))) hrow
  rw [lA j] at this
  exact this
theorem upright_any (r c lc:Nat) (lo:Option Addr) (S:List Nat) (R:List Mr) (w:World) (hr:r≤6) (hc:c≤6) (hl:OwnMt 0 w (.slice lo (qrN r c) lc) R) (hRl:R.length = qrN r c) (hRm:∀ k,k < qrN r c→(mrAt R k).V = mrV (qrX r c S k)∧(mrAt R k).tau = mrT (qrX r c S k)) (hT:Tab w) :
  Calls Tryz.prog 36 #[.int .i64 r,.slice lo (qrN r c) lc] w fun e w'=>∃ Q qo qc,(Q = facQ r c S ∨ (fnK (mxL Q) (r * r) = false∧finL (facQ r c S) = false))∧Q.length = r * r∧e = .returned (.agg #[.int .i64 r,.int .i64 r,.slice qo (r * r) qc])∧NewB w.heap.size qo (mxL Q)∧BitsAt w' qo qc (mxL Q)∧Below w.heap.size w w':=by
 have lX:∀ j,(qrX r c S j).length = r - j:=qrX_len r c S
 have lV:∀ j,(mrV (qrX r c S j)).length = r - j:=fun j=>by rw [mrV_len,lX]
 have hK:qrN r c≤6:=by unfold qrN;omega
 refine (upright_of r (r * r) (qrN r c) lc lo (fun j=>mrV (qrX r c S j)) (qrQ r c S (qrN r c)) (fun j=>mrT (qrX r c S j)) R w (Nat.mul_le_mul hr hr) hK hl hRl hRm (qrQ_len r c S _) lV ?_ ?_ (fun w' x hx=>sfinite_any x w' hx)).mono ?_
 ·intro w'
  refine (mEye_ok r w' hr).mono ?_
  rintro e w'' ⟨v,rfl,⟨qo,qc,rfl,hn,hb⟩,hb2⟩
  exact ⟨qo,qc,by rw [show (eyM r).length = r * r from mkM_len r r _],hn,hb,hb2⟩
 ·intro w' t j po pc vo vc ht hj hb hp hv
  have hj2:=(qrN_lt r c j).1 (by omega)
  have:=hApply_ok r r pc j 0 vc (mrT (qrX r c S j)) po vo (qrQ r c S (qrN r c) t) (mrV (qrX r c S j)) w' ⟨hp,qrQ_len r c S _ t,hr,hr⟩ hv (by rw [lV];omega) (by omega) (mrT_lt _) (hT.all hb)
  rw [qrQ_len,lV] at this
  refine this.mono ?_
  rintro e w'' ⟨v,rfl,⟨qo,qc,rfl,hn,hx⟩,hb2⟩
  rw [apM_len]
  have e:apM r r (qrQ r c S (qrN r c) t) j 0 (mrV (qrX r c S j)) (mrT (qrX r c S j)) = qrQ r c S (qrN r c) (t+1):=by
   show _ = apM r r (qrQ r c S (qrN r c) t) (qrN r c - 1 - t) 0 (mrV (qrX r c S (qrN r c - 1 - t))) (mrT (qrX r c S (qrN r c - 1 - t)))
   rw [← hj]
  rw [e] at hn hx
  exact ⟨qo,qc,rfl,hn,hx,hb2⟩
 ·rintro e w' ⟨t,qo,qc,ht,hor,rfl,hn,hx,hb⟩
  refine ⟨_,qo,qc,?_,qrQ_len r c S _ t,rfl,hn,hx,hb⟩
  rcases hor with e | e
  ·left;rw [e];rfl
  ·right
   refine ⟨e,?_⟩
   cases hf:finL (facQ r c S)
   ·rfl
   ·have h2:=qrQ_left r c S (qrN r c) t (qrN r c - t) (by rw [show t+(qrN r c - t) = qrN r c by omega];exact hf)
    unfold finL at h2
    rw [qrQ_len,e] at h2
    cases h2
theorem qFactor_any (r c cap:Nat) (ao:Option Addr) (S:List Nat) (w:World) (h:Mx w ao cap r c S) (hf:finL S = true) (hT:Tab w) :
  Calls Tryz.prog 25 #[.agg #[.int .i64 r,.int .i64 c,.slice ao S.length cap]] w fun e w'=>((facK r c S = true∧∃ v u,e = .returned (.tuple #[v,u,.int .i64 0])∧NewM w.heap.size w' r r (facQ r c S) v∧NewM w.heap.size w' r c (facR r c S) u) ∨ (facK r c S = false∧∃ v u,e = .returned (.tuple #[v,u,.int .i64 2])∧NewM w.heap.size w' 0 0 [] v∧NewM w.heap.size w' 0 0 [] u))∧Below w.heap.size w w':=by
 have hl:=h.2.1
 have r6:=h.2.2.1
 have c6:=h.2.2.2
 have h36:=h.small
 have hq36:r * r≤36:=Nat.mul_le_mul r6 r6
 have lr:(facR r c S).length = S.length:=(qrR_len r c S hl _).trans hl.symm
 have hck:ckE (r:Int) (c:Int) (mxL S) = 0:=by
  unfold ckE
  rw [mxL_len,mx_ok h]
  have:fnK (mxL S) S.length = true:=hf
  rw [this]
  rfl
 refine factor_of r c S.length (r * r) (qrN r c) cap ao (facR r c S) (facQ r c S) (fun j=>mrV (qrX r c S j)) (fun j=>mrT (qrX r c S j)) (qrK r c S (qrN r c)) (finL (facQ r c S)) (finL (facR r c S)) w lr (qrQ_len _ _ _ _ _) (by unfold finL;rw [show (facQ r c S).length = r * r from qrQ_len _ _ _ _ _]) ?_ (fun w' hb=>triangle_any r c cap ao S w' (h.below hb) (hT.all hb)) (fun w' lo lc R hb h1 h2 h3=>upright_any r c lc lo S R w' r6 c6 h1 h2 h3 (hT.all hb)) ?_ ?_
 ·intro w' hb
  have:=ccheck_any r c ao cap (mxL S) w' (h.1.below hb) (by rw [mxL_len];omega)
  rw [mxL_len,hck] at this
  exact this
 ·intro w' Q qo qc hb hl2
  have:=vFinite_any qo qc (mxL Q) w' hb (by rw [mxL_len];omega)
  rw [mxL_len,hl2] at this
  exact this
 ·intro w' ro rc hb
  have:=vFinite_any ro rc (mxL (facR r c S)) w' hb (by rw [mxL_len];omega)
  unfold finL
  rw [mxL_len,lr] at this
  rw [lr]
  exact this
theorem qFactor_err (r c:Int) (ao:Option Addr) (cap:Nat) (I:List Int) (w:World) (hI:BitsAt w ao cap I) (hl:I.length≤17592186043904) (h:ckE r c I ≠ 0) :
  Calls Tryz.prog 25 #[.agg #[.int .i64 r,.int .i64 c,.slice ao I.length cap]] w fun e w'=>∃ v u,e = .returned (.tuple #[v,u,.int .i64 (ckE r c I)])∧NewM w.heap.size w' 0 0 [] v∧NewM w.heap.size w' 0 0 [] u∧Below w.heap.size w w':=by
 have hw:ckE r c I = 1 ∨ ckE r c I = 4:=by
  unfold ckE at h ⊢
  repeat' split
  all_goals first | exact .inl rfl | exact .inr rfl | (exfalso;revert h;simp_all)
 exact factor_err r c ao I.length cap _ w hw (fun w' hb=>ccheck_any r c ao cap I w' (hI.below hb) (by omega))
theorem qFactor_yes (r c cap:Nat) (ao:Option Addr) (S:List Nat) (w:World) (h:Mx w ao cap r c S) (hf:finL S = true) (hk:facK r c S = true) (hT:Tab w) :
  Calls Tryz.prog 25 #[.agg #[.int .i64 r,.int .i64 c,.slice ao S.length cap]] w fun e w'=>∃ v u,e = .returned (.tuple #[v,u,.int .i64 0])∧NewM w.heap.size w' r r (facQ r c S) v∧NewM w.heap.size w' r c (facR r c S) u∧Below w.heap.size w w':=by
 refine (qFactor_any r c cap ao S w h hf hT).mono ?_
 rintro e w' ⟨⟨_,v,u,rfl,h1,h2⟩ | ⟨hk2,_⟩,hb⟩
 ·exact ⟨v,u,rfl,h1,h2,hb⟩
 ·rw [hk] at hk2;cases hk2
theorem qFactor_no (r c cap:Nat) (ao:Option Addr) (S:List Nat) (w:World) (h:Mx w ao cap r c S) (hf:finL S = true) (hk:facK r c S = false) (hT:Tab w) :
  Calls Tryz.prog 25 #[.agg #[.int .i64 r,.int .i64 c,.slice ao S.length cap]] w fun e w'=>∃ v u,e = .returned (.tuple #[v,u,.int .i64 2])∧NewM w.heap.size w' 0 0 [] v∧NewM w.heap.size w' 0 0 [] u∧Below w.heap.size w w':=by
 refine (qFactor_any r c cap ao S w h hf hT).mono ?_
 rintro e w' ⟨⟨hk2,_⟩ | ⟨_,v,u,rfl,h1,h2⟩,hb⟩
 ·rw [hk] at hk2;cases hk2
 ·exact ⟨v,u,rfl,h1,h2,hb⟩
end Go.Proofs.YtenpggicmfhhdaaGreatDoor
namespace Go.Proofs.YtenpggicmfhhdaaGreatDoor
open Go.RowKit
attribute [local go_sem ↓] Go.wp_at_zero Go.wp_at_succ
theorem lq_form (r c:Int) (ao:Option Addr) (n cap:Nat) (w:World)
  (C1:∀ w',Below w.heap.size w w'→Calls Tryz.prog 24 #[.agg #[.int .i64 r,.int .i64 c,.slice ao n cap]] w' fun e w''=>∃ v,e = .returned (.tuple #[v,.int .i64 1])∧NewM w'.heap.size w'' 0 0 [] v∧Below w'.heap.size w' w'') :
  Calls Tryz.prog 12 #[.agg #[.int .i64 r,.int .i64 c,.slice ao n cap]] w fun e w'=>∃ v u,e = .returned (.tuple #[v,u,.int .i64 1])∧NewM w.heap.size w' 0 0 [] v∧NewM w.heap.size w' 0 0 [] u∧Below w.heap.size w w':=by
 have ST:=hide (FcSt.start w r c ao n cap)
 have K1:=hide (C1 _ (uH ST).bel)
 clear C1
 go_enter Tryz.func12,Tryz.ntmps12
 go_wp2_with fail
 refine (uH K1).mono ?_
 rintro e w1 ⟨v,rfl,⟨vo,vc,rfl,_,_⟩,hb⟩
 simp only [List.length_nil]
 have ba:=below_alloc9 w1 (.cells #[.int .i64 0,.int .i64 0,.slice vo 0 vc] 24)
 replace ST:=hide (((uH ST).all hb).all ba)
 clear hb ba K1
 have X1:=(uH ST).r1;have X2:=(uH ST).r2
 have s0:=X1.c0;have s1:=X1.c1;have s2:=X1.c2
 have f0:=X1.free 0;have f1:=X1.free 1;have f2:=X1.free 2
 have Y1:=X1.put (.int .i64 0) (.int .i64 0) (.slice none 0 0)
 have Y2:=X2.three14 (g:=w.heap.size+1) (by omega) (.int .i64 0) (.int .i64 0) (.slice none 0 0)
 have s3:=Y2.c0;have s4:=Y2.c1;have s5:=Y2.c2
 have f3:=Y2.free 0;have f4:=Y2.free 1;have f5:=Y2.free 2
 have Z1:=Y1.three14 (g:=w.heap.size+1+1) (by omega) (.int .i64 0) (.int .i64 0) (.slice none 0 0)
 have Z2:=Y2.put (.int .i64 0) (.int .i64 0) (.slice none 0 0)
 have z0:=Z1.c0;have z1:=Z1.c1;have z2:=Z1.c2;have z3:=Z2.c0;have z4:=Z2.c1;have z5:=Z2.c2
 have BP:=hide (below_putM (below_putM (uH ST).bel (b:=w.heap.size+1) (by omega) (.int .i64 0) (.int .i64 0) (.slice none 0 0)) (b:=w.heap.size+1+1) (by omega) (.int .i64 0) (.int .i64 0) (.slice none 0 0))
 clear X1 X2 Y1 Y2 Z1 Z2 ST
 go_wp2_with fail
 exact bodyPost_ret (v:=.tuple #[.agg #[.int .i64 0,.int .i64 0,.slice none 0 0],.agg #[.int .i64 0,.int .i64 0,.slice none 0 0],.int .i64 1]) (by simp [results,Tryz.results12,go_sem,z0,z1,z2,z3,z4,z5]) rfl ⟨_,_,rfl,NewM.zero _ _,NewM.zero _ _,uH BP⟩
theorem lq_err (r c n cap n1:Nat) (ao:Option Addr) (T:List Nat) (er:Int) (w:World) (her:er = 4 ∨ er = 2) (l1:T.length = n1)
  (C1:∀ w',Below w.heap.size w w'→Calls Tryz.prog 24 #[.agg #[.int .i64 r,.int .i64 c,.slice ao n cap]] w' fun e w''=>∃ v,e = .returned (.tuple #[v,.int .i64 0])∧NewM w'.heap.size w'' c r T v∧Below w'.heap.size w' w'')
  (C2:∀ w' po pc,Below w.heap.size w w'→BitsAt w' po pc (mxL T)→Calls Tryz.prog 25 #[.agg #[.int .i64 c,.int .i64 r,.slice po n1 pc]] w' fun e w''=>∃ v u,e = .returned (.tuple #[v,u,.int .i64 er])∧NewM w'.heap.size w'' 0 0 [] v∧NewM w'.heap.size w'' 0 0 [] u∧Below w'.heap.size w' w'') :
  Calls Tryz.prog 12 #[.agg #[.int .i64 r,.int .i64 c,.slice ao n cap]] w fun e w'=>∃ v u,e = .returned (.tuple #[v,u,.int .i64 er])∧NewM w.heap.size w' 0 0 [] v∧NewM w.heap.size w' 0 0 [] u∧Below w.heap.size w w':=by
 have ST:=hide (FcSt.start w r c ao n cap)
 have K1:=hide (C1 _ (uH ST).bel);have K2:=hide C2;have L1:=hide l1
 clear C1 C2 l1
 rcases her with rfl | rfl
 all_goals
  go_enter Tryz.func12,Tryz.ntmps12
  go_wp2_with fail
  refine (uH K1).mono ?_
  rintro e w1 ⟨v,rfl,⟨o1,c1,rfl,hn,hq⟩,hb⟩
  rw [uH L1]
  have ba:=below_alloc9 w1 (.cells #[.int .i64 c,.int .i64 r,.slice o1 n1 c1] 24)
  have HG1:=hide ((uH ST).all hb).r2.lt
  have BX1:=hide (BoxM.new w1 (.int .i64 c) (.int .i64 r) (.slice o1 n1 c1))
  have HN1:=hide (hn.least (uH ST).bel.size)
  have HQ1:=hide (hq.below ba)
  replace ST:=hide (((uH ST).all hb).all ba)
  clear hb ba hn hq
  clear K1
  have q0:=(uH BX1).c0;have q1:=(uH BX1).c1;have q2:=(uH BX1).c2
  go_wp2_with fail
  clear q0 q1 q2
  refine (uH K2 _ o1 c1 (uH ST).bel (uH HQ1)).mono ?_
  rintro e w2 ⟨v,u,rfl,⟨vo,vc,rfl,_,_⟩,⟨uo,uc,rfl,_,_⟩,hb⟩
  simp only [List.length_nil]
  have b1:=below_alloc9 w2 (.cells #[.int .i64 0,.int .i64 0,.slice vo 0 vc] 24)
  have b2:=below_alloc9 (w2.alloc (.cells #[.int .i64 0,.int .i64 0,.slice vo 0 vc] 24)) (.cells #[.int .i64 0,.int .i64 0,.slice uo 0 uc] 24)
  replace ST:=hide ((((uH ST).all hb).all b1).all b2)
  clear hb b1 b2
  clear K2 BX1 HQ1 HG1 HN1
  have X1:=(uH ST).r1;have X2:=(uH ST).r2
  have s0:=X1.c0;have s1:=X1.c1;have s2:=X1.c2
  have f0:=X1.free 0;have f1:=X1.free 1;have f2:=X1.free 2
  have Y1:=X1.put (.int .i64 0) (.int .i64 0) (.slice none 0 0)
  have Y2:=X2.three14 (g:=w.heap.size+1) (by omega) (.int .i64 0) (.int .i64 0) (.slice none 0 0)
  have s3:=Y2.c0;have s4:=Y2.c1;have s5:=Y2.c2
  have f3:=Y2.free 0;have f4:=Y2.free 1;have f5:=Y2.free 2
  have Z1:=Y1.three14 (g:=w.heap.size+1+1) (by omega) (.int .i64 0) (.int .i64 0) (.slice none 0 0)
  have Z2:=Y2.put (.int .i64 0) (.int .i64 0) (.slice none 0 0)
  have z0:=Z1.c0;have z1:=Z1.c1;have z2:=Z1.c2;have z3:=Z2.c0;have z4:=Z2.c1;have z5:=Z2.c2
  have BP:=hide (below_putM (below_putM (uH ST).bel (b:=w.heap.size+1) (by omega) (.int .i64 0) (.int .i64 0) (.slice none 0 0)) (b:=w.heap.size+1+1) (by omega) (.int .i64 0) (.int .i64 0) (.slice none 0 0))
  clear X1 X2 Y1 Y2 Z1 Z2 ST
  go_wp2_with fail
  exact bodyPost_ret (v:=.tuple #[.agg #[.int .i64 0,.int .i64 0,.slice none 0 0],.agg #[.int .i64 0,.int .i64 0,.slice none 0 0],.int .i64 _]) (by simp [results,Tryz.results12,go_sem,z0,z1,z2,z3,z4,z5]) rfl ⟨_,_,rfl,NewM.zero _ _,NewM.zero _ _,uH BP⟩
theorem lq_of (r c n cap n1 n2 n3 n4 n5:Nat) (ao:Option Addr) (T P R L Q:List Nat) (w:World) (l1:T.length = n1) (l2:P.length = n2) (l3:R.length = n3) (l4:L.length = n4) (l5:Q.length = n5)
  (C1:∀ w',Below w.heap.size w w'→Calls Tryz.prog 24 #[.agg #[.int .i64 r,.int .i64 c,.slice ao n cap]] w' fun e w''=>∃ v,e = .returned (.tuple #[v,.int .i64 0])∧NewM w'.heap.size w'' c r T v∧Below w'.heap.size w' w'')
  (C2:∀ w' po pc,Below w.heap.size w w'→BitsAt w' po pc (mxL T)→Calls Tryz.prog 25 #[.agg #[.int .i64 c,.int .i64 r,.slice po n1 pc]] w' fun e w''=>∃ v u,e = .returned (.tuple #[v,u,.int .i64 0])∧NewM w'.heap.size w'' c c P v∧NewM w'.heap.size w'' c r R u∧Below w'.heap.size w' w'')
  (C3:∀ w' po pc,BitsAt w' po pc (mxL R)→Calls Tryz.prog 24 #[.agg #[.int .i64 c,.int .i64 r,.slice po n3 pc]] w' fun e w''=>∃ v,e = .returned (.tuple #[v,.int .i64 0])∧NewM w'.heap.size w'' r c L v∧Below w'.heap.size w' w'')
  (C4:∀ w' po pc,BitsAt w' po pc (mxL P)→Calls Tryz.prog 24 #[.agg #[.int .i64 c,.int .i64 c,.slice po n2 pc]] w' fun e w''=>∃ v,e = .returned (.tuple #[v,.int .i64 0])∧NewM w'.heap.size w'' c c Q v∧Below w'.heap.size w' w'') :
  Calls Tryz.prog 12 #[.agg #[.int .i64 r,.int .i64 c,.slice ao n cap]] w fun e w'=>∃ v u,e = .returned (.tuple #[v,u,.int .i64 0])∧NewM w.heap.size w' r c L v∧NewM w.heap.size w' c c Q u∧Below w.heap.size w w':=by
 have ST:=hide (FcSt.start w r c ao n cap)
 have K1:=hide (C1 _ (uH ST).bel);have K2:=hide C2;have K3:=hide C3;have K4:=hide C4;have L1:=hide l1;have L2:=hide l2;have L3:=hide l3;have L4:=hide l4;have L5:=hide l5
 clear C1 C2 C3 C4 l1 l2 l3 l4 l5
 go_enter Tryz.func12,Tryz.ntmps12
 go_wp2_with fail
 refine (uH K1).mono ?_
 rintro e w1 ⟨v,rfl,⟨o1,c1,rfl,hn,hq⟩,hb⟩
 rw [uH L1]
 have ba:=below_alloc9 w1 (.cells #[.int .i64 c,.int .i64 r,.slice o1 n1 c1] 24)
 have HG1:=hide ((uH ST).all hb).r2.lt
 have BX1:=hide (BoxM.new w1 (.int .i64 c) (.int .i64 r) (.slice o1 n1 c1))
 have HN1:=hide (hn.least (uH ST).bel.size)
 have HQ1:=hide (hq.below ba)
 replace ST:=hide (((uH ST).all hb).all ba)
 clear hb ba hn hq
 clear K1
 have q0:=(uH BX1).c0;have q1:=(uH BX1).c1;have q2:=(uH BX1).c2
 go_wp2_with fail
 clear q0 q1 q2
 refine (uH K2 _ o1 c1 (uH ST).bel (uH HQ1)).mono ?_
 rintro e w2 ⟨v,u,rfl,⟨p2,d2,rfl,_,hq⟩,⟨s2,f2,rfl,_,hr⟩,hb⟩
 rw [uH L2,uH L3]
 have b1:=below_alloc9 w2 (.cells #[.int .i64 c,.int .i64 c,.slice p2 n2 d2] 24)
 have s1:=size_alloc9 w2 (.cells #[.int .i64 c,.int .i64 c,.slice p2 n2 d2] 24)
 have b2:=below_alloc9 (w2.alloc (.cells #[.int .i64 c,.int .i64 c,.slice p2 n2 d2] 24)) (.cells #[.int .i64 c,.int .i64 r,.slice s2 n3 f2] 24)
 have BP2:=hide ((BoxM.new w2 (.int .i64 c) (.int .i64 c) (.slice p2 n2 d2)).all b2)
 have BS2:=hide (BoxM.new (w2.alloc (.cells #[.int .i64 c,.int .i64 c,.slice p2 n2 d2] 24)) (.int .i64 c) (.int .i64 r) (.slice s2 n3 f2))
 rw [s1] at BS2
 have HP2:=hide ((hq.below b1).below b2)
 have HS2:=hide ((hr.below b1).below b2)
 replace ST:=hide ((((uH ST).all hb).all b1).all b2)
 clear hb b1 b2 s1 hq hr
 clear K2 BX1 HQ1 HG1 HN1
 have q0:=(uH BS2).c0;have q1:=(uH BS2).c1;have q2:=(uH BS2).c2
 go_wp2_with fail
 clear q0 q1 q2
 refine (uH K3 _ s2 f2 (uH HS2)).mono ?_
 rintro e w3 ⟨v,rfl,⟨o3,c3,rfl,hn,hq⟩,hb⟩
 rw [uH L4]
 have ba:=below_alloc9 w3 (.cells #[.int .i64 r,.int .i64 c,.slice o3 n4 c3] 24)
 have HG3:=hide ((uH ST).all hb).r2.lt
 have BX3:=hide (BoxM.new w3 (.int .i64 r) (.int .i64 c) (.slice o3 n4 c3))
 have HN3:=hide (hn.least (uH ST).bel.size)
 have HQ3:=hide (hq.below ba)
 replace ST:=hide (((uH ST).all hb).all ba)
 replace BP2:=hide (((uH BP2).all hb).all ba)
 replace HP2:=hide (((uH HP2).below hb).below ba)
 clear hb ba hn hq
 clear K3 BS2 HS2
 have q0:=(uH BP2).c0;have q1:=(uH BP2).c1;have q2:=(uH BP2).c2
 go_wp2_with fail
 clear q0 q1 q2
 refine (uH K4 _ p2 d2 (uH HP2)).mono ?_
 rintro e w4 ⟨v,rfl,⟨o4,c4,rfl,hn,hq⟩,hb⟩
 rw [uH L5]
 have ba:=below_alloc9 w4 (.cells #[.int .i64 c,.int .i64 c,.slice o4 n5 c4] 24)
 have HG4:=hide ((uH ST).all hb).r2.lt
 have BX4:=hide (BoxM.new w4 (.int .i64 c) (.int .i64 c) (.slice o4 n5 c4))
 have HN4:=hide (hn.least (uH ST).bel.size)
 have HQ4:=hide (hq.below ba)
 replace ST:=hide (((uH ST).all hb).all ba)
 replace BX3:=hide (((uH BX3).all hb).all ba)
 replace HQ3:=hide (((uH HQ3).below hb).below ba)
 clear hb ba hn hq
 clear K4 BP2 HP2
 have HGA:=HG3;have HGB:=HG4
 clear HG3 HG4
 go_wp2_with fail
 refine at_world (fun W=>FcSt w W r c ao n cap∧BoxM W w3.heap.size (.int .i64 r) (.int .i64 c) (.slice o3 n4 c3)∧BoxM W w4.heap.size (.int .i64 c) (.int .i64 c) (.slice o4 n5 c4)∧BitsAt W o3 c3 (mxL L)∧BitsAt W o4 c4 (mxL Q)) ⟨uH ST,uH BX3,uH BX4,uH HQ3,uH HQ4⟩ ?_
 clear ST BX3 BX4 HQ3 HQ4
 rintro W ⟨s2,cb,tb,hq,hq3⟩
 have S2:=hide (s2)
 have y3:=(cb).c0;have y4:=(cb).c1;have y5:=(cb).c2
 have y0:=(tb).c0;have y1:=(tb).c1;have y2:=(tb).c2
 have Q1:=hq;have Q3:=hq3
 clear s2 cb tb hq hq3
 have X1:=(uH S2).r1;have X2:=(uH S2).r2
 have s0:=X1.c0;have s1:=X1.c1;have s2:=X1.c2
 have f0:=X1.free 0;have f1:=X1.free 1;have f2:=X1.free 2
 have Y1:=X1.put (.int .i64 r) (.int .i64 c) (.slice o3 n4 c3)
 have Y2:=X2.three14 (g:=w.heap.size+1) (by omega) (.int .i64 r) (.int .i64 c) (.slice o3 n4 c3)
 have s3:=Y2.c0;have s4:=Y2.c1;have s5:=Y2.c2
 have f3:=Y2.free 0;have f4:=Y2.free 1;have f5:=Y2.free 2
 have Z1:=Y1.three14 (g:=w.heap.size+1+1) (by omega) (.int .i64 c) (.int .i64 c) (.slice o4 n5 c4)
 have Z2:=Y2.put (.int .i64 c) (.int .i64 c) (.slice o4 n5 c4)
 have z0:=Z1.c0;have z1:=Z1.c1;have z2:=Z1.c2;have z3:=Z2.c0;have z4:=Z2.c1;have z5:=Z2.c2
 have BP:=hide (below_putM (below_putM (uH S2).bel (b:=w.heap.size+1) (by omega) (.int .i64 r) (.int .i64 c) (.slice o3 n4 c3)) (b:=w.heap.size+1+1) (by omega) (.int .i64 c) (.int .i64 c) (.slice o4 n5 c4))
 have PQ:=hide ((Q1.putM X1 (.int .i64 r) (.int .i64 c) (.slice o3 n4 c3)).putM Y2 (.int .i64 c) (.int .i64 c) (.slice o4 n5 c4))
 have PR:=hide ((Q3.putM X1 (.int .i64 r) (.int .i64 c) (.slice o3 n4 c3)).putM Y2 (.int .i64 c) (.int .i64 c) (.slice o4 n5 c4))
 clear X1 X2 Y1 Y2 Z1 Z2 S2 Q1 Q3
 have HS0:=hide (show _∧_∧_∧_∧_∧_ from ⟨cell_drew14 y3,cell_drew14 y4,cell_drew14 y5,cell_drew14 y0,cell_drew14 y1,cell_drew14 y2⟩)
 have HP2:=hide (show _∧_∧_∧_∧_∧_ from ⟨cell_three14 (u:=.int .i64 r) (u':=.int .i64 c) (u'':=.slice o3 n4 c3) (show w3.heap.size ≠ w.heap.size+1 by have:=uH HGA;omega) y3,cell_three14 (u:=.int .i64 r) (u':=.int .i64 c) (u'':=.slice o3 n4 c3) (show w3.heap.size ≠ w.heap.size+1 by have:=uH HGA;omega) y4,cell_three14 (u:=.int .i64 r) (u':=.int .i64 c) (u'':=.slice o3 n4 c3) (show w3.heap.size ≠ w.heap.size+1 by have:=uH HGA;omega) y5,cell_three14 (u:=.int .i64 r) (u':=.int .i64 c) (u'':=.slice o3 n4 c3) (show w4.heap.size ≠ w.heap.size+1 by have:=uH HGB;omega) y0,cell_three14 (u:=.int .i64 r) (u':=.int .i64 c) (u'':=.slice o3 n4 c3) (show w4.heap.size ≠ w.heap.size+1 by have:=uH HGB;omega) y1,cell_three14 (u:=.int .i64 r) (u':=.int .i64 c) (u'':=.slice o3 n4 c3) (show w4.heap.size ≠ w.heap.size+1 by have:=uH HGB;omega) y2⟩)
 have HS2:=hide (show _∧_∧_∧_∧_∧_ from ⟨cell_three14d (u:=.int .i64 r) (u':=.int .i64 c) (u'':=.slice o3 n4 c3) (show w3.heap.size ≠ w.heap.size+1 by have:=uH HGA;omega) y3,cell_three14d (u:=.int .i64 r) (u':=.int .i64 c) (u'':=.slice o3 n4 c3) (show w3.heap.size ≠ w.heap.size+1 by have:=uH HGA;omega) y4,cell_three14d (u:=.int .i64 r) (u':=.int .i64 c) (u'':=.slice o3 n4 c3) (show w3.heap.size ≠ w.heap.size+1 by have:=uH HGA;omega) y5,cell_three14d (u:=.int .i64 r) (u':=.int .i64 c) (u'':=.slice o3 n4 c3) (show w4.heap.size ≠ w.heap.size+1 by have:=uH HGB;omega) y0,cell_three14d (u:=.int .i64 r) (u':=.int .i64 c) (u'':=.slice o3 n4 c3) (show w4.heap.size ≠ w.heap.size+1 by have:=uH HGB;omega) y1,cell_three14d (u:=.int .i64 r) (u':=.int .i64 c) (u'':=.slice o3 n4 c3) (show w4.heap.size ≠ w.heap.size+1 by have:=uH HGB;omega) y2⟩)
 have HS3:=hide (show _∧_∧_∧_∧_∧_ from ⟨cell_three14d (u:=.int .i64 c) (u':=.int .i64 c) (u'':=.slice o4 n5 c4) (show w3.heap.size ≠ w.heap.size+1+1 by have:=uH HGA;omega) (uH HP2).1,cell_three14d (u:=.int .i64 c) (u':=.int .i64 c) (u'':=.slice o4 n5 c4) (show w3.heap.size ≠ w.heap.size+1+1 by have:=uH HGA;omega) (uH HP2).2.1,cell_three14d (u:=.int .i64 c) (u':=.int .i64 c) (u'':=.slice o4 n5 c4) (show w3.heap.size ≠ w.heap.size+1+1 by have:=uH HGA;omega) (uH HP2).2.2.1,cell_three14d (u:=.int .i64 c) (u':=.int .i64 c) (u'':=.slice o4 n5 c4) (show w4.heap.size ≠ w.heap.size+1+1 by have:=uH HGB;omega) (uH HP2).2.2.2.1,cell_three14d (u:=.int .i64 c) (u':=.int .i64 c) (u'':=.slice o4 n5 c4) (show w4.heap.size ≠ w.heap.size+1+1 by have:=uH HGB;omega) (uH HP2).2.2.2.2.1,cell_three14d (u:=.int .i64 c) (u':=.int .i64 c) (u'':=.slice o4 n5 c4) (show w4.heap.size ≠ w.heap.size+1+1 by have:=uH HGB;omega) (uH HP2).2.2.2.2.2⟩)
 clear y0 y1 y2 y3 y4 y5
 refine wp_region_held_drew (S:=(fun w'=>w'.cell? ⟨w3.heap.size,0,none⟩ = some (.int .i64 (r:Int))∧w'.cell? ⟨w3.heap.size,1,none⟩ = some (.int .i64 (c:Int))∧w'.cell? ⟨w3.heap.size,2,none⟩ = some (.slice o3 n4 c3)∧w'.cell? ⟨w4.heap.size,0,none⟩ = some (.int .i64 (c:Int))∧w'.cell? ⟨w4.heap.size,1,none⟩ = some (.int .i64 (c:Int))∧w'.cell? ⟨w4.heap.size,2,none⟩ = some (.slice o4 n5 c4))) (by kernel_rfl) ?_ (fun hHeld=>?_)
 ·exact uH HS0
 refine wpAnyH_take (i:=0) (oi:={ dst:=some 44,op:=Op.load 24 (Operand.tmp 9),type:=24,pos := "rq.go:47",after:=#[],guard:=none }) (v:=(Value.agg #[.int .i64 (r:Int),.int .i64 (c:Int),.slice o3 n4 c3])) rfl (by kernel_rfl) (by kernel_rfl) (by kernel_rfl) (fun _ _ _ h=>h) (Or.inl ⟨by rfl,?_⟩) (by assumption) ?_
 ·(intro w hSw;(try dsimp only at hSw);go_simp)
 simp only [Act.put,List.setIfInBounds_toArray,List.set_cons_zero,List.set_cons_succ]
 refine wpAnyH_take (i:=1) (oi:={ dst:=some 45,op:=Op.load 24 (Operand.tmp 11),type:=24,pos := "rq.go:47",after:=#[{ on:=2,ground:=Ground.gcOnly Departure.lateStores }],guard:=none }) (v:=(Value.agg #[.int .i64 (c:Int),.int .i64 (c:Int),.slice o4 n5 c4])) rfl (by kernel_rfl) (by kernel_rfl) (by kernel_rfl) (fun _ _ _ h=>h) (Or.inl ⟨by rfl,?_⟩) (by assumption) ?_
 ·(intro w hSw;(try dsimp only at hSw);go_simp)
 simp only [Act.put,List.setIfInBounds_toArray,List.set_cons_zero,List.set_cons_succ]
 refine wpAnyH_ready (rs:=[2]) (by kernel_rfl) (by simp) ?_
 refine AllReadyH.cons (o:={ dst:=none,op:=Op.store 24 (Operand.tmp 2) (Operand.tmp 44),type:=0,pos := "rq.go:47",after:=#[{ on:=0,ground:=Ground.data },{ on:=0,ground:=Ground.phase },{ on:=1,ground:=Ground.textOnly Departure.lateStores }],guard:=none }) rfl (fun KK hK=>?_) AllReadyH.nil
 go_simp
 refine hK.out _ _ ?_ (fun hHeld=>?_)
 ·exact uH HS2
 clear hK KK
 refine wpAnyH_ready (rs:=[3]) (by kernel_rfl) (by simp) ?_
 refine AllReadyH.cons (o:={ dst:=none,op:=Op.store 24 (Operand.tmp 3) (Operand.tmp 45),type:=0,pos := "rq.go:47",after:=#[{ on:=1,ground:=Ground.data },{ on:=2,ground:=Ground.chain },{ on:=0,ground:=Ground.phase },{ on:=1,ground:=Ground.phase },{ on:=2,ground:=Ground.phase }],guard:=none }) rfl (fun KK hK=>?_) AllReadyH.nil
 go_simp
 refine hK.out _ _ ?_ (fun hHeld=>?_)
 ·exact uH HS3
 clear hK KK
 refine wpAnyH_ready (rs:=[4]) (by kernel_rfl) (by simp) ?_
 refine AllReadyH.cons (o:={ dst:=some 4,op:=Op.assign (Operand.const (Value.int IntKind.i64 0)),type:=26,pos := "rq.go:47",after:=#[{ on:=3,ground:=Ground.chain },{ on:=0,ground:=Ground.phase },{ on:=1,ground:=Ground.phase },{ on:=2,ground:=Ground.phase },{ on:=3,ground:=Ground.phase }],guard:=none }) rfl (fun KK hK=>?_) AllReadyH.nil
 go_simp
 refine hK.out _ _ ?_ (fun hHeld=>?_)
 ·exact uH HS3
 clear hK KK
 refine wpAnyH_done (by kernel_rfl) ?_ _
 clear HS0 HS2 HS3 HP2
 go_wp2_with fail
 refine bodyPost_ret (v:=.tuple #[.agg #[.int .i64 r,.int .i64 c,.slice o3 n4 c3],.agg #[.int .i64 c,.int .i64 c,.slice o4 n5 c4],.int .i64 0]) (by simp [results,Tryz.results12,go_sem,z0,z1,z2,z3,z4,z5]) rfl ⟨_,_,rfl,⟨o3,c3,by rw [uH L4],uH HN3,(uH PQ).below (Below.refl _ _).drew⟩,⟨o4,c4,by rw [uH L5],uH HN4,(uH PR).below (Below.refl _ _).drew⟩,(uH BP).drew⟩
theorem rq_form (r c:Int) (ao:Option Addr) (n cap:Nat) (w:World)
  (C0:∀ w',Below w.heap.size w w'→Calls Tryz.prog 19 #[.agg #[.int .i64 r,.int .i64 c,.slice ao n cap]] w' fun e w''=>e = .returned (.int .i64 1)∧Below w'.heap.size w' w'') :
  Calls Tryz.prog 13 #[.agg #[.int .i64 r,.int .i64 c,.slice ao n cap]] w fun e w'=>∃ v u,e = .returned (.tuple #[v,u,.int .i64 1])∧NewM w.heap.size w' 0 0 [] v∧NewM w.heap.size w' 0 0 [] u∧Below w.heap.size w w':=by
 have ST:=hide (FcSt.start w r c ao n cap)
 have K0:=hide (C0 _ (uH ST).bel)
 clear C0
 go_enter Tryz.func13,Tryz.ntmps13
 go_wp2_with fail
 refine (uH K0).mono ?_
 rintro e w0 ⟨rfl,hb⟩
 replace ST:=hide ((uH ST).all hb)
 clear hb K0
 have X1:=(uH ST).r1;have X2:=(uH ST).r2
 have s0:=X1.c0;have s1:=X1.c1;have s2:=X1.c2
 have f0:=X1.free 0;have f1:=X1.free 1;have f2:=X1.free 2
 have Y1:=X1.put (.int .i64 0) (.int .i64 0) (.slice none 0 0)
 have Y2:=X2.three14 (g:=w.heap.size+1) (by omega) (.int .i64 0) (.int .i64 0) (.slice none 0 0)
 have s3:=Y2.c0;have s4:=Y2.c1;have s5:=Y2.c2
 have f3:=Y2.free 0;have f4:=Y2.free 1;have f5:=Y2.free 2
 have Z1:=Y1.three14 (g:=w.heap.size+1+1) (by omega) (.int .i64 0) (.int .i64 0) (.slice none 0 0)
 have Z2:=Y2.put (.int .i64 0) (.int .i64 0) (.slice none 0 0)
 have z0:=Z1.c0;have z1:=Z1.c1;have z2:=Z1.c2;have z3:=Z2.c0;have z4:=Z2.c1;have z5:=Z2.c2
 have BP:=hide (below_putM (below_putM (uH ST).bel (b:=w.heap.size+1) (by omega) (.int .i64 0) (.int .i64 0) (.slice none 0 0)) (b:=w.heap.size+1+1) (by omega) (.int .i64 0) (.int .i64 0) (.slice none 0 0))
 clear X1 X2 Y1 Y2 Z1 Z2 ST
 go_wp2_with fail
 exact bodyPost_ret (v:=.tuple #[.agg #[.int .i64 0,.int .i64 0,.slice none 0 0],.agg #[.int .i64 0,.int .i64 0,.slice none 0 0],.int .i64 1]) (by simp [results,Tryz.results13,go_sem,z0,z1,z2,z3,z4,z5]) rfl ⟨_,_,rfl,NewM.zero _ _,NewM.zero _ _,uH BP⟩
theorem rq_shape (r c n cap:Nat) (ao:Option Addr) (w:World) (hlt:c < r)
  (C0:∀ w',Below w.heap.size w w'→Calls Tryz.prog 19 #[.agg #[.int .i64 r,.int .i64 c,.slice ao n cap]] w' fun e w''=>e = .returned (.int .i64 0)∧Below w'.heap.size w' w'') :
  Calls Tryz.prog 13 #[.agg #[.int .i64 r,.int .i64 c,.slice ao n cap]] w fun e w'=>∃ v u,e = .returned (.tuple #[v,u,.int .i64 3])∧NewM w.heap.size w' 0 0 [] v∧NewM w.heap.size w' 0 0 [] u∧Below w.heap.size w w':=by
 have hI:(c:Int) < (r:Int):=by omega
 have ST:=hide (FcSt.start w r c ao n cap)
 have K0:=hide (C0 _ (uH ST).bel)
 clear C0
 go_enter Tryz.func13,Tryz.ntmps13
 go_wp2_with fail
 refine (uH K0).mono ?_
 rintro e w0 ⟨rfl,hb⟩
 replace ST:=hide ((uH ST).all hb)
 clear hb K0
 have y0:=(uH ST).a.c0;have y1:=(uH ST).a.c1;have y2:=(uH ST).a.c2
 have X1:=(uH ST).r1;have X2:=(uH ST).r2
 have s0:=X1.c0;have s1:=X1.c1;have s2:=X1.c2
 have f0:=X1.free 0;have f1:=X1.free 1;have f2:=X1.free 2
 have Y1:=X1.put (.int .i64 0) (.int .i64 0) (.slice none 0 0)
 have Y2:=X2.three14 (g:=w.heap.size+1) (by omega) (.int .i64 0) (.int .i64 0) (.slice none 0 0)
 have s3:=Y2.c0;have s4:=Y2.c1;have s5:=Y2.c2
 have f3:=Y2.free 0;have f4:=Y2.free 1;have f5:=Y2.free 2
 have Z1:=Y1.three14 (g:=w.heap.size+1+1) (by omega) (.int .i64 0) (.int .i64 0) (.slice none 0 0)
 have Z2:=Y2.put (.int .i64 0) (.int .i64 0) (.slice none 0 0)
 have z0:=Z1.c0;have z1:=Z1.c1;have z2:=Z1.c2;have z3:=Z2.c0;have z4:=Z2.c1;have z5:=Z2.c2
 have BP:=hide (below_putM (below_putM (uH ST).bel (b:=w.heap.size+1) (by omega) (.int .i64 0) (.int .i64 0) (.slice none 0 0)) (b:=w.heap.size+1+1) (by omega) (.int .i64 0) (.int .i64 0) (.slice none 0 0))
 clear X1 X2 Y1 Y2 Z1 Z2 ST
 go_wp2_with fail
 exact bodyPost_ret (v:=.tuple #[.agg #[.int .i64 0,.int .i64 0,.slice none 0 0],.agg #[.int .i64 0,.int .i64 0,.slice none 0 0],.int .i64 3]) (by simp [results,Tryz.results13,go_sem,z0,z1,z2,z3,z4,z5]) rfl ⟨_,_,rfl,NewM.zero _ _,NewM.zero _ _,uH BP⟩
theorem rq_err (r c n cap n1:Nat) (ao:Option Addr) (D:List Nat) (er:Int) (w:World) (her:er = 4 ∨ er = 2) (hle:r≤c) (l1:D.length = n1)
  (C0:∀ w',Below w.heap.size w w'→Calls Tryz.prog 19 #[.agg #[.int .i64 r,.int .i64 c,.slice ao n cap]] w' fun e w''=>e = .returned (.int .i64 0)∧Below w'.heap.size w' w'')
  (C1:∀ w',Below w.heap.size w w'→Calls Tryz.prog 7 #[.agg #[.int .i64 r,.int .i64 c,.slice ao n cap],.bool true,.bool false] w' fun e w''=>∃ v,e = .returned (.tuple #[v,.int .i64 0])∧NewM w'.heap.size w'' r c D v∧Below w'.heap.size w' w'')
  (C2:∀ w' po pc,Below w.heap.size w w'→BitsAt w' po pc (mxL D)→Calls Tryz.prog 12 #[.agg #[.int .i64 r,.int .i64 c,.slice po n1 pc]] w' fun e w''=>∃ v u,e = .returned (.tuple #[v,u,.int .i64 er])∧NewM w'.heap.size w'' 0 0 [] v∧NewM w'.heap.size w'' 0 0 [] u∧Below w'.heap.size w' w'') :
  Calls Tryz.prog 13 #[.agg #[.int .i64 r,.int .i64 c,.slice ao n cap]] w fun e w'=>∃ v u,e = .returned (.tuple #[v,u,.int .i64 er])∧NewM w.heap.size w' 0 0 [] v∧NewM w.heap.size w' 0 0 [] u∧Below w.heap.size w w':=by
 have hI:¬ (c:Int) < (r:Int):=by omega
 have ST:=hide (FcSt.start w r c ao n cap)
 have K0:=hide (C0 _ (uH ST).bel);have K1:=hide C1;have K2:=hide C2;have L1:=hide l1
 clear C0 C1 C2 l1
 rcases her with rfl | rfl
 all_goals
  go_enter Tryz.func13,Tryz.ntmps13
  go_wp2_with fail
  refine (uH K0).mono ?_
  rintro e w0 ⟨rfl,hb⟩
  replace ST:=hide ((uH ST).all hb)
  clear hb K0
  have y0:=(uH ST).a.c0;have y1:=(uH ST).a.c1;have y2:=(uH ST).a.c2
  go_wp2_with fail
  clear y0 y1 y2
  refine (uH K1 _ (uH ST).bel).mono ?_
  rintro e w1 ⟨v,rfl,⟨o1,c1,rfl,hn,hq⟩,hb⟩
  rw [uH L1]
  have ba:=below_alloc9 w1 (.cells #[.int .i64 r,.int .i64 c,.slice o1 n1 c1] 24)
  have HG1:=hide ((uH ST).all hb).r2.lt
  have BX1:=hide (BoxM.new w1 (.int .i64 r) (.int .i64 c) (.slice o1 n1 c1))
  have HN1:=hide (hn.least (uH ST).bel.size)
  have HQ1:=hide (hq.below ba)
  replace ST:=hide (((uH ST).all hb).all ba)
  clear hb ba hn hq
  clear K1
  have q0:=(uH BX1).c0;have q1:=(uH BX1).c1;have q2:=(uH BX1).c2
  go_wp2_with fail
  clear q0 q1 q2
  refine (uH K2 _ o1 c1 (uH ST).bel (uH HQ1)).mono ?_
  rintro e w2 ⟨v,u,rfl,⟨vo,vc,rfl,_,_⟩,⟨uo,uc,rfl,_,_⟩,hb⟩
  simp only [List.length_nil]
  have b1:=below_alloc9 w2 (.cells #[.int .i64 0,.int .i64 0,.slice vo 0 vc] 24)
  have b2:=below_alloc9 (w2.alloc (.cells #[.int .i64 0,.int .i64 0,.slice vo 0 vc] 24)) (.cells #[.int .i64 0,.int .i64 0,.slice uo 0 uc] 24)
  replace ST:=hide ((((uH ST).all hb).all b1).all b2)
  clear hb b1 b2
  clear K2 BX1 HQ1 HG1 HN1
  have X1:=(uH ST).r1;have X2:=(uH ST).r2
  have s0:=X1.c0;have s1:=X1.c1;have s2:=X1.c2
  have f0:=X1.free 0;have f1:=X1.free 1;have f2:=X1.free 2
  have Y1:=X1.put (.int .i64 0) (.int .i64 0) (.slice none 0 0)
  have Y2:=X2.three14 (g:=w.heap.size+1) (by omega) (.int .i64 0) (.int .i64 0) (.slice none 0 0)
  have s3:=Y2.c0;have s4:=Y2.c1;have s5:=Y2.c2
  have f3:=Y2.free 0;have f4:=Y2.free 1;have f5:=Y2.free 2
  have Z1:=Y1.three14 (g:=w.heap.size+1+1) (by omega) (.int .i64 0) (.int .i64 0) (.slice none 0 0)
  have Z2:=Y2.put (.int .i64 0) (.int .i64 0) (.slice none 0 0)
  have z0:=Z1.c0;have z1:=Z1.c1;have z2:=Z1.c2;have z3:=Z2.c0;have z4:=Z2.c1;have z5:=Z2.c2
  have BP:=hide (below_putM (below_putM (uH ST).bel (b:=w.heap.size+1) (by omega) (.int .i64 0) (.int .i64 0) (.slice none 0 0)) (b:=w.heap.size+1+1) (by omega) (.int .i64 0) (.int .i64 0) (.slice none 0 0))
  clear X1 X2 Y1 Y2 Z1 Z2 ST
  go_wp2_with fail
  exact bodyPost_ret (v:=.tuple #[.agg #[.int .i64 0,.int .i64 0,.slice none 0 0],.agg #[.int .i64 0,.int .i64 0,.slice none 0 0],.int .i64 _]) (by simp [results,Tryz.results13,go_sem,z0,z1,z2,z3,z4,z5]) rfl ⟨_,_,rfl,NewM.zero _ _,NewM.zero _ _,uH BP⟩
theorem rq_of (r c n cap n1 n2 n3 n4 n5:Nat) (ao:Option Addr) (D L P R Q:List Nat) (w:World) (hle:r≤c) (l1:D.length = n1) (l2:L.length = n2) (l3:P.length = n3) (l4:R.length = n4) (l5:Q.length = n5)
  (C0:∀ w',Below w.heap.size w w'→Calls Tryz.prog 19 #[.agg #[.int .i64 r,.int .i64 c,.slice ao n cap]] w' fun e w''=>e = .returned (.int .i64 0)∧Below w'.heap.size w' w'')
  (C1:∀ w',Below w.heap.size w w'→Calls Tryz.prog 7 #[.agg #[.int .i64 r,.int .i64 c,.slice ao n cap],.bool true,.bool false] w' fun e w''=>∃ v,e = .returned (.tuple #[v,.int .i64 0])∧NewM w'.heap.size w'' r c D v∧Below w'.heap.size w' w'')
  (C2:∀ w' po pc,Below w.heap.size w w'→BitsAt w' po pc (mxL D)→Calls Tryz.prog 12 #[.agg #[.int .i64 r,.int .i64 c,.slice po n1 pc]] w' fun e w''=>∃ v u,e = .returned (.tuple #[v,u,.int .i64 0])∧NewM w'.heap.size w'' r c L v∧NewM w'.heap.size w'' c c P u∧Below w'.heap.size w' w'')
  (C3:∀ w' po pc,BitsAt w' po pc (mxL L)→Calls Tryz.prog 7 #[.agg #[.int .i64 r,.int .i64 c,.slice po n2 pc],.bool true,.bool true] w' fun e w''=>∃ v,e = .returned (.tuple #[v,.int .i64 0])∧NewM w'.heap.size w'' r c R v∧Below w'.heap.size w' w'')
  (C4:∀ w' po pc,BitsAt w' po pc (mxL P)→Calls Tryz.prog 7 #[.agg #[.int .i64 c,.int .i64 c,.slice po n3 pc],.bool true,.bool false] w' fun e w''=>∃ v,e = .returned (.tuple #[v,.int .i64 0])∧NewM w'.heap.size w'' c c Q v∧Below w'.heap.size w' w'') :
  Calls Tryz.prog 13 #[.agg #[.int .i64 r,.int .i64 c,.slice ao n cap]] w fun e w'=>∃ v u,e = .returned (.tuple #[v,u,.int .i64 0])∧NewM w.heap.size w' r c R v∧NewM w.heap.size w' c c Q u∧Below w.heap.size w w':=by
 have hI:¬ (c:Int) < (r:Int):=by omega
 have ST:=hide (FcSt.start w r c ao n cap)
 have K0:=hide (C0 _ (uH ST).bel);have K1:=hide C1;have K2:=hide C2;have K3:=hide C3;have K4:=hide C4;have L1:=hide l1;have L2:=hide l2;have L3:=hide l3;have L4:=hide l4;have L5:=hide l5
 clear C0 C1 C2 C3 C4 l1 l2 l3 l4 l5
 go_enter Tryz.func13,Tryz.ntmps13
 go_wp2_with fail
 refine (uH K0).mono ?_
 rintro e w0 ⟨rfl,hb⟩
 replace ST:=hide ((uH ST).all hb)
 clear hb K0
 have y0:=(uH ST).a.c0;have y1:=(uH ST).a.c1;have y2:=(uH ST).a.c2
 go_wp2_with fail
 clear y0 y1 y2
 refine (uH K1 _ (uH ST).bel).mono ?_
 rintro e w1 ⟨v,rfl,⟨o1,c1,rfl,hn,hq⟩,hb⟩
 rw [uH L1]
 have ba:=below_alloc9 w1 (.cells #[.int .i64 r,.int .i64 c,.slice o1 n1 c1] 24)
 have HG1:=hide ((uH ST).all hb).r2.lt
 have BX1:=hide (BoxM.new w1 (.int .i64 r) (.int .i64 c) (.slice o1 n1 c1))
 have HN1:=hide (hn.least (uH ST).bel.size)
 have HQ1:=hide (hq.below ba)
 replace ST:=hide (((uH ST).all hb).all ba)
 clear hb ba hn hq
 clear K1
 have q0:=(uH BX1).c0;have q1:=(uH BX1).c1;have q2:=(uH BX1).c2
 go_wp2_with fail
 clear q0 q1 q2
 refine (uH K2 _ o1 c1 (uH ST).bel (uH HQ1)).mono ?_
 rintro e w2 ⟨v,u,rfl,⟨p2,d2,rfl,_,hq⟩,⟨s2,f2,rfl,_,hr⟩,hb⟩
 rw [uH L2,uH L3]
 have b1:=below_alloc9 w2 (.cells #[.int .i64 r,.int .i64 c,.slice p2 n2 d2] 24)
 have s1:=size_alloc9 w2 (.cells #[.int .i64 r,.int .i64 c,.slice p2 n2 d2] 24)
 have b2:=below_alloc9 (w2.alloc (.cells #[.int .i64 r,.int .i64 c,.slice p2 n2 d2] 24)) (.cells #[.int .i64 c,.int .i64 c,.slice s2 n3 f2] 24)
 have BP2:=hide ((BoxM.new w2 (.int .i64 r) (.int .i64 c) (.slice p2 n2 d2)).all b2)
 have BS2:=hide (BoxM.new (w2.alloc (.cells #[.int .i64 r,.int .i64 c,.slice p2 n2 d2] 24)) (.int .i64 c) (.int .i64 c) (.slice s2 n3 f2))
 rw [s1] at BS2
 have HP2:=hide ((hq.below b1).below b2)
 have HS2:=hide ((hr.below b1).below b2)
 replace ST:=hide ((((uH ST).all hb).all b1).all b2)
 clear hb b1 b2 s1 hq hr
 clear K2 BX1 HQ1 HG1 HN1
 have q0:=(uH BP2).c0;have q1:=(uH BP2).c1;have q2:=(uH BP2).c2
 go_wp2_with fail
 clear q0 q1 q2
 refine (uH K3 _ p2 d2 (uH HP2)).mono ?_
 rintro e w3 ⟨v,rfl,⟨o3,c3,rfl,hn,hq⟩,hb⟩
 rw [uH L4]
 have ba:=below_alloc9 w3 (.cells #[.int .i64 r,.int .i64 c,.slice o3 n4 c3] 24)
 have HG3:=hide ((uH ST).all hb).r2.lt
 have BX3:=hide (BoxM.new w3 (.int .i64 r) (.int .i64 c) (.slice o3 n4 c3))
 have HN3:=hide (hn.least (uH ST).bel.size)
 have HQ3:=hide (hq.below ba)
 replace ST:=hide (((uH ST).all hb).all ba)
 replace BS2:=hide (((uH BS2).all hb).all ba)
 replace HS2:=hide (((uH HS2).below hb).below ba)
 clear hb ba hn hq
 clear K3 BP2 HP2
 have q0:=(uH BS2).c0;have q1:=(uH BS2).c1;have q2:=(uH BS2).c2
 go_wp2_with fail
 clear q0 q1 q2
 refine (uH K4 _ s2 f2 (uH HS2)).mono ?_
 rintro e w4 ⟨v,rfl,⟨o4,c4,rfl,hn,hq⟩,hb⟩
 rw [uH L5]
 have ba:=below_alloc9 w4 (.cells #[.int .i64 c,.int .i64 c,.slice o4 n5 c4] 24)
 have HG4:=hide ((uH ST).all hb).r2.lt
 have BX4:=hide (BoxM.new w4 (.int .i64 c) (.int .i64 c) (.slice o4 n5 c4))
 have HN4:=hide (hn.least (uH ST).bel.size)
 have HQ4:=hide (hq.below ba)
 replace ST:=hide (((uH ST).all hb).all ba)
 replace BX3:=hide (((uH BX3).all hb).all ba)
 replace HQ3:=hide (((uH HQ3).below hb).below ba)
 clear hb ba hn hq
 clear K4 BS2 HS2
 have HGA:=HG3;have HGB:=HG4
 clear HG3 HG4
 go_wp2_with fail
 refine at_world (fun W=>FcSt w W r c ao n cap∧BoxM W w3.heap.size (.int .i64 r) (.int .i64 c) (.slice o3 n4 c3)∧BoxM W w4.heap.size (.int .i64 c) (.int .i64 c) (.slice o4 n5 c4)∧BitsAt W o3 c3 (mxL R)∧BitsAt W o4 c4 (mxL Q)) ⟨uH ST,uH BX3,uH BX4,uH HQ3,uH HQ4⟩ ?_
 clear ST BX3 BX4 HQ3 HQ4
 rintro W ⟨s2,cb,tb,hq,hq3⟩
 have S2:=hide (s2)
 have y3:=(cb).c0;have y4:=(cb).c1;have y5:=(cb).c2
 have y0:=(tb).c0;have y1:=(tb).c1;have y2:=(tb).c2
 have Q1:=hq;have Q3:=hq3
 clear s2 cb tb hq hq3
 have X1:=(uH S2).r1;have X2:=(uH S2).r2
 have s0:=X1.c0;have s1:=X1.c1;have s2:=X1.c2
 have f0:=X1.free 0;have f1:=X1.free 1;have f2:=X1.free 2
 have Y1:=X1.put (.int .i64 r) (.int .i64 c) (.slice o3 n4 c3)
 have Y2:=X2.three14 (g:=w.heap.size+1) (by omega) (.int .i64 r) (.int .i64 c) (.slice o3 n4 c3)
 have s3:=Y2.c0;have s4:=Y2.c1;have s5:=Y2.c2
 have f3:=Y2.free 0;have f4:=Y2.free 1;have f5:=Y2.free 2
 have Z1:=Y1.three14 (g:=w.heap.size+1+1) (by omega) (.int .i64 c) (.int .i64 c) (.slice o4 n5 c4)
 have Z2:=Y2.put (.int .i64 c) (.int .i64 c) (.slice o4 n5 c4)
 have z0:=Z1.c0;have z1:=Z1.c1;have z2:=Z1.c2;have z3:=Z2.c0;have z4:=Z2.c1;have z5:=Z2.c2
 have BP:=hide (below_putM (below_putM (uH S2).bel (b:=w.heap.size+1) (by omega) (.int .i64 r) (.int .i64 c) (.slice o3 n4 c3)) (b:=w.heap.size+1+1) (by omega) (.int .i64 c) (.int .i64 c) (.slice o4 n5 c4))
 have PQ:=hide ((Q1.putM X1 (.int .i64 r) (.int .i64 c) (.slice o3 n4 c3)).putM Y2 (.int .i64 c) (.int .i64 c) (.slice o4 n5 c4))
 have PR:=hide ((Q3.putM X1 (.int .i64 r) (.int .i64 c) (.slice o3 n4 c3)).putM Y2 (.int .i64 c) (.int .i64 c) (.slice o4 n5 c4))
 clear X1 X2 Y1 Y2 Z1 Z2 S2 Q1 Q3
 have HS0:=hide (show _∧_∧_∧_∧_∧_ from ⟨cell_drew14 y3,cell_drew14 y4,cell_drew14 y5,cell_drew14 y0,cell_drew14 y1,cell_drew14 y2⟩)
 have HP2:=hide (show _∧_∧_∧_∧_∧_ from ⟨cell_three14 (u:=.int .i64 r) (u':=.int .i64 c) (u'':=.slice o3 n4 c3) (show w3.heap.size ≠ w.heap.size+1 by have:=uH HGA;omega) y3,cell_three14 (u:=.int .i64 r) (u':=.int .i64 c) (u'':=.slice o3 n4 c3) (show w3.heap.size ≠ w.heap.size+1 by have:=uH HGA;omega) y4,cell_three14 (u:=.int .i64 r) (u':=.int .i64 c) (u'':=.slice o3 n4 c3) (show w3.heap.size ≠ w.heap.size+1 by have:=uH HGA;omega) y5,cell_three14 (u:=.int .i64 r) (u':=.int .i64 c) (u'':=.slice o3 n4 c3) (show w4.heap.size ≠ w.heap.size+1 by have:=uH HGB;omega) y0,cell_three14 (u:=.int .i64 r) (u':=.int .i64 c) (u'':=.slice o3 n4 c3) (show w4.heap.size ≠ w.heap.size+1 by have:=uH HGB;omega) y1,cell_three14 (u:=.int .i64 r) (u':=.int .i64 c) (u'':=.slice o3 n4 c3) (show w4.heap.size ≠ w.heap.size+1 by have:=uH HGB;omega) y2⟩)
 have HS2:=hide (show _∧_∧_∧_∧_∧_ from ⟨cell_three14d (u:=.int .i64 r) (u':=.int .i64 c) (u'':=.slice o3 n4 c3) (show w3.heap.size ≠ w.heap.size+1 by have:=uH HGA;omega) y3,cell_three14d (u:=.int .i64 r) (u':=.int .i64 c) (u'':=.slice o3 n4 c3) (show w3.heap.size ≠ w.heap.size+1 by have:=uH HGA;omega) y4,cell_three14d (u:=.int .i64 r) (u':=.int .i64 c) (u'':=.slice o3 n4 c3) (show w3.heap.size ≠ w.heap.size+1 by have:=uH HGA;omega) y5,cell_three14d (u:=.int .i64 r) (u':=.int .i64 c) (u'':=.slice o3 n4 c3) (show w4.heap.size ≠ w.heap.size+1 by have:=uH HGB;omega) y0,cell_three14d (u:=.int .i64 r) (u':=.int .i64 c) (u'':=.slice o3 n4 c3) (show w4.heap.size ≠ w.heap.size+1 by have:=uH HGB;omega) y1,cell_three14d (u:=.int .i64 r) (u':=.int .i64 c) (u'':=.slice o3 n4 c3) (show w4.heap.size ≠ w.heap.size+1 by have:=uH HGB;omega) y2⟩)
 have HS3:=hide (show _∧_∧_∧_∧_∧_ from ⟨cell_three14d (u:=.int .i64 c) (u':=.int .i64 c) (u'':=.slice o4 n5 c4) (show w3.heap.size ≠ w.heap.size+1+1 by have:=uH HGA;omega) (uH HP2).1,cell_three14d (u:=.int .i64 c) (u':=.int .i64 c) (u'':=.slice o4 n5 c4) (show w3.heap.size ≠ w.heap.size+1+1 by have:=uH HGA;omega) (uH HP2).2.1,cell_three14d (u:=.int .i64 c) (u':=.int .i64 c) (u'':=.slice o4 n5 c4) (show w3.heap.size ≠ w.heap.size+1+1 by have:=uH HGA;omega) (uH HP2).2.2.1,cell_three14d (u:=.int .i64 c) (u':=.int .i64 c) (u'':=.slice o4 n5 c4) (show w4.heap.size ≠ w.heap.size+1+1 by have:=uH HGB;omega) (uH HP2).2.2.2.1,cell_three14d (u:=.int .i64 c) (u':=.int .i64 c) (u'':=.slice o4 n5 c4) (show w4.heap.size ≠ w.heap.size+1+1 by have:=uH HGB;omega) (uH HP2).2.2.2.2.1,cell_three14d (u:=.int .i64 c) (u':=.int .i64 c) (u'':=.slice o4 n5 c4) (show w4.heap.size ≠ w.heap.size+1+1 by have:=uH HGB;omega) (uH HP2).2.2.2.2.2⟩)
 clear y0 y1 y2 y3 y4 y5
 refine wp_region_held_drew (S:=(fun w'=>w'.cell? ⟨w3.heap.size,0,none⟩ = some (.int .i64 (r:Int))∧w'.cell? ⟨w3.heap.size,1,none⟩ = some (.int .i64 (c:Int))∧w'.cell? ⟨w3.heap.size,2,none⟩ = some (.slice o3 n4 c3)∧w'.cell? ⟨w4.heap.size,0,none⟩ = some (.int .i64 (c:Int))∧w'.cell? ⟨w4.heap.size,1,none⟩ = some (.int .i64 (c:Int))∧w'.cell? ⟨w4.heap.size,2,none⟩ = some (.slice o4 n5 c4))) (by kernel_rfl) ?_ (fun hHeld=>?_)
 ·exact uH HS0
 refine wpAnyH_take (i:=0) (oi:={ dst:=some 55,op:=Op.load 24 (Operand.tmp 11),type:=24,pos := "rq.go:65",after:=#[],guard:=none }) (v:=(Value.agg #[.int .i64 (r:Int),.int .i64 (c:Int),.slice o3 n4 c3])) rfl (by kernel_rfl) (by kernel_rfl) (by kernel_rfl) (fun _ _ _ h=>h) (Or.inl ⟨by rfl,?_⟩) (by assumption) ?_
 ·(intro w hSw;(try dsimp only at hSw);go_simp)
 simp only [Act.put,List.setIfInBounds_toArray,List.set_cons_zero,List.set_cons_succ]
 refine wpAnyH_take (i:=1) (oi:={ dst:=some 56,op:=Op.load 24 (Operand.tmp 13),type:=24,pos := "rq.go:65",after:=#[{ on:=2,ground:=Ground.gcOnly Departure.lateStores }],guard:=none }) (v:=(Value.agg #[.int .i64 (c:Int),.int .i64 (c:Int),.slice o4 n5 c4])) rfl (by kernel_rfl) (by kernel_rfl) (by kernel_rfl) (fun _ _ _ h=>h) (Or.inl ⟨by rfl,?_⟩) (by assumption) ?_
 ·(intro w hSw;(try dsimp only at hSw);go_simp)
 simp only [Act.put,List.setIfInBounds_toArray,List.set_cons_zero,List.set_cons_succ]
 refine wpAnyH_ready (rs:=[2]) (by kernel_rfl) (by simp) ?_
 refine AllReadyH.cons (o:={ dst:=none,op:=Op.store 24 (Operand.tmp 2) (Operand.tmp 55),type:=0,pos := "rq.go:65",after:=#[{ on:=0,ground:=Ground.data },{ on:=0,ground:=Ground.phase },{ on:=1,ground:=Ground.textOnly Departure.lateStores }],guard:=none }) rfl (fun KK hK=>?_) AllReadyH.nil
 go_simp
 refine hK.out _ _ ?_ (fun hHeld=>?_)
 ·exact uH HS2
 clear hK KK
 refine wpAnyH_ready (rs:=[3]) (by kernel_rfl) (by simp) ?_
 refine AllReadyH.cons (o:={ dst:=none,op:=Op.store 24 (Operand.tmp 3) (Operand.tmp 56),type:=0,pos := "rq.go:65",after:=#[{ on:=1,ground:=Ground.data },{ on:=2,ground:=Ground.chain },{ on:=0,ground:=Ground.phase },{ on:=1,ground:=Ground.phase },{ on:=2,ground:=Ground.phase }],guard:=none }) rfl (fun KK hK=>?_) AllReadyH.nil
 go_simp
 refine hK.out _ _ ?_ (fun hHeld=>?_)
 ·exact uH HS3
 clear hK KK
 refine wpAnyH_ready (rs:=[4]) (by kernel_rfl) (by simp) ?_
 refine AllReadyH.cons (o:={ dst:=some 4,op:=Op.assign (Operand.const (Value.int IntKind.i64 0)),type:=26,pos := "rq.go:65",after:=#[{ on:=3,ground:=Ground.chain },{ on:=0,ground:=Ground.phase },{ on:=1,ground:=Ground.phase },{ on:=2,ground:=Ground.phase },{ on:=3,ground:=Ground.phase }],guard:=none }) rfl (fun KK hK=>?_) AllReadyH.nil
 go_simp
 refine hK.out _ _ ?_ (fun hHeld=>?_)
 ·exact uH HS3
 clear hK KK
 refine wpAnyH_done (by kernel_rfl) ?_ _
 clear HS0 HS2 HS3 HP2
 go_wp2_with fail
 refine bodyPost_ret (v:=.tuple #[.agg #[.int .i64 r,.int .i64 c,.slice o3 n4 c3],.agg #[.int .i64 c,.int .i64 c,.slice o4 n5 c4],.int .i64 0]) (by simp [results,Tryz.results13,go_sem,z0,z1,z2,z3,z4,z5]) rfl ⟨_,_,rfl,⟨o3,c3,by rw [uH L4],uH HN3,(uH PQ).below (Below.refl _ _).drew⟩,⟨o4,c4,by rw [uH L5],uH HN4,(uH PR).below (Below.refl _ _).drew⟩,(uH BP).drew⟩
end Go.Proofs.YtenpggicmfhhdaaGreatDoor
namespace Go.Proofs.YtenpggicmfhhdaaGreatDoor
theorem tu_fin (r c:Nat) (S:List Nat) (hl:S.length = r * c) (h:finL S = true):finL (tuM r c S) = true:=by
 rw [finL_all] at h ⊢
 intro x hx
 rw [tu_len] at hx
 obtain ⟨h1,h2,h3⟩:=place_in hx
 have e:(tuM r c S).getD x 0 = elM r (tuM r c S) (x / r) (x % r):=by unfold elM;rw [h3]
 rw [e,el_tu15 r c S h1 h2]
 unfold elM
 exact h _ (by rw [hl];exact place_lt h2 h1)
theorem tu_back (r c:Nat) (S:List Nat) (hl:S.length = r * c):tuM c r (tuM r c S) = S:=tu_tu r c S hl
theorem tu_fin_iff (r c:Nat) (S:List Nat) (hl:S.length = r * c):finL (tuM r c S) = finL S:=by
 cases h:finL S
 ·cases h2:finL (tuM r c S)
  ·rfl
  ·have:=tu_fin c r (tuM r c S) (tu_len _ _ _) h2
   rw [tu_back r c S hl,h] at this
   cases this
 ·exact tu_fin r c S hl h
theorem dn_fin (r c:Nat) (S:List Nat) (hl:S.length = r * c) (h:finL S = true):finL (dnM r c S) = true:=by
 rw [finL_all] at h ⊢
 intro x hx
 rw [dn_len] at hx
 obtain ⟨h1,h2,h3⟩:=place_in hx
 have e:(dnM r c S).getD x 0 = elM c (dnM r c S) (x / c) (x % c):=by unfold elM;rw [h3]
 rw [e,el_dn r c S h1 h2]
 unfold elM
 have hlt:r - 1 - x / c < r:=by
  clear e h3 hx h2
  generalize x / c = a at *
  omega
 exact h _ (by rw [hl];exact place_lt hlt h2)
theorem dn_dn (r c:Nat) (S:List Nat) (hl:S.length = r * c):dnM r c (dnM r c S) = S:=by
 conv=>rhs;rw [← mkM_of r c S hl]
 unfold dnM
 refine mkM_congr (fun p q hp hq=>?_)
 rw [el_mk r c _ (by omega) hq,show r - 1 - (r - 1 - p) = p by omega]
 rfl
theorem dn_fin_iff (r c:Nat) (S:List Nat) (hl:S.length = r * c):finL (dnM r c S) = finL S:=by
 cases h:finL S
 ·cases h2:finL (dnM r c S)
  ·rfl
  ·have:=dn_fin r c (dnM r c S) (dn_len _ _ _) h2
   rw [dn_dn r c S hl,h] at this
   cases this
 ·exact dn_fin r c S hl h
end Go.Proofs.YtenpggicmfhhdaaGreatDoor
namespace Go.Proofs.YtenpggicmfhhdaaGreatDoor
open Go.RowKit
attribute [local go_sem ↓] Go.wp_at_zero Go.wp_at_succ
theorem awake15_of (w:World)
  (C1:∀ w' ao,Below w.heap.size w w'→BitsAt w' ao 2 [((4613937818241073152:Nat):Int),((4616189618054758400:Nat):Int)]→Calls Tryz.prog 13 #[.agg #[.int .i64 1,.int .i64 2,.slice ao 2 2]] w' fun e w''=>∃ (a1 a2:Int) (qo:Option Addr) (nq qc:Nat) (ro:Option Addr) (rc:Nat),e = .returned (.tuple #[.agg #[.int .i64 1,.int .i64 2,.slice ro 2 rc],.agg #[.int .i64 a1,.int .i64 a2,.slice qo nq qc],.int .i64 0])∧BitsAt w'' ro rc (mxL [0,13840687554816376832])∧Below w'.heap.size w' w'') :
  Calls Tryz.prog 10 #[] w fun e w'=>e = .returned (.bool true)∧Below w.heap.size w w':=by
 have K1:=hide C1
 have TB:=hide (two_bits w 4613937818241073152 4616189618054758400 (by decide) (by decide))
 have BB:=hide (below_alloc9 w (.cells #[.int .u64 ((4613937818241073152:Nat):Int),.int .u64 ((4616189618054758400:Nat):Int)] 30))
 clear C1
 go_enter Tryz.func10,Tryz.ntmps10
 go_wp2_with fail
 refine (uH K1 _ _ (uH BB) (uH TB)).mono ?_
 rintro e w1 ⟨a1,a2,qo,nq,qc,ro,rc,rfl,bv,hb⟩
 obtain ⟨b,off,rfl,_,hc⟩:=bv.ne (by decide)
 have c0:w1.cell? ⟨b,off+0,none⟩ = some (.int .u64 0):=hc 0 (by decide)
 have c1:w1.cell? ⟨b,off+1,none⟩ = some (.int .u64 13840687554816376832):=hc 1 (by decide)
 rw [Nat.add_zero] at c0
 replace BB:=hide ((uH BB).trans (hb.mono (uH BB).size))
 clear hb K1 TB bv hc
 have ba:=below_alloc9 w1 (.cells #[.int .i64 1,.int .i64 2,.slice (some ⟨b,off,none⟩) 2 rc] 24)
 have bb:=below_alloc9 (w1.alloc (.cells #[.int .i64 1,.int .i64 2,.slice (some ⟨b,off,none⟩) 2 rc] 24)) (.cells #[.int .i64 a1,.int .i64 a2,.slice qo nq qc] 24)
 have BC:=hide ((uH BB).trans ((ba.trans (bb.mono ba.size)).mono (uH BB).size))
 clear ba bb BB
 go_wp2
 go_ret
 exact ⟨rfl,uH BC⟩
theorem rq345:rqR 1 2 [4613937818241073152,4616189618054758400] = [0,13840687554816376832]∧rqK 1 2 [4613937818241073152,4616189618054758400] = true:=by
 have e1:dnM 1 2 [4613937818241073152,4616189618054758400] = [4613937818241073152,4616189618054758400]:=rfl
 have e2:tuM 1 2 [4613937818241073152,4616189618054758400] = [4613937818241073152,4616189618054758400]:=rfl
 constructor
 ·unfold rqR lqL
  rw [e1,e2,r345]
  rfl
 ·unfold rqK lqK
  rw [e1,e2]
  exact k345
theorem fin345:finL [4613937818241073152,4616189618054758400] = true:=by
 show ((true && fFin 4613937818241073152) && fFin 4616189618054758400) = true
 rw [w13_facts.2.1,w13_facts.2.2.2.2.2.2.2.2.2.2.2.2]
 rfl
theorem rq_awake (w:World)
  (CY:∀ w' ao cap (r c:Nat) S,Below w.heap.size w w'→Mx w' ao cap r c S→r≤c→finL S = true→rqK r c S = true→Calls Tryz.prog 13 #[.agg #[.int .i64 r,.int .i64 c,.slice ao S.length cap]] w' fun e w''=>∃ v u,e = .returned (.tuple #[v,u,.int .i64 0])∧NewM 0 w'' r c (rqR r c S) v∧NewM 0 w'' c c (rqQ r c S) u∧Below w'.heap.size w' w'') :
  ∀ w',Below w.heap.size w w'→Calls Tryz.prog 10 #[] w' fun e w''=>e = .returned (.bool true)∧Below w'.heap.size w' w'':=by
 intro w' hb
 refine awake15_of w' (fun w2 ao hb2 hI=>?_)
 have hM:Mx w2 ao 2 1 2 [4613937818241073152,4616189618054758400]:=⟨hI,rfl,by decide,by decide⟩
 refine (CY w2 ao 2 1 2 _ (hb.trans (hb2.mono hb.size)) hM (by decide) fin345 rq345.2).mono ?_
 rintro e w3 ⟨v,u,rfl,⟨ro,rc,rfl,_,hr⟩,⟨qo,qc,rfl,_,_⟩,hb3⟩
 rw [rq345.1] at hr ⊢
 exact ⟨_,_,qo,_,qc,ro,rc,rfl,hr,hb3⟩
end Go.Proofs.YtenpggicmfhhdaaGreatDoor
