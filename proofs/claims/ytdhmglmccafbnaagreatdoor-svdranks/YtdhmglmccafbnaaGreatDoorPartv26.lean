/- Part 26 of the texts. -/
import Derived.Test.YtdhmglmccafbnaaGreatDoorPartv24
import Derived.Test.YtdhmglmccafbnaaGreatDoorPartv22
import Derived.Test.YtdhmglmccafbnaaGreatDoorPartv23
import Derived.Deep.LoopGhost
import Derived.WalkMore
import Derived.Test.YtdhmglmccafbnaaGreatDoorPartv21
import Derived.Test.YtdhmglmccafbnaaGreatDoorPartv25
import Derived.Test.YtdhmglmccafbnaaGreatDoorPartv15
import Derived.Test.YtdhmglmccafbnaaGreatDoorPartv14
import Derived.Test.YtdhmglmccafbnaaGreatDoorPartv19
import Derived.Test.YtdhmglmccafbnaaGreatDoorPartv18
import Derived.Test.YtdhmglmccafbnaaGreatDoorPartv16
import Derived.Test.YtdhmglmccafbnaaGreatDoorPartv17
import Derived.Test.YtdhmglmccafbnaaGreatDoorPartv12
import Derived.Test.YtdhmglmccafbnaaGreatDoorPartv13
import Derived.Deep.Cut
import Derived.BigQuiet
import Derived.Test.YtdhmglmccafbnaaGreatDoorPartv09
import Derived.Deep.RegionLaw
import Derived.Deep.RegionWith
import Derived.Deep.RegionHeld3
import Derived.Test.YtdhmglmccafbnaaGreatDoorPartv11
import Derived.Test.YtdhmglmccafbnaaGreatDoorPartv03
import Derived.Test.YtdhmglmccafbnaaGreatDoorPartv04
import Derived.Maps.AppendAt
import Derived.Test.YtdhmglmccafbnaaGreatDoorPartv01
import Derived.Test.YtdhmglmccafbnaaGreatDoorPartv06
import Derived.Lib.BitFns
import Derived.Maps.Own
import Derived.Maps.OwnOps
import Derived.Maps.OwnSet
import Derived.DeepKeys4
import Derived.Test.YtdhmglmccafbnaaGreatDoorPartv08
import Derived.WalkSmall
import Derived.Test.YtdhmglmccafbnaaGreatDoorPartv02
import Derived.Test.YtdhmglmccafbnaaGreatDoorPartv05
import Derived.Test.YtdhmglmccafbnaaGreatDoorPartv07
import Derived.Deep.CutRange
import Derived.Laws.MakeOwn
import Derived.Test.YtdhmglmccafbnaaGreatDoorChecked
import Derived.ProofKit
import Derived.SizedLaws
import Derived.Lib.SmallJoins
import Derived.Test.YtdhmglmccafbnaaGreatDoorRows
import Derived.Lib.LaidTab
import Derived.OpenShut
import Derived.Deep.DeepHandedRow
set_option maxHeartbeats 16000000
set_option maxRecDepth 20000
namespace Go.Proofs.YtdhmglmccafbnaaGreatDoor
open Go.RowKit
attribute [local go_sem ↓] Go.wp_at_zero Go.wp_at_succ
theorem pcols_form (r c:Int) (ao:Option Addr) (n cap:Nat) (po:Option Addr) (k pc:Nat) (w:World) (hn:n≤35184372088830) (h:okB r c n = false) :
  Calls Tryz.prog 158 #[.agg #[.int .i64 r,.int .i64 c,.slice ao n cap],.slice po k pc] w fun e w'=>∃ v,e = .returned (.tuple #[v,.int .i64 1])∧NewM w.heap.size w' 0 0 [] v∧Below w.heap.size w w':=by
 have K:=hide (mcheck_any r c ao n cap ((w.alloc (.cells #[.int .i64 r,.int .i64 c,.slice ao n cap] 25)).alloc (.cells #[.int .i64 0,.int .i64 0,.slice none 0 0] 25)) hn)
 rw [h,if_neg (by decide)] at K
 simp only [size_alloc9] at K
 have KB:=hide (boxes2 w (.int .i64 r) (.int .i64 c) (.slice ao n cap) (.int .i64 0) (.int .i64 0) (.slice none 0 0))
 clear h
 go_enter Tryz.func158,Tryz.ntmps158
 go_wp2_with fail
 refine Calls.mono (uH K) ?_
 rintro e w1 ⟨rfl,hb1⟩
 obtain ⟨hB,hA,hX⟩:=uH KB w1 hb1
 clear K KB hb1 hA
 have f0:=hX.free 0;have f1:=hX.free 1;have f2:=hX.free 2
 have s0:=hX.c0;have s1:=hX.c1;have s2:=hX.c2
 have XP:=hX.put (.int .i64 0) (.int .i64 0) (.slice none 0 0)
 have z0:=XP.c0;have z1:=XP.c1;have z2:=XP.c2
 have BP:=hide (below_putM hB (b:=w.heap.size+1) (by omega) (.int .i64 0) (.int .i64 0) (.slice none 0 0))
 clear XP hX hB
 go_wp2
 exact bodyPost_ret (v:=.tuple #[.agg #[.int .i64 0,.int .i64 0,.slice none 0 0],.int .i64 1]) (by simp [results,Tryz.results158,go_sem,z0,z1,z2]) rfl ⟨_,rfl,NewM.zero _ _,uH BP⟩
def ClAns (w w':World) (r c:Nat) (S:List Nat) (I:List Int) (e:Ending):Prop :=
 ((∃ j,j < I.length∧¬ (0≤atI I j∧atI I j < c))∧∃ v,e = .returned (.tuple #[v,.int .i64 1])∧NewM w.heap.size w' 0 0 [] v) ∨
    ((∀ j,j < I.length→0≤atI I j∧atI I j < c)∧6 < I.length∧∃ v,e = .returned (.tuple #[v,.int .i64 3])∧NewM w.heap.size w' 0 0 [] v) ∨
    ((∀ j,j < I.length→0≤atI I j∧atI I j < c)∧I.length≤6∧∃ v,e = .returned (.tuple #[v,.int .i64 0])∧NewM w.heap.size w' r I.length (coL r c S (natL I)) v)
theorem pcols_any (r c cap pc:Nat) (ao po:Option Addr) (S:List Nat) (I:List Int) (w:World) (h:Mx w ao cap r c S) (hI:IntsAt w po pc I) (hml:I.length≤35184372088830) :
  Calls Tryz.prog 158 #[.agg #[.int .i64 r,.int .i64 c,.slice ao S.length cap],.slice po I.length pc] w fun e w'=>ClAns w w' r c S I e∧Below w.heap.size w w':=by
 obtain ⟨i0,hi0,hz0,hz1,hz2⟩:=info_parts infoBits
 have r6:=h.2.2.1
 have c6:=h.2.2.2
 have hl:=h.2.1
 have h36:=h.small
 have K:=hide (mcheck_any r c ao S.length cap ((w.alloc (.cells #[.int .i64 (r:Nat),.int .i64 (c:Nat),.slice ao S.length cap] 25)).alloc (.cells #[.int .i64 0,.int .i64 0,.slice none 0 0] 25)) (by omega))
 rw [mx_ok h,if_pos (Eq.refl true)] at K
 simp only [size_alloc9] at K
 have KB:=hide (boxes2 w (.int .i64 (r:Nat)) (.int .i64 (c:Nat)) (.slice ao S.length cap) (.int .i64 0) (.int .i64 0) (.slice none 0 0))
 obtain ⟨m,hm⟩:∃ m,I.length = m:=⟨_,rfl⟩
 have hlI:(natL I).length = m:=by rw [natL_len,hm]
 have ec:coL r c S (natL I) = mkM r m (fun i k=>elM c S i ((natL I).getD k 0)):=by unfold coL;rw [hlI]
 obtain ⟨F,hF⟩:∃ F:Nat→Nat,F = fun x=>elM c S (x / m) ((natL I).getD (x % m) 0):=⟨_,rfl⟩
 have FV:=hide (show ∀ j k,k < m→F (j * m+k) = elM c S j ((natL I).getD k 0) from fun j k hk=>by rw [hF];show elM c S ((j * m+k) / m) ((natL I).getD ((j * m+k) % m) 0) = _;rw [place_div hk,place_mod hk])
 have FM:=hide (show mkM r m (fun i k=>elM c S i ((natL I).getD k 0)) = fsL F (r * m) from by rw [hF];rfl)
 have NV:=hide (show ∀ k,k < m→0≤atI I k→(((natL I).getD k 0:Nat):Int) = atI I k from fun k hk h0=>by
  unfold natL atI at *
  rw [List.getD_eq_getElem?_getD,List.getElem?_map,List.getElem?_eq_getElem (by rw [hm];exact hk)] at *
  simp only [Option.map_some,Option.getD_some] at *
  omega)
 have POST:=hide (show ∀ w' e,(((∃ j,j < m∧¬ (0≤atI I j∧atI I j < c))∧∃ v,e = .returned (.tuple #[v,.int .i64 1])∧NewM w.heap.size w' 0 0 [] v) ∨ ((∀ j,j < m→0≤atI I j∧atI I j < c)∧6 < m∧∃ v,e = .returned (.tuple #[v,.int .i64 3])∧NewM w.heap.size w' 0 0 [] v) ∨ ((∀ j,j < m→0≤atI I j∧atI I j < c)∧m≤6∧∃ v,e = .returned (.tuple #[v,.int .i64 0])∧NewM w.heap.size w' r m (fsL F (r * m)) v))→ClAns w w' r c S I e from fun w' e q=>by
  unfold ClAns
  rw [ec,uH FM,hm]
  exact q)
 rw [hm] at hml ⊢
 have HM:=hide h;have HI:=hide hI;have HLM:=hide hm
 generalize hLL:natL I = L at *
 generalize hnn:S.length = n at *
 have HL:=hide hl
 clear hF FM h hnn hl hI hm ec hlI hLL
 go_enter Tryz.func158,Tryz.ntmps158
 go_wp2_with fail
 refine Calls.mono (uH K) ?_
 rintro e w1 ⟨rfl,hb1⟩
 obtain ⟨hB,hA,hX⟩:=uH KB w1 hb1
 clear K KB hb1
 replace HM:=hide ((uH HM).below hB)
 replace HI:=hide ((uH HI).below hB)
 have HA:=hide hA;have HX:=hide hX;have HW:=hide hB
 clear hA hX hB
 go_wp2_with fail
 go_loopw [21] (fun a wr=>∃ i:Nat,i≤m∧a = .int .i64 i∧Hid (∀ j,j < i→0≤atI I j∧atI I j < c)∧Hid (Below w1.heap.size w1 wr)) (fun a _=>m - (intOf a).toNat)
 case atStart=>exact ⟨0,Nat.zero_le _,rfl,fun j hj=>absurd hj (Nat.not_lt_zero j),Below.refl _ _⟩
 case round =>
  obtain ⟨i,hi,rfl,hG,hB1⟩:=hrel
  replace HM:=hide ((uH HM).below (uH hB1))
  replace HI:=hide ((uH HI).below (uH hB1))
  replace HA:=hide ((uH HA).all (uH hB1))
  replace HX:=hide ((uH HX).all (uH hB1))
  replace HW:=hide ((uH HW).trans ((uH hB1).mono (uH HW).size))
  by_cases hlt:i < m
  ·have hiI:(i:Int) < (m:Int):=by omega
   obtain ⟨b,off,hpo,hbw,hc⟩:=(uH HI).ne (by rw [uH HLM];omega)
   have d1:=hc i (by rw [uH HLM];exact hlt)
   rw [show I[i]?.getD 0 = atI I i from rfl] at d1
   have hGi:=hide (show (0≤atI I i∧atI I i < c)→∀ j,j < i+1→0≤atI I j∧atI I j < c from fun q j hj=>by
    by_cases g:j = i
    ·rw [g];exact q
    ·exact uH hG j (by omega))
   have HBad:=hide (show ¬ (0≤atI I i∧atI I i < c)→∃ j,j < m∧¬ (0≤atI I j∧atI I j < c) from fun q=>⟨i,hlt,q⟩)
   have hwf:=(uH HI).wf i
   have y1:=(uH HA).c1
   subst hpo
   generalize atI I i = x at *
   clear hc hG
   by_cases hx0:x < 0
   ·have hbd:=uH HBad (by omega)
    have g1:decide (x < 0) = true:=decide_eq_true hx0
    have HBD:=hide hbd
    have X3:=uH HX
    have f0:=X3.free 0;have f1:=X3.free 1;have f2:=X3.free 2
    have s0:=X3.c0;have s1:=X3.c1;have s2:=X3.c2
    have XP:=X3.put (.int .i64 0) (.int .i64 0) (.slice none 0 0)
    have z0:=XP.c0;have z1:=XP.c1;have z2:=XP.c2
    have BP:=hide (below_putM (uH HW) (b:=w.heap.size+1) (by omega) (.int .i64 0) (.int .i64 0) (.slice none 0 0))
    clear XP X3 hbd HBad hGi
    go_wp2_with fail
    exact bodyPost_ret (v:=.tuple #[.agg #[.int .i64 0,.int .i64 0,.slice none 0 0],.int .i64 1]) (by simp [results,Tryz.results158,go_sem,z0,z1,z2]) rfl ⟨uH POST _ _ (.inl ⟨uH HBD,_,rfl,NewM.zero _ _⟩),uH BP⟩
   ·have g1:decide (x < 0) = false:=decide_eq_false hx0
    by_cases hxc:(c:Int)≤x
    ·have hbd:=uH HBad (by omega)
     have g2:decide ((c:Int)≤x) = true:=decide_eq_true hxc
     have HBD:=hide hbd
     have X3:=uH HX
     have f0:=X3.free 0;have f1:=X3.free 1;have f2:=X3.free 2
     have s0:=X3.c0;have s1:=X3.c1;have s2:=X3.c2
     have XP:=X3.put (.int .i64 0) (.int .i64 0) (.slice none 0 0)
     have z0:=XP.c0;have z1:=XP.c1;have z2:=XP.c2
     have BP:=hide (below_putM (uH HW) (b:=w.heap.size+1) (by omega) (.int .i64 0) (.int .i64 0) (.slice none 0 0))
     clear XP X3 hbd HBad hGi
     go_wp2_with fail
     exact bodyPost_ret (v:=.tuple #[.agg #[.int .i64 0,.int .i64 0,.slice none 0 0],.int .i64 1]) (by simp [results,Tryz.results158,go_sem,z0,z1,z2]) rfl ⟨uH POST _ _ (.inl ⟨uH HBD,_,rfl,NewM.zero _ _⟩),uH BP⟩
    ·have g2:decide ((c:Int)≤x) = false:=decide_eq_false hxc
     have hG2:=hide (uH hGi (by omega))
     clear HBad hGi
     go_wp2_with fail
     go_round
     case rel=>exact ⟨i+1,by omega,by go_num,hG2,hB1⟩
     case measure=>first | (simp [intOf];done) | (simp [intOf];omega)
  ·have hii:i = m:=by omega
   subst hii
   have hiI:¬ ((i:Int) < (i:Int)):=by omega
   by_cases h6:6 < i
   ·have h6I:(6:Int) < (i:Int):=by omega
    have X3:=uH HX
    have f0:=X3.free 0;have f1:=X3.free 1;have f2:=X3.free 2
    have s0:=X3.c0;have s1:=X3.c1;have s2:=X3.c2
    have XP:=X3.put (.int .i64 0) (.int .i64 0) (.slice none 0 0)
    have z0:=XP.c0;have z1:=XP.c1;have z2:=XP.c2
    have BP:=hide (below_putM (uH HW) (b:=w.heap.size+1) (by omega) (.int .i64 0) (.int .i64 0) (.slice none 0 0))
    clear XP X3
    go_wp2_with fail
    exact bodyPost_ret (v:=.tuple #[.agg #[.int .i64 0,.int .i64 0,.slice none 0 0],.int .i64 3]) (by simp [results,Tryz.results158,go_sem,z0,z1,z2]) rfl ⟨uH POST _ _ (.inr (.inl ⟨uH hG,h6,_,rfl,NewM.zero _ _⟩)),uH BP⟩
   ·have h6I:(i:Int)≤6:=by omega
    obtain ⟨wb,hwb⟩:∃ wb,wb = wr:=⟨wr,rfl⟩
    subst hwb
    obtain ⟨N,hN⟩:∃ N,r * i = N:=⟨_,rfl⟩
    have hN36:N≤36:=by rw [← hN];exact Nat.mul_le_mul r6 (show i≤6 by omega)
    have e1:IntKind.i64.wrap ((r:Int) * (i:Int)) = (N:Int):=by
     rw [cast_mul10 r i,hN]
     exact wrap_in _ (by omega)
    have e2:(r:Int) * (i:Int) = (N:Int):=by rw [cast_mul10 r i,hN]
    have e3:IntKind.i64.wrap (N:Int) = (N:Int):=wrap_in _ (by omega)
    obtain ⟨w4,hmk,own4,gr4⟩:=run_make_own (P:=Tryz.prog) wb wb.heap.size 23 28 i0 (.int .u64 0) 1 Tryz.underlying23 hi0 hz0 hz1 .i64 .i64 N (by rw [hz2];omega) (by unfold maxLen;omega) (by simp)
    have B4:=hide (show Below wb.heap.size wb w4 from (Below.refl wb.heap.size wb).grown gr4 (by simp) (fun g hg=>by cases hg))
    have O4:=hide (show OwnB wb.heap.size w4 (.slice (some ⟨wb.heap.size,0,none⟩) 0 N) (fsL F (0 * i)) from ⟨by rw [Nat.zero_mul];simpa [fsL] using own4,by rw [Nat.zero_mul];intro x hx;cases hx⟩)
    have y0:=(uH HA).c0
    have y0':=((uH HA).all (uH B4)).c0
    have HNN:=hide hN
    clear own4 gr4 hN
    go_wp2_with fail
    clear hmk y0 y0' e1 e2 e3
    go_loopw [9,47] (fun v a wq=>∃ p:Nat,p≤r∧a = .int .i64 p∧Hid (OwnB wb.heap.size wq v (fsL F (p * i)))∧Hid (Below wb.heap.size wb wq)) (fun _ a _=>r - (intOf a).toNat)
    case atStart=>exact ⟨0,Nat.zero_le _,rfl,O4,B4⟩
    case round =>
     clear O4 B4
     obtain ⟨p,hp,rfl,hO,hB⟩:=hrel
     by_cases hpr:p < r
     ·have hpI:(p:Int) < (r:Int):=by omega
      have hO':=hide (show OwnB wb.heap.size wr u9 (fsL F (p * i+0)) from uH hO)
      clear hO
      go_wp2_with fail
      go_loopw [9,52] (fun v a wq=>∃ k:Nat,k≤i∧a = .int .i64 k∧Hid (OwnB wb.heap.size wq v (fsL F (p * i+k)))∧Hid (Below wb.heap.size wb wq)) (fun _ a _=>i - (intOf a).toNat)
      case atStart=>exact ⟨0,Nat.zero_le _,rfl,hO',hB⟩
      case round =>
       clear hO' hB
       obtain ⟨k,hk,rfl,hO,hB⟩:=hrel
       by_cases hki:k < i
       ·have hkI:(k:Int) < (i:Int):=by omega
        obtain ⟨hg1,hg2⟩:=uH hG k hki
        have hnv:=uH NV k hki hg1
        obtain ⟨b,off,hpo,hbw,hc⟩:=(uH HI).ne (by rw [uH HLM];omega)
        have d0:=hc k (by rw [uH HLM];exact hki)
        rw [show I[k]?.getD 0 = atI I k from rfl,← hnv] at d0
        have d1:=cell_keep d0 (uH hB)
        rw [← hnv] at hg2
        have eo:=uH FV p k hki
        generalize L.getD k 0 = y at *
        have hyc:y < c:=by omega
        obtain ⟨b2,off2,hao,hbw2,hcell,_⟩:=(uH HM).cells hpr hyc
        have hu:=(uH HM).el_lt p y
        have hpp:=place_lt hpr hyc
        generalize elM c S p y = u at *
        obtain ⟨q,hq⟩:∃ q,p * c = q:=⟨_,rfl⟩
        rw [hq] at hcell hpp
        obtain ⟨x,hx⟩:∃ x,q+y = x:=⟨_,rfl⟩
        rw [hx] at hcell hpp
        have hxn:x < n:=by rw [uH HL];exact hpp
        have hxI:(x:Int) < (n:Int):=by omega
        have e2:IntKind.i64.wrap ((p:Int) * (c:Int)) = (q:Int):=by
         rw [cast_mul10 p c,hq]
         exact wrap_in _ (by omega)
        have e3:IntKind.i64.wrap ((q:Int)+(y:Int)) = (x:Int):=(wrap_in _ (by omega)).trans (by omega)
        have e5:(p:Int) * (c:Int) = (q:Int):=by rw [cast_mul10 p c,hq]
        have e6:(q:Int)+(y:Int) = (x:Int):=by omega
        have e7:IntKind.i64.wrap (q:Int) = (q:Int):=wrap_in _ (by omega)
        have e8:IntKind.i64.wrap (x:Int) = (x:Int):=wrap_in _ (by omega)
        subst hao hpo
        have y1:=((uH HA).all (uH hB)).c1;have y2:=((uH HA).all (uH hB)).c2
        have d2:=cell_keep hcell (uH hB)
        obtain ⟨v3,w3,run3,own3,bel3,_,_⟩:=(uH hO).push u hu (by rw [fsL_len];have:=place_lt hpr hki;have:=uH HNN;omega) (uH hB).size 23
        have RUN:=hide run3
        have O3:=hide (show OwnB wb.heap.size w3 v3 (fsL F (p * i+(k+1))) from by rw [← Nat.add_assoc,fsL_succ,eo];exact own3)
        have B3:=hide ((uH hB).trans bel3)
        clear run3 own3 bel3 hO hB hc d0 hnv hg1 hg2 eo hcell hpp hq hx hxn hbw hbw2
        go_wp2_with (at_builtin;refine wpList_append_ran _ rfl _ _ 23 rfl _ _ _ _ rfl rfl (uH RUN) ?_;clear RUN)
        go_round
        case rel=>exact ⟨k+1,by omega,by go_num,O3,B3⟩
        case measure=>first | (simp [intOf];done) | (simp [intOf];omega)
       ·have hkk:k = i:=by omega
        subst hkk
        have hO2:=hide (show OwnB wb.heap.size wr u9 (fsL F ((p+1) * k)) from by rw [Nat.add_mul,Nat.one_mul];exact uH hO)
        clear hO
        go_wp2_with fail
        go_round
        case rel=>exact ⟨p+1,by omega,by go_num,hO2,hB⟩
        case measure=>first | (simp [intOf];done) | (simp [intOf];omega)
     ·have hpp:p = r:=by omega
      subst hpp
      obtain ⟨b1,d1,e1,q1⟩:=(uH hO).bits
      rw [fsL_len] at e1
      subst e1
      have HNew:=hide ((uH hO).newB.least (uH HW).size)
      have hX:=(uH HX).all (uH hB)
      have hBw:=(uH HW).trans ((uH hB).mono (uH HW).size)
      have y0:=((uH HA).all (uH hB)).c0
      obtain ⟨M2,hM2⟩:∃ M2,p * i = M2:=⟨_,rfl⟩
      have HM2:=hide hM2
      rw [hM2] at q1 ⊢
      have s0:=hX.c0;have s1:=hX.c1;have s2:=hX.c2
      have f0:=hX.free 0;have f1:=hX.free 1;have f2:=hX.free 2
      have XP:=hX.put (.int .i64 (p:Nat)) (.int .i64 (i:Nat)) (.slice b1 M2 d1)
      have z0:=XP.c0;have z1:=XP.c1;have z2:=XP.c2
      have QP:=hide (BitsAt.putM q1 hX (.int .i64 (p:Nat)) (.int .i64 (i:Nat)) (.slice b1 M2 d1))
      have BP:=hide (below_putM hBw (b:=w.heap.size+1) (by omega) (.int .i64 (p:Nat)) (.int .i64 (i:Nat)) (.slice b1 M2 d1))
      clear q1 hO hX hB XP hBw hM2
      go_wp2_with fail
      exact bodyPost_ret (v:=.tuple #[.agg #[.int .i64 p,.int .i64 i,.slice b1 M2 d1],.int .i64 0]) (by simp [results,Tryz.results158,go_sem,z0,z1,z2]) rfl ⟨uH POST _ _ (.inr (.inr ⟨uH hG,by omega,_,rfl,⟨b1,d1,by rw [fsL_len,uH HM2],uH HNew,by rw [uH HM2];exact uH QP⟩⟩)),uH BP⟩
end Go.Proofs.YtdhmglmccafbnaaGreatDoor
namespace Go.Proofs.YtdhmglmccafbnaaGreatDoor
open Go.RowKit
attribute [local go_sem ↓] Go.wp_at_zero Go.wp_at_succ
theorem sdS_lt {S:List Nat} (h:∀ x ∈ S,x < 18446744073709551616) (k:Int):∀ x ∈ sdS S k,x < 18446744073709551616:=by
 intro x hx
 unfold sdS at hx
 obtain ⟨p,_,rfl⟩:=List.mem_map.1 hx
 refine xV_lt _ _ ?_
 rw [List.getD_eq_getElem?_getD]
 cases e:S[p]? with
 | none=>decide
 | some v=>exact h v (List.mem_of_getElem? e)
theorem sdNs_lt (r c:Nat) (S:List Nat):∀ x ∈ sdNs r c S,x < 18446744073709551616:=by
 intro x hx
 unfold sdNs at hx
 obtain ⟨p,_,rfl⟩:=List.mem_map.1 hx
 exact sdN_lt _ _ _ _
def sdk (A:List Nat):Int:=eX (bgK (mxL A) A.length)
def sdD (r c:Nat) (A:List Nat):Sd:=sdW r c (sdS A (-sdk A)) 60
def sdP9 (r c:Nat) (A:List Nat):List Nat:=sdQ (sdNs r c (sdD r c A).W) c
def sdW9 (r c:Nat) (A:List Nat):List Nat:=sdS (coL r c (sdD r c A).W (sdP9 r c A)) (sdk A)
def sdV9 (r c:Nat) (A:List Nat):List Nat:=coL c c (sdD r c A).V (sdP9 r c A)
def sdF9 (r c:Nat) (A:List Nat):Bool:=finL (sdW9 r c A) && finL (sdV9 r c A)
def UpAnsL (B:Nat) (w':World) (r c:Nat) (still fin:Bool) (W V:List Nat) (e:Ending):Prop :=
 (still = false∧e = .returned (.tuple #[.agg #[.int .i64 0,.int .i64 0,.slice none 0 0],.agg #[.int .i64 0,.int .i64 0,.slice none 0 0],.slice none 0 0,.int .i64 6])) ∨
 (still = true∧fin = false∧e = .returned (.tuple #[.agg #[.int .i64 0,.int .i64 0,.slice none 0 0],.agg #[.int .i64 0,.int .i64 0,.slice none 0 0],.slice none 0 0,.int .i64 2])) ∨
 (still = true∧fin = true∧∃ v1 v2 g,e = .returned (.tuple #[v1,v2,.slice (some ⟨g,0,none⟩) c c,.int .i64 0])∧NewM B w' r c W v1∧NewM B w' c c V v2∧B≤g∧RowB w' g (sdNs r c W))
def UpAns (B:Nat) (w':World) (r c:Nat) (A:List Nat) (e:Ending):Prop:=UpAnsL B w' r c (sdD r c A).still (sdF9 r c A) (sdW9 r c A) (sdV9 r c A) e
theorem sdQ_at (I:List Nat) (n:Nat) {j:Nat} (hj:j < n):atI (mxL (sdQ I n)) j = (((sdQ I n).getD j 0:Nat):Int)∧(sdQ I n).getD j 0 < n:=by
 have hl:=sdQ_len I n
 refine ⟨?_,?_⟩
 ·unfold atI mxL
  rw [List.getElem?_map,List.getElem?_eq_getElem (by omega),List.getD_eq_getElem?_getD,List.getElem?_eq_getElem (by omega)]
  rfl
 ·refine sdQ_mem I n _ ?_
  rw [List.getD_eq_getElem?_getD,List.getElem?_eq_getElem (by omega)]
  exact List.getElem_mem _
theorem sdcols_any (r c cap gp:Nat) (ao:Option Addr) (S I:List Nat) (w:World) (h:Mx w ao cap r c S) (hp:RowI w gp (sdQ I c)) :
  Calls Tryz.prog 158 #[.agg #[.int .i64 r,.int .i64 c,.slice ao S.length cap],.slice (some ⟨gp,0,none⟩) c c] w fun e w'=>∃ v,e = .returned (.tuple #[v,.int .i64 0])∧NewM w.heap.size w' r c (coL r c S (sdQ I c)) v∧Below w.heap.size w w':=by
 have hc6:=h.2.2.2
 have hl:=sdQ_len I c
 have hi:=hp.ints (fun x hx=>by have:=sdQ_mem I c x hx;omega)
 rw [hl] at hi
 have q:=pcols_any r c cap c ao (some ⟨gp,0,none⟩) S (mxL (sdQ I c)) w h hi (by rw [mxL_len,hl];omega)
 rw [mxL_len,hl] at q
 refine q.mono ?_
 rintro e w' ⟨ha,hb⟩
 unfold ClAns at ha
 rw [mxL_len,hl,natL_mxL] at ha
 rcases ha with ⟨⟨j,hj,hn⟩,_⟩ | ⟨_,h6,_⟩ | ⟨_,_,v,rfl,hv⟩
 ·obtain ⟨e1,e2⟩:=sdQ_at I c hj
  rw [e1] at hn
  exact absurd ⟨by omega,by omega⟩ hn
 ·omega
 ·exact ⟨v,rfl,hv,hb⟩
structure UpSt (w wr:World) (g r c N M:Nat) (W V:List Nat) (wo vo:Option Addr) (wc vc:Nat):Prop where
 bel:Below w.heap.size w wr
 b4:BoxM wr (w.heap.size+1) (.int .i64 0) (.int .i64 0) (.slice none 0 0)
 b5:BoxM wr (w.heap.size+1+1) (.int .i64 0) (.int .i64 0) (.slice none 0 0)
 bw:BoxM wr g (.int .i64 r) (.int .i64 c) (.slice wo N wc)
 bv:BoxM wr (g+1) (.int .i64 c) (.int .i64 c) (.slice vo M vc)
 hg:w.heap.size+1+1 < g
 mw:Mx wr wo wc r c W
 mv:Mx wr vo vc c c V
 hN:W.length = N
 hM:V.length = M
theorem UpSt.all {w wr w':World} {g r c N M:Nat} {W V:List Nat} {wo vo:Option Addr} {wc vc:Nat} (h:UpSt w wr g r c N M W V wo vo wc vc) (hb:Below wr.heap.size wr w'):UpSt w w' g r c N M W V wo vo wc vc :=
 ⟨h.bel.trans (hb.mono h.bel.size),h.b4.all hb,h.b5.all hb,h.bw.all hb,h.bv.all hb,h.hg,h.mw.below hb,h.mv.below hb,h.hN,h.hM⟩
theorem UpSt.putW {w wr:World} {g r c N M:Nat} {W V:List Nat} {wo vo:Option Addr} {wc vc:Nat} (h:UpSt w wr g r c N M W V wo vo wc vc) {W':List Nat} {wo':Option Addr} {wc':Nat} (hW:Mx wr wo' wc' r c W') (hN:W'.length = N) :
  UpSt w (((wr.setCell ⟨g,0,none⟩ (.int .i64 r)).setCell ⟨g,1,none⟩ (.int .i64 c)).setCell ⟨g,2,none⟩ (.slice wo' N wc')) g r c N M W' V wo' vo wc' vc:=by
 have hg:=h.hg
 exact ⟨below_putM (b:=g) h.bel (by omega) _ _ _,h.b4.three (by omega) _ _ _,h.b5.three (by omega) _ _ _,h.bw.put _ _ _,h.bv.three (by omega) _ _ _,hg,hW.putM h.bw _ _ _,h.mv.putM h.bw _ _ _,hN,h.hM⟩
theorem UpSt.putV {w wr:World} {g r c N M:Nat} {W V:List Nat} {wo vo:Option Addr} {wc vc:Nat} (h:UpSt w wr g r c N M W V wo vo wc vc) {V':List Nat} {vo':Option Addr} {vc':Nat} (hV:Mx wr vo' vc' c c V') (hM:V'.length = M) :
  UpSt w (((wr.setCell ⟨g+1,0,none⟩ (.int .i64 c)).setCell ⟨g+1,1,none⟩ (.int .i64 c)).setCell ⟨g+1,2,none⟩ (.slice vo' M vc')) g r c N M W V' wo vo' wc vc':=by
 have hg:=h.hg
 exact ⟨below_putM (b:=g+1) h.bel (by omega) _ _ _,h.b4.three (by omega) _ _ _,h.b5.three (by omega) _ _ _,h.bw.three (by omega) _ _ _,h.bv.put _ _ _,hg,h.mw.putM h.bv _ _ _,hV.putM h.bv _ _ _,h.hN,hM⟩
theorem UpSt.out {w wr:World} {g r c N M:Nat} {W V:List Nat} {wo vo:Option Addr} {wc vc:Nat} (h:UpSt w wr g r c N M W V wo vo wc vc) (x0 x1 x2 y0 y1 y2:Value) (F:World)
  (hF:F = ((((((wr.setCell ⟨w.heap.size+1,0,none⟩ x0).setCell ⟨w.heap.size+1,1,none⟩ x1).setCell ⟨w.heap.size+1,2,none⟩ x2).setCell ⟨w.heap.size+1+1,0,none⟩ y0).setCell ⟨w.heap.size+1+1,1,none⟩ y1).setCell ⟨w.heap.size+1+1,2,none⟩ y2)) :
  BoxM F (w.heap.size+1) x0 x1 x2∧BoxM F (w.heap.size+1+1) y0 y1 y2∧Below w.heap.size w F∧∀ ao c I,BitsAt wr ao c I→BitsAt F ao c I:=by
 subst hF
 have x:=h.b4.put x0 x1 x2
 have y:=h.b5.three (g:=w.heap.size+1) (by omega) x0 x1 x2
 exact ⟨x.three (by omega) _ _ _,y.put _ _ _,below_putM (b:=w.heap.size+1+1) (below_putM (b:=w.heap.size+1) h.bel (by omega) _ _ _) (by omega) _ _ _,fun ao c I q=>(BitsAt.putM q h.b4 _ _ _).putM y _ _ _⟩
theorem sdup_of (r c N M cap:Nat) (ao:Option Addr) (A:List Nat) (w:World) (h:Mx w ao cap r c A) (hN:A.length = N) (hM:c * c = M) (hT:Tab w) :
  Calls Tryz.prog 89 #[.agg #[.int .i64 r,.int .i64 c,.slice ao N cap],.int .i64 60] w fun e w'=>UpAns w.heap.size w' r c A e∧Below w.heap.size w w':=by
 have b3:=boxes3 w (.int .i64 r) (.int .i64 c) (.slice ao N cap) (.int .i64 0) (.int .i64 0) (.slice none 0 0) (.int .i64 0) (.int .i64 0) (.slice none 0 0) (((w.alloc (.cells #[.int .i64 r,.int .i64 c,.slice ao N cap] 25)).alloc (.cells #[.int .i64 0,.int .i64 0,.slice none 0 0] 25)).alloc (.cells #[.int .i64 0,.int .i64 0,.slice none 0 0] 25)) (by have:=Below.refl (((w.alloc (.cells #[.int .i64 r,.int .i64 c,.slice ao N cap] 25)).alloc (.cells #[.int .i64 0,.int .i64 0,.slice none 0 0] 25)).alloc (.cells #[.int .i64 0,.int .i64 0,.slice none 0 0] 25)).heap.size (((w.alloc (.cells #[.int .i64 r,.int .i64 c,.slice ao N cap] 25)).alloc (.cells #[.int .i64 0,.int .i64 0,.slice none 0 0] 25)).alloc (.cells #[.int .i64 0,.int .i64 0,.slice none 0 0] 25));simpa only [size_alloc9] using this)
 have s3:(((w.alloc (.cells #[.int .i64 r,.int .i64 c,.slice ao N cap] 25)).alloc (.cells #[.int .i64 0,.int .i64 0,.slice none 0 0] 25)).alloc (.cells #[.int .i64 0,.int .i64 0,.slice none 0 0] 25)).heap.size = w.heap.size+1+1+1:=by simp only [size_alloc9]
 obtain ⟨b0,x0,x1,x2⟩:=b3
 have hr6:=h.2.2.1;have hc6:=h.2.2.2
 have h36:=h.small
 have LA:=hide (show (mxL A).length = N from (mxL_len A).trans hN)
 have y2:=x0.c2
 have K1:=hide (vBiggest_any ao cap (mxL A) _ (h.below b0).1 (by rw [mxL_len];omega))
 rw [uH LA] at K1
 have RN:=hide (show r * c = N∧c * c = M from ⟨h.2.1.symm.trans hN,hM⟩)
 have HK:=hide (show eX (bgK (mxL A) N) = sdk A from by unfold sdk;rw [hN])
 have HB:=hide b0;have HX:=hide (And.intro x0 (And.intro x1 x2));have S3:=hide s3;have HM:=hide h;have HT:=hide hT;have HN:=hide hN
 have hk:=eX_range (bgK (mxL A) N) (bgK_lt _ _)
 have hkm:=bgK_lt (mxL A) N
 rw [uH HK] at hk
 have DD:=hide (show sdD r c A = sdW r c (sdS A (-sdk A)) 60 from rfl)
 have PP:=hide (show sdP9 r c A = sdQ (sdNs r c (sdD r c A).W) c from rfl)
 have WW:=hide (show sdW9 r c A = sdS (coL r c (sdD r c A).W (sdP9 r c A)) (sdk A) from rfl)
 have VV:=hide (show sdV9 r c A = coL c c (sdD r c A).V (sdP9 r c A) from rfl)
 have FF:=hide (show sdF9 r c A = (finL (sdW9 r c A) && finL (sdV9 r c A)) from rfl)
 show Calls _ _ _ _ fun e w'=>UpAnsL w.heap.size w' r c (sdD r c A).still (sdF9 r c A) (sdW9 r c A) (sdV9 r c A) e∧Below w.heap.size w w'
 generalize sdF9 r c A = F9 at *
 generalize sdV9 r c A = V9 at *
 generalize sdW9 r c A = W9 at *
 generalize sdP9 r c A = Q at *
 generalize sdD r c A = s at *
 clear b0 x0 x1 x2 s3 h hT hN
 generalize bgK (mxL A) N = bg at *
 generalize hkk:sdk A = k at *
 go_enter Tryz.func89,Tryz.ntmps89
 go_wp2_with fail
 clear y2
 refine Calls.mono (uH K1) ?_
 rintro e w3 ⟨rfl,hb⟩
 replace HB:=hide ((uH HB).trans (hb.mono (uH HB).size))
 rw [uH S3] at hb
 replace HX:=hide (And.intro ((uH HX).1.below hb (by omega)) (And.intro ((uH HX).2.1.below hb (by omega)) ((uH HX).2.2.below hb (by omega))))
 have SZ:=hide (show w.heap.size+1+1+1≤w3.heap.size from by have:=hb.size;have:=uH S3;omega)
 clear hb K1
 go_wp2_with fail
 refine (cexp_any bg w3 hkm ((uH HT).all (uH HB))).mono ?_
 rintro e w4 ⟨rfl,hb⟩
 rw [uH HK]
 have mvx:=fun (hb:Below w3.heap.size w3 w4)=>(uH HX)
 replace HB:=hide ((uH HB).trans (hb.mono (uH HB).size))
 replace HX:=hide (And.intro ((uH HX).1.all hb) (And.intro ((uH HX).2.1.all hb) ((uH HX).2.2.all hb)))
 replace SZ:=hide (Nat.le_trans (uH SZ) hb.size)
 clear hb mvx HK hkm
 have nk:IntKind.i64.wrap (-k) = -k:=wrap_in _ (by omega)
 have y0:=(uH HX).1.c0;have y1:=(uH HX).1.c1;have y2:=(uH HX).1.c2
 have K2:=hide (sdshift_any r c cap (-k) ao A w4 ((uH HM).below (uH HB)) ((uH HT).all (uH HB)))
 rw [uH HN] at K2
 go_wp2_with fail
 clear y0 y1 y2
 refine Calls.mono (uH K2) ?_
 rintro e w5 ⟨ga,rfl,hga,hra,hb⟩
 replace HB:=hide ((uH HB).trans (hb.mono (uH HB).size))
 replace HX:=hide (And.intro ((uH HX).1.all hb) (And.intro ((uH HX).2.1.all hb) ((uH HX).2.2.all hb)))
 replace SZ:=hide (Nat.le_trans (uH SZ) hb.size)
 have lA:(sdS A (-k)).length = N:=(sdS_len _ _).trans (uH HN)
 have ltA:=sdS_lt (uH HM).1.nat (-k)
 have ma:Mx w5 (some ⟨ga,0,none⟩) N r c (sdS A (-k)):=⟨by have:=hra.bits ltA;rw [lA] at this;exact this,lA.trans (uH RN).1.symm,hr6,hc6⟩
 have K3:=hide (sdturned_of r c N M 60 N (some ⟨ga,0,none⟩) (sdS A (-k)) w5 ma lA (uH RN).2 (by omega) ((uH HT).all (uH HB)))
 rw [← uH DD] at K3
 clear hb K2 hra ma lA ltA hga
 go_wp2_with fail
 refine Calls.mono (uH K3) ?_
 rintro e w6 ⟨⟨wo,wc,vo,vc,rfl,hW,hV,hWN,hVM⟩,hb⟩
 replace HB:=hide ((uH HB).trans (hb.mono (uH HB).size))
 replace HX:=hide (And.intro ((uH HX).1.all hb) (And.intro ((uH HX).2.1.all hb) ((uH HX).2.2.all hb)))
 replace SZ:=hide (Nat.le_trans (uH SZ) hb.size)
 clear hb K3 DD
 have b1:=below_alloc9 w6 (.cells #[.int .i64 r,.int .i64 c,.slice wo N wc] 25)
 have z1:=size_alloc9 w6 (.cells #[.int .i64 r,.int .i64 c,.slice wo N wc] 25)
 have x1:=BoxM.new w6 (.int .i64 r) (.int .i64 c) (.slice wo N wc)
 have b2:=below_alloc9 (w6.alloc (.cells #[.int .i64 r,.int .i64 c,.slice wo N wc] 25)) (.cells #[.int .i64 c,.int .i64 c,.slice vo M vc] 25)
 have x2:=BoxM.new (w6.alloc (.cells #[.int .i64 r,.int .i64 c,.slice wo N wc] 25)) (.int .i64 c) (.int .i64 c) (.slice vo M vc)
 rw [z1] at x2
 have b12:=b1.trans (b2.mono b1.size)
 have ST:=hide (show UpSt w _ w6.heap.size r c N M s.W s.V wo vo wc vc from ⟨(uH HB).trans (b12.mono (uH HB).size),(uH HX).2.1.all b12,(uH HX).2.2.all b12,x1.all b2,x2,by have:=uH SZ;omega,hW.below b12,hV.below b12,hWN,hVM⟩)
 clear b1 b2 x1 x2 b12 z1 hW hV hWN hVM HB HX SZ HM
 cases hst:s.still
 ·skip
  have st:=uH ST
  have s0:=st.b4.c0;have s1:=st.b4.c1;have s2:=st.b4.c2;have f0:=st.b4.free 0;have f1:=st.b4.free 1;have f2:=st.b4.free 2
  have X7:=st.b5.three (g:=w.heap.size+1) (by omega) (.int .i64 0) (.int .i64 0) (.slice none 0 0)
  have t0:=X7.c0;have t1:=X7.c1;have t2:=X7.c2;have g0:=X7.free 0;have g1:=X7.free 1;have g2:=X7.free 2
  have FIN:=hide (st.out (.int .i64 0) (.int .i64 0) (.slice none 0 0) (.int .i64 0) (.int .i64 0) (.slice none 0 0) _ rfl)
  have a0:=(uH FIN).1.c0;have a1:=(uH FIN).1.c1;have a2:=(uH FIN).1.c2;have b0:=(uH FIN).2.1.c0;have b1:=(uH FIN).2.1.c1;have b2:=(uH FIN).2.1.c2
  clear X7
  clear st ST
  go_wp2_with fail
  exact bodyPost_ret (v:=.tuple #[.agg #[.int .i64 0,.int .i64 0,.slice none 0 0],.agg #[.int .i64 0,.int .i64 0,.slice none 0 0],.slice none 0 0,.int .i64 6]) (by simp [results,Tryz.results89,go_sem,a0,a1,a2,b0,b1,b2]) rfl ⟨.inl ⟨by first | rfl | exact hst,rfl⟩,(uH FIN).2.2.1⟩
 ·have y0:=(uH ST).bw.c0;have y1:=(uH ST).bw.c1;have y2:=(uH ST).bw.c2
  go_wp2_with fail
  clear y0 y1 y2
  generalize (w6.alloc (.cells #[.int .i64 r,.int .i64 c,.slice wo N wc] 25)).alloc (.cells #[.int .i64 c,.int .i64 c,.slice vo M vc] 25) = w7 at *
  generalize w6.heap.size = g at *
  have SQ:=hide (uH PP).symm
  have LQ:=hide (show Q.length = c from by rw [uH PP];exact sdQ_len _ _)
  have K:=hide (sdnorms_any r c wc wo s.W w7 (uH ST).mw ((uH HT).all (uH ST).bel))
  rw [(uH ST).hN] at K
  refine Calls.mono (uH K) ?_
  rintro e w8 ⟨gn,rfl,_,hrn,hb⟩
  replace ST:=hide ((uH ST).all hb)
  have HR:=hide (hrn.bits (sdNs_lt r c s.W))
  rw [sdNs_len] at HR
  clear hb K hrn
  have K:=hide (sdorder_any c (some ⟨gn,0,none⟩) (sdNs r c s.W) w8 (by rw [sdNs_len];exact hc6) (uH HR))
  rw [sdNs_len,uH SQ] at K
  go_wp2_with fail
  refine Calls.mono (uH K) ?_
  rintro e w9 ⟨gp,rfl,hgp,hri,hb⟩
  have GP:=hide (show gp ≠ g from by have:=(uH ST).bw.lt;omega)
  replace ST:=hide ((uH ST).all hb)
  rw [← uH SQ] at hri
  have RI:=hide hri
  clear hb K hri HR hgp
  have y0:=(uH ST).bw.c0;have y1:=(uH ST).bw.c1;have y2:=(uH ST).bw.c2
  go_wp2_with fail
  clear y0 y1 y2
  have K:=hide (sdcols_any r c wc gp wo s.W (sdNs r c s.W) _ (uH ST).mw (uH RI))
  rw [(uH ST).hN,uH SQ] at K
  refine Calls.mono (uH K) ?_
  rintro e w8 ⟨v8,rfl,hn8,hb⟩
  obtain ⟨wo2,wc2,rfl,nw8,q8⟩:=hn8
  have l8:(coL r c s.W Q).length = N:=(coL_len _ _ _ _).trans ((congrArg (r * ·) (uH LQ)).trans (uH RN).1)
  rw [l8]
  have st:=(uH ST).all hb
  replace RI:=hide ((uH RI).all hb)
  have s0:=st.bw.c0;have s1:=st.bw.c1;have s2:=st.bw.c2;have f0:=st.bw.free 0;have f1:=st.bw.free 1;have f2:=st.bw.free 2
  have S2:=hide (st.putW (⟨q8,(coL_len _ _ _ _).trans (congrArg (r * ·) (uH LQ)),hr6,hc6⟩:Mx w8 wo2 wc2 r c (coL r c s.W Q)) l8)
  replace RI:=hide ((uH RI).three (g:=g) (uH GP) (.int .i64 (r:Nat)) (.int .i64 (c:Nat)) (.slice wo2 N wc2))
  clear st ST hb K q8 nw8 l8
  have y0:=(uH S2).bv.c0;have y1:=(uH S2).bv.c1;have y2:=(uH S2).bv.c2
  go_wp2_with fail
  clear s0 s1 s2 f0 f1 f2 y0 y1 y2
  have ST:=S2
  clear S2
  have K:=hide (sdcols_any c c vc gp vo s.V (sdNs r c s.W) _ (uH ST).mv (uH RI))
  rw [(uH ST).hM,uH SQ] at K
  refine Calls.mono (uH K) ?_
  rintro e w8 ⟨v8,rfl,hn8,hb⟩
  obtain ⟨vo2,vc2,rfl,nv8,q8⟩:=hn8
  have l8:(coL c c s.V Q).length = M:=(coL_len _ _ _ _).trans ((congrArg (c * ·) (uH LQ)).trans (uH RN).2)
  rw [l8]
  have NV:=hide (nv8.least (uH ST).bel.size)
  have st:=(uH ST).all hb
  replace RI:=hide ((uH RI).all hb)
  have s0:=st.bv.c0;have s1:=st.bv.c1;have s2:=st.bv.c2;have f0:=st.bv.free 0;have f1:=st.bv.free 1;have f2:=st.bv.free 2
  have S2:=hide (st.putV (⟨q8,(coL_len _ _ _ _).trans (congrArg (c * ·) (uH LQ)),hc6,hc6⟩:Mx w8 vo2 vc2 c c (coL c c s.V Q)) l8)
  clear RI
  clear st ST hb K q8 nv8 l8
  have y0:=(uH S2).bw.c0;have y1:=(uH S2).bw.c1;have y2:=(uH S2).bw.c2
  go_wp2_with fail
  clear s0 s1 s2 f0 f1 f2 y0 y1 y2
  have ST:=S2
  clear S2
  have K:=hide (sdshift_any r c wc2 k wo2 (coL r c s.W Q) _ (uH ST).mw ((uH HT).all (uH ST).bel))
  rw [(uH ST).hN,← uH WW] at K
  refine Calls.mono (uH K) ?_
  rintro e w8 ⟨gw,rfl,hgw,hrw,hb⟩
  have NW:=hide (show NewB w.heap.size (some ⟨gw,0,none⟩) (mxL W9) from .inr ⟨gw,0,rfl,Nat.le_trans (uH ST).bel.size hgw⟩)
  have l9:W9.length = N:=by rw [uH WW,sdS_len];exact (uH ST).hN
  have lt9:∀ x ∈ W9,x < 18446744073709551616:=by rw [uH WW];exact sdS_lt (uH ST).mw.1.nat k
  have q9:=hrw.bits lt9
  rw [l9] at q9
  have st:=(uH ST).all hb
  have s0:=st.bw.c0;have s1:=st.bw.c1;have s2:=st.bw.c2;have f0:=st.bw.free 0;have f1:=st.bw.free 1;have f2:=st.bw.free 2
  have S2:=hide (st.putW (⟨q9,l9.trans (uH RN).1.symm,hr6,hc6⟩:Mx w8 (some ⟨gw,0,none⟩) N r c W9) l9)
  clear st ST hb K q9 hrw hgw WW lt9
  have y2:=(uH S2).bw.c2
  go_wp2_with fail
  clear s0 s1 s2 f0 f1 f2 y2
  have ST:=S2
  clear S2
  rw [← uH VV] at ST NV
  have K:=hide (vFinite_any (some ⟨gw,0,none⟩) N (mxL W9) _ (uH ST).mw.1 (by rw [mxL_len,l9];have:=(uH ST).mw.small;omega))
  rw [mxL_len,l9,show fnK (mxL W9) N = finL W9 from by unfold finL;rw [l9]] at K
  refine Calls.mono (uH K) ?_
  rintro e w8 ⟨rfl,hb⟩
  replace ST:=hide ((uH ST).all hb)
  clear hb K
  cases hf:finL W9
  ·skip
   have st:=uH ST
   have s0:=st.b4.c0;have s1:=st.b4.c1;have s2:=st.b4.c2;have f0:=st.b4.free 0;have f1:=st.b4.free 1;have f2:=st.b4.free 2
   have X7:=st.b5.three (g:=w.heap.size+1) (by omega) (.int .i64 0) (.int .i64 0) (.slice none 0 0)
   have t0:=X7.c0;have t1:=X7.c1;have t2:=X7.c2;have g0:=X7.free 0;have g1:=X7.free 1;have g2:=X7.free 2
   have FIN:=hide (st.out (.int .i64 0) (.int .i64 0) (.slice none 0 0) (.int .i64 0) (.int .i64 0) (.slice none 0 0) _ rfl)
   have a0:=(uH FIN).1.c0;have a1:=(uH FIN).1.c1;have a2:=(uH FIN).1.c2;have b0:=(uH FIN).2.1.c0;have b1:=(uH FIN).2.1.c1;have b2:=(uH FIN).2.1.c2
   clear X7
   clear st ST
   go_wp2_with fail
   exact bodyPost_ret (v:=.tuple #[.agg #[.int .i64 0,.int .i64 0,.slice none 0 0],.agg #[.int .i64 0,.int .i64 0,.slice none 0 0],.slice none 0 0,.int .i64 2]) (by simp [results,Tryz.results89,go_sem,a0,a1,a2,b0,b1,b2]) rfl ⟨.inr (.inl ⟨by first | rfl | exact hst,by rw [uH FF,hf];rfl,rfl⟩),(uH FIN).2.2.1⟩
  ·have y2:=(uH ST).bv.c2
   have lv9:=(uH ST).hM
   have K:=hide (vFinite_any vo2 vc2 (mxL V9) w8 (uH ST).mv.1 (by rw [mxL_len];have:=(uH ST).mv.small;omega))
   rw [mxL_len,lv9,show fnK (mxL V9) M = finL V9 from by unfold finL;rw [lv9]] at K
   go_wp2_with fail
   clear y2
   refine Calls.mono (uH K) ?_
   rintro e w10 ⟨rfl,hb⟩
   replace ST:=hide ((uH ST).all hb)
   clear hb K
   cases hv:finL V9
   ·skip
    have st:=uH ST
    have s0:=st.b4.c0;have s1:=st.b4.c1;have s2:=st.b4.c2;have f0:=st.b4.free 0;have f1:=st.b4.free 1;have f2:=st.b4.free 2
    have X7:=st.b5.three (g:=w.heap.size+1) (by omega) (.int .i64 0) (.int .i64 0) (.slice none 0 0)
    have t0:=X7.c0;have t1:=X7.c1;have t2:=X7.c2;have g0:=X7.free 0;have g1:=X7.free 1;have g2:=X7.free 2
    have FIN:=hide (st.out (.int .i64 0) (.int .i64 0) (.slice none 0 0) (.int .i64 0) (.int .i64 0) (.slice none 0 0) _ rfl)
    have a0:=(uH FIN).1.c0;have a1:=(uH FIN).1.c1;have a2:=(uH FIN).1.c2;have b0:=(uH FIN).2.1.c0;have b1:=(uH FIN).2.1.c1;have b2:=(uH FIN).2.1.c2
    clear X7
    clear st ST
    go_wp2_with fail
    exact bodyPost_ret (v:=.tuple #[.agg #[.int .i64 0,.int .i64 0,.slice none 0 0],.agg #[.int .i64 0,.int .i64 0,.slice none 0 0],.slice none 0 0,.int .i64 2]) (by simp [results,Tryz.results89,go_sem,a0,a1,a2,b0,b1,b2]) rfl ⟨.inr (.inl ⟨by first | rfl | exact hst,by rw [uH FF,hf,hv];rfl,rfl⟩),(uH FIN).2.2.1⟩
   ·go_wp2_with fail
    refine at_world (fun W=>UpSt w W g r c N M W9 V9 (some ⟨gw,0,none⟩) vo2 N vc2) (uH ST) ?_
    clear ST
    rintro U st
    have st:=st.all (Below.refl U.heap.size U).drew
    have KN9:=hide (sdnorms_any r c N (some ⟨gw,0,none⟩) W9 U.drew st.mw ((uH HT).all st.bel))
    rw [l9] at KN9
    have H0:=hide (And.intro st.bw.c0 (And.intro st.bw.c1 (And.intro st.bw.c2 (And.intro st.bv.c0 (And.intro st.bv.c1 st.bv.c2)))))
    have ST:=hide st
    clear st
    refine wp_region_held_drew (S:=fun w'=>w'.cell? ⟨g,0,none⟩ = some (.int .i64 (r:Nat))∧w'.cell? ⟨g,1,none⟩ = some (.int .i64 (c:Nat))∧w'.cell? ⟨g,2,none⟩ = some (.slice (some ⟨gw,0,none⟩) N N)∧w'.cell? ⟨g+1,0,none⟩ = some (.int .i64 (c:Nat))∧w'.cell? ⟨g+1,1,none⟩ = some (.int .i64 (c:Nat))∧w'.cell? ⟨g+1,2,none⟩ = some (.slice vo2 M vc2)) (by kernel_rfl) ?_ (fun hHeld=>?_)
    ·exact uH H0
    refine wpAnyH_take (i:=0) (oi:={ dst:=some 61,op:=Op.load 25 (Operand.tmp 9),type:=25,pos := "svd.go:48",after:=#[],guard:=none }) (v:=.agg #[.int .i64 (r:Nat),.int .i64 (c:Nat),.slice (some ⟨gw,0,none⟩) N N]) rfl (by kernel_rfl) (by kernel_rfl) (by kernel_rfl) (fun _ _ _ h=>h) (Or.inl ⟨by rfl,?_⟩) (by assumption) ?_
    ·(intro w hSw;(try dsimp only at hSw);go_simp)
    simp only [Act.put,List.setIfInBounds_toArray,List.set_cons_zero,List.set_cons_succ]
    refine wpAnyH_take (i:=1) (oi:={ dst:=some 62,op:=Op.load 25 (Operand.tmp 10),type:=25,pos := "svd.go:48",after:=#[{ on:=4,ground:=Ground.gcOnly Departure.lateStores }],guard:=none }) (v:=.agg #[.int .i64 (c:Nat),.int .i64 (c:Nat),.slice vo2 M vc2]) rfl (by kernel_rfl) (by kernel_rfl) (by kernel_rfl) (fun _ _ _ h=>h) (Or.inl ⟨by rfl,?_⟩) (by assumption) ?_
    ·(intro w hSw;(try dsimp only at hSw);go_simp)
    simp only [Act.put,List.setIfInBounds_toArray,List.set_cons_zero,List.set_cons_succ]
    refine wpAnyH_take (i:=2) (oi:={ dst:=some 63,op:=Op.load 25 (Operand.tmp 9),type:=25,pos := "svd.go:48",after:=#[],guard:=none }) (v:=.agg #[.int .i64 (r:Nat),.int .i64 (c:Nat),.slice (some ⟨gw,0,none⟩) N N]) rfl (by kernel_rfl) (by kernel_rfl) (by kernel_rfl) (fun _ _ _ h=>h) (Or.inl ⟨by rfl,?_⟩) (by assumption) ?_
    ·(intro w hSw;(try dsimp only at hSw);go_simp)
    simp only [Act.put,List.setIfInBounds_toArray,List.set_cons_zero,List.set_cons_succ]
    refine wpAnyH_ready (rs:=[3]) (by kernel_rfl) (by simp) ?_
    refine AllReadyH.cons (o:={ dst:=some 64,op:=Op.call { callee:=Callee.value (Operand.func 157),args:=#[Operand.tmp 63],argTypes:=#[25] },type:=23,pos := "svd.go:48",after:=#[{ on:=2,ground:=Ground.data }],guard:=none }) rfl (fun K hK=>?_) AllReadyH.nil
    go_simp
    refine Calls.mono (uH KN9) ?_
    rintro e w11 ⟨gs,rfl,hgs,hrs,hb⟩
    have st:=(uH ST).all hb
    have GS:=hide (Nat.le_trans (uH ST).bel.size hgs);have GS2:=hide (show w.heap.size+1+1 < gs from by have:=(uH ST).b5.lt;omega)
    have RS:=hide hrs
    have hg:=st.hg
    have s0:=st.b4.c0;have s1:=st.b4.c1;have s2:=st.b4.c2;have f0:=st.b4.free 0;have f1:=st.b4.free 1;have f2:=st.b4.free 2
    have X7:=st.b5.three (g:=w.heap.size+1) (by omega) (.int .i64 (r:Nat)) (.int .i64 (c:Nat)) (.slice (some ⟨gw,0,none⟩) N N)
    have t0:=X7.c0;have t1:=X7.c1;have t2:=X7.c2;have g0:=X7.free 0;have g1:=X7.free 1;have g2:=X7.free 2
    have FIN:=hide (st.out (.int .i64 (r:Nat)) (.int .i64 (c:Nat)) (.slice (some ⟨gw,0,none⟩) N N) (.int .i64 (c:Nat)) (.int .i64 (c:Nat)) (.slice vo2 M vc2) _ rfl)
    have a0:=(uH FIN).1.c0;have a1:=(uH FIN).1.c1;have a2:=(uH FIN).1.c2;have b0:=(uH FIN).2.1.c0;have b1:=(uH FIN).2.1.c1;have b2:=(uH FIN).2.1.c2
    clear X7
    have H3:=hide (And.intro st.bw.c0 (And.intro st.bw.c1 (And.intro st.bw.c2 (And.intro st.bv.c0 (And.intro st.bv.c1 st.bv.c2)))))
    have YY:=st.bw.three (g:=w.heap.size+1) (by omega) (.int .i64 (r:Nat)) (.int .i64 (c:Nat)) (.slice (some ⟨gw,0,none⟩) N N);have UU:=st.bv.three (g:=w.heap.size+1) (by omega) (.int .i64 (r:Nat)) (.int .i64 (c:Nat)) (.slice (some ⟨gw,0,none⟩) N N)
    have H1:=hide (And.intro YY.c0 (And.intro YY.c1 (And.intro YY.c2 (And.intro UU.c0 (And.intro UU.c1 UU.c2)))))
    have Y2:=YY.three (g:=w.heap.size+1+1) (by omega) (.int .i64 (c:Nat)) (.int .i64 (c:Nat)) (.slice vo2 M vc2);have U2:=UU.three (g:=w.heap.size+1+1) (by omega) (.int .i64 (c:Nat)) (.int .i64 (c:Nat)) (.slice vo2 M vc2)
    have H2:=hide (And.intro Y2.c0 (And.intro Y2.c1 (And.intro Y2.c2 (And.intro U2.c0 (And.intro U2.c1 U2.c2)))))
    have S2:=hide st
    clear st hb hrs hg YY UU Y2 U2
    go_wp2_with fail
    refine hK.out _ _ ?_ (fun hHeld=>?_)
    ·exact uH H3
    clear hK K
    refine wpAnyH_ready (rs:=[4]) (by kernel_rfl) (by simp) ?_
    refine AllReadyH.cons (o:={ dst:=none,op:=Op.store 25 (Operand.tmp 4) (Operand.tmp 61),type:=0,pos := "svd.go:48",after:=#[{ on:=0,ground:=Ground.data },{ on:=3,ground:=Ground.chain },{ on:=0,ground:=Ground.phase },{ on:=1,ground:=Ground.textOnly Departure.lateStores },{ on:=2,ground:=Ground.textOnly Departure.lateStores },{ on:=3,ground:=Ground.textOnly Departure.lateStoresUnsure }],guard:=none }) rfl (fun K hK=>?_) AllReadyH.nil
    go_simp
    refine hK.out _ _ ?_ (fun hHeld=>?_)
    ·exact uH H1
    clear hK K
    refine wpAnyH_ready (rs:=[5]) (by kernel_rfl) (by simp) ?_
    refine AllReadyH.cons (o:={ dst:=none,op:=Op.store 25 (Operand.tmp 5) (Operand.tmp 62),type:=0,pos := "svd.go:48",after:=#[{ on:=1,ground:=Ground.data },{ on:=4,ground:=Ground.chain },{ on:=0,ground:=Ground.phase },{ on:=1,ground:=Ground.phase },{ on:=2,ground:=Ground.textOnly Departure.lateStores },{ on:=3,ground:=Ground.textOnly Departure.lateStoresUnsure },{ on:=4,ground:=Ground.phase }],guard:=none }) rfl (fun K hK=>?_) AllReadyH.nil
    go_simp
    refine hK.out _ _ ?_ (fun hHeld=>?_)
    ·exact uH H2
    clear hK K
    refine wpAnyH_take (i:=6) (oi:={ dst:=some 6,op:=Op.assign (Operand.tmp 64),type:=23,pos := "svd.go:48",after:=#[{ on:=3,ground:=Ground.data },{ on:=5,ground:=Ground.chain },{ on:=0,ground:=Ground.phase },{ on:=1,ground:=Ground.phase },{ on:=2,ground:=Ground.phase },{ on:=3,ground:=Ground.phase },{ on:=4,ground:=Ground.phase },{ on:=5,ground:=Ground.phase }],guard:=none }) (v:=.slice (some ⟨gs,0,none⟩) c c) rfl (by kernel_rfl) (by kernel_rfl) (by kernel_rfl) (fun _ _ _ h=>h) (Or.inl ⟨by rfl,?_⟩) (by assumption) ?_
    ·(intro w hSw;(try dsimp only at hSw);go_simp)
    simp only [Act.put,List.setIfInBounds_toArray,List.set_cons_zero,List.set_cons_succ]
    refine wpAnyH_take (i:=7) (oi:={ dst:=some 7,op:=Op.assign (Operand.const (Value.int IntKind.i64 0)),type:=32,pos := "svd.go:48",after:=#[{ on:=6,ground:=Ground.chain },{ on:=0,ground:=Ground.phase },{ on:=1,ground:=Ground.phase },{ on:=2,ground:=Ground.phase },{ on:=3,ground:=Ground.phase },{ on:=4,ground:=Ground.phase },{ on:=5,ground:=Ground.phase },{ on:=6,ground:=Ground.phase }],guard:=none }) (v:=.int .i64 0) rfl (by kernel_rfl) (by kernel_rfl) (by kernel_rfl) (fun _ _ _ h=>h) (Or.inl ⟨by rfl,?_⟩) (by assumption) ?_
    ·(intro w hSw;(try dsimp only at hSw);go_simp)
    simp only [Act.put,List.setIfInBounds_toArray,List.set_cons_zero,List.set_cons_succ]
    refine wpAnyH_done (by kernel_rfl) ?_ _
    skip
    go_wp2_with fail
    exact bodyPost_ret (v:=.tuple #[.agg #[.int .i64 r,.int .i64 c,.slice (some ⟨gw,0,none⟩) N N],.agg #[.int .i64 c,.int .i64 c,.slice vo2 M vc2],.slice (some ⟨gs,0,none⟩) c c,.int .i64 0]) (by simp [results,Tryz.results89,go_sem,a0,a1,a2,b0,b1,b2]) rfl ⟨.inr (.inr ⟨by first | rfl | exact hst,by rw [uH FF,hf,hv];rfl,_,_,gs,rfl,⟨_,_,by rw [l9],uH NW,(uH FIN).2.2.2 _ _ _ (uH S2).mw.1⟩,⟨_,_,by rw [lv9],uH NV,(uH FIN).2.2.2 _ _ _ (uH S2).mv.1⟩,uH GS,((uH RS).three (by have:=uH GS2;omega) _ _ _).three (by have:=uH GS2;omega) _ _ _⟩),(uH FIN).2.2.1⟩
end Go.Proofs.YtdhmglmccafbnaaGreatDoor
namespace Go.Proofs.YtdhmglmccafbnaaGreatDoor
open Go.RowKit
attribute [local go_sem ↓] Go.wp_at_zero Go.wp_at_succ
theorem sdK_stop {I:List Nat} {i:Nat} (h:sdK I (i+1) = i):∀ k,sdK I (i+1+k) = i
 | 0=>h
 | k+1=>by
  have e:sdK I (i+1+(k+1)) = if sdK I (i+1+k) < i+1+k then sdK I (i+1+k) else if ltB (xV (I.getD 0 0) (-40)) (I.getD (i+1+k) 0) = true then i+1+k+1 else i+1+k:=rfl
  rw [e,sdK_stop h k,if_pos (by omega)]
theorem sdK_next {I:List Nat} {i:Nat} (h:sdK I i = i):sdK I (i+1) = if ltB (xV (I.getD 0 0) (-40)) (I.getD i 0) = true then i+1 else i:=by
 show (if sdK I i < i then sdK I i else if ltB (xV (I.getD 0 0) (-40)) (I.getD i 0) = true then i+1 else i) = _
 rw [h,if_neg (Nat.lt_irrefl _)]
theorem sdrank_any (cap:Nat) (ao:Option Addr) (I:List Nat) (w:World) (hI:BitsAt w ao cap (mxL I)) (hn:I.length≤35184372088830) (hT:Tab w) :
  Calls Tryz.prog 40 #[.slice ao I.length cap] w fun e w'=>e = .returned (.int .i64 (sdK I I.length:Nat))∧Below w.heap.size w w':=by
 have HI:=hide hI;have HT:=hide hT
 obtain ⟨n,hl⟩:∃ n,I.length = n:=⟨_,rfl⟩
 have HL:=hide hl
 have lx:∀ i,I.getD i 0 < 18446744073709551616:=fun i=>by rw [← mxL_at];exact hI.lt i
 have LX:=hide lx
 have HB:=hide (Below.refl w.heap.size w)
 rw [hl] at hn ⊢
 clear hI hT hl lx
 go_enter Tryz.func40,Tryz.ntmps40
 go_wp2_with fail
 go_loopw [7] (fun a wr=>∃ i:Nat,i≤n∧a = .int .i64 i∧sdK I i = i∧Hid (Below w.heap.size w wr)) (fun a _=>n - (intOf a).toNat)
 case atStart=>exact ⟨0,Nat.zero_le _,rfl,rfl,HB⟩
 case round =>
  clear HB
  obtain ⟨i,hi,rfl,hk,hB⟩:=hrel
  by_cases hlt:i < n
  ·have hiI:(i:Int) < (n:Int):=by omega
   have h0I:(0:Int) < (n:Int):=by omega
   obtain ⟨b,off,e1,_,c1⟩:=bits_cell ((uH HI).below (uH hB)) (k:=i) (by have:=uH HL;omega)
   obtain ⟨b2,off2,e2,_,c2⟩:=bits_cell ((uH HI).below (uH hB)) (k:=0) (by have:=uH HL;omega)
   rw [e1] at e2
   simp only [Option.some.injEq,Addr.mk.injEq] at e2
   obtain ⟨rfl,rfl,_⟩:=e2
   rw [Nat.add_zero] at c2
   have NX:=hide (sdK_next hk)
   have l1:=uH LX i;have l0:=uH LX 0
   generalize I.getD i 0 = x at *
   generalize I.getD 0 0 = y at *
   subst e1
   have K1:=hide (fun w' (h:Below w.heap.size w w')=>vscale_any y (-40) w' l0 ((uH HT).all h))
   have K2:=hide (fun w'=>less19_any (xV y (-40)) x w' (xV_lt _ _ l0) l1)
   clear l1 l0
   go_wp2_with fail
   refine (uH K1 _ (uH hB)).mono ?_
   rintro e w3 ⟨rfl,hb⟩
   replace hB:=hide ((uH hB).trans (hb.mono (uH hB).size))
   clear hb K1 c1 c2
   go_wp2_with fail
   refine (uH K2 _).mono ?_
   rintro e w4 ⟨rfl,hb⟩
   replace hB:=hide ((uH hB).trans (hb.mono (uH hB).size))
   clear hb K2
   cases hc:ltB (xV y (-40)) x
   ·have E:=hide (show sdK I n = i from by
     have h1:sdK I (i+1) = i:=by rw [uH NX,hc];rfl
     have:=sdK_stop h1 (n - (i+1))
     rwa [show i+1+(n - (i+1)) = n by omega] at this)
    go_wp2_with fail
    exact bodyPost_ret (v:=.int .i64 i) (by simp [results,Tryz.results40,go_sem]) rfl ⟨by rw [uH E],uH hB⟩
   ·have E:sdK I (i+1) = i+1:=by rw [uH NX,hc];rfl
    go_wp2_with fail
    go_round
    case rel=>exact ⟨i+1,by omega,by go_num,E,hB⟩
    case measure=>simp [intOf];omega
  ·have hin:i = n:=by omega
   subst hin
   go_wp2_with fail
   exact bodyPost_ret (v:=.int .i64 i) (by simp [results,Tryz.results40,go_sem]) rfl ⟨by rw [hk],uH hB⟩
theorem two_out {w wr:World} (bel:Below w.heap.size w wr) (h4:BoxM wr (w.heap.size+1) (.int .i64 0) (.int .i64 0) (.slice none 0 0)) (h5:BoxM wr (w.heap.size+1+1) (.int .i64 0) (.int .i64 0) (.slice none 0 0)) (x0 x1 x2 y0 y1 y2:Value) (F:World)
  (hF:F = ((((((wr.setCell ⟨w.heap.size+1,0,none⟩ x0).setCell ⟨w.heap.size+1,1,none⟩ x1).setCell ⟨w.heap.size+1,2,none⟩ x2).setCell ⟨w.heap.size+1+1,0,none⟩ y0).setCell ⟨w.heap.size+1+1,1,none⟩ y1).setCell ⟨w.heap.size+1+1,2,none⟩ y2)) :
  BoxM F (w.heap.size+1) x0 x1 x2∧BoxM F (w.heap.size+1+1) y0 y1 y2∧Below w.heap.size w F∧(∀ ao c I,BitsAt wr ao c I→BitsAt F ao c I)∧∀ g S,w.heap.size+1+1 < g→RowB wr g S→RowB F g S:=by
 subst hF
 have x:=h4.put x0 x1 x2
 have y:=h5.three (g:=w.heap.size+1) (by omega) x0 x1 x2
 exact ⟨x.three (by omega) _ _ _,y.put _ _ _,below_putM (b:=w.heap.size+1+1) (below_putM (b:=w.heap.size+1) bel (by omega) _ _ _) (by omega) _ _ _,fun ao c I q=>(BitsAt.putM q h4 _ _ _).putM y _ _ _,fun g S hg q=>(q.three (by omega) _ _ _).three (by omega) _ _ _⟩
theorem sdUp_err (r c er:Int) (n cap:Nat) (ao:Option Addr) (w:World) (her:(er != 0) = true)
  (C:∀ w',Below w.heap.size w w'→Calls Tryz.prog 88 #[.agg #[.int .i64 r,.int .i64 c,.slice ao n cap]] w' fun e w''=>e = .returned (.int .i64 er)∧Below w'.heap.size w' w'') :
  Calls Tryz.prog 37 #[.agg #[.int .i64 r,.int .i64 c,.slice ao n cap]] w fun e w'=>e = .returned (.tuple #[.agg #[.int .i64 0,.int .i64 0,.slice none 0 0],.agg #[.int .i64 0,.int .i64 0,.slice none 0 0],.slice none 0 0,.int .i64 er])∧Below w.heap.size w w':=by
 have b3:=boxes3 w (.int .i64 r) (.int .i64 c) (.slice ao n cap) (.int .i64 0) (.int .i64 0) (.slice none 0 0) (.int .i64 0) (.int .i64 0) (.slice none 0 0) (((w.alloc (.cells #[.int .i64 r,.int .i64 c,.slice ao n cap] 25)).alloc (.cells #[.int .i64 0,.int .i64 0,.slice none 0 0] 25)).alloc (.cells #[.int .i64 0,.int .i64 0,.slice none 0 0] 25)) (by have:=Below.refl (((w.alloc (.cells #[.int .i64 r,.int .i64 c,.slice ao n cap] 25)).alloc (.cells #[.int .i64 0,.int .i64 0,.slice none 0 0] 25)).alloc (.cells #[.int .i64 0,.int .i64 0,.slice none 0 0] 25)).heap.size (((w.alloc (.cells #[.int .i64 r,.int .i64 c,.slice ao n cap] 25)).alloc (.cells #[.int .i64 0,.int .i64 0,.slice none 0 0] 25)).alloc (.cells #[.int .i64 0,.int .i64 0,.slice none 0 0] 25));simpa only [size_alloc9] using this)
 have s3:(((w.alloc (.cells #[.int .i64 r,.int .i64 c,.slice ao n cap] 25)).alloc (.cells #[.int .i64 0,.int .i64 0,.slice none 0 0] 25)).alloc (.cells #[.int .i64 0,.int .i64 0,.slice none 0 0] 25)).heap.size = w.heap.size+1+1+1:=by simp only [size_alloc9]
 obtain ⟨b0,x0,x1,x2⟩:=b3
 have K1:=hide (C _ b0)
 have y0:=x0.c0;have y1:=x0.c1;have y2:=x0.c2
 have HB:=hide b0;have HX:=hide (And.intro x0 (And.intro x1 x2));have S3:=hide s3
 clear b0 x0 x1 x2 s3 C
 go_enter Tryz.func37,Tryz.ntmps37
 go_wp2_with fail
 clear y0 y1 y2
 refine Calls.mono (uH K1) ?_
 rintro e w3 ⟨rfl,hb⟩
 replace HB:=hide ((uH HB).trans (hb.mono (uH HB).size))
 replace HX:=hide (And.intro ((uH HX).1.all hb) (And.intro ((uH HX).2.1.all hb) ((uH HX).2.2.all hb)))
 clear hb K1 S3
 have hX:=uH HX
 have s0:=hX.2.1.c0;have s1:=hX.2.1.c1;have s2:=hX.2.1.c2;have f0:=hX.2.1.free 0;have f1:=hX.2.1.free 1;have f2:=hX.2.1.free 2
 have X7:=hX.2.2.three (g:=w.heap.size+1) (by omega) (.int .i64 0) (.int .i64 0) (.slice none 0 0)
 have t0:=X7.c0;have t1:=X7.c1;have t2:=X7.c2;have g0:=X7.free 0;have g1:=X7.free 1;have g2:=X7.free 2
 have FIN:=hide (two_out (uH HB) hX.2.1 hX.2.2 (.int .i64 0) (.int .i64 0) (.slice none 0 0) (.int .i64 0) (.int .i64 0) (.slice none 0 0) _ rfl)
 have a0:=(uH FIN).1.c0;have a1:=(uH FIN).1.c1;have a2:=(uH FIN).1.c2;have b0:=(uH FIN).2.1.c0;have b1:=(uH FIN).2.1.c1;have b2:=(uH FIN).2.1.c2
 clear X7 hX HX HB
 go_wp2_with fail
 exact bodyPost_ret (v:=.tuple #[.agg #[.int .i64 0,.int .i64 0,.slice none 0 0],.agg #[.int .i64 0,.int .i64 0,.slice none 0 0],.slice none 0 0,.int .i64 er]) (by simp [results,Tryz.results37,go_sem,a0,a1,a2,b0,b1,b2]) rfl ⟨rfl,(uH FIN).2.2.1⟩
theorem sdUp_of (r c n cap:Nat) (st fn:Bool) (W V:List Nat) (ao:Option Addr) (w:World)
  (C:∀ w',Below w.heap.size w w'→Calls Tryz.prog 88 #[.agg #[.int .i64 r,.int .i64 c,.slice ao n cap]] w' fun e w''=>e = .returned (.int .i64 0)∧Below w'.heap.size w' w'')
  (U:∀ w',Below w.heap.size w w'→Calls Tryz.prog 89 #[.agg #[.int .i64 r,.int .i64 c,.slice ao n cap],.int .i64 60] w' fun e w''=>UpAnsL w'.heap.size w'' r c st fn W V e∧Below w'.heap.size w' w'') :
  Calls Tryz.prog 37 #[.agg #[.int .i64 r,.int .i64 c,.slice ao n cap]] w fun e w'=>UpAnsL w.heap.size w' r c st fn W V e∧Below w.heap.size w w':=by
 have KU:=hide U
 clear U
 have b3:=boxes3 w (.int .i64 r) (.int .i64 c) (.slice ao n cap) (.int .i64 0) (.int .i64 0) (.slice none 0 0) (.int .i64 0) (.int .i64 0) (.slice none 0 0) (((w.alloc (.cells #[.int .i64 r,.int .i64 c,.slice ao n cap] 25)).alloc (.cells #[.int .i64 0,.int .i64 0,.slice none 0 0] 25)).alloc (.cells #[.int .i64 0,.int .i64 0,.slice none 0 0] 25)) (by have:=Below.refl (((w.alloc (.cells #[.int .i64 r,.int .i64 c,.slice ao n cap] 25)).alloc (.cells #[.int .i64 0,.int .i64 0,.slice none 0 0] 25)).alloc (.cells #[.int .i64 0,.int .i64 0,.slice none 0 0] 25)).heap.size (((w.alloc (.cells #[.int .i64 r,.int .i64 c,.slice ao n cap] 25)).alloc (.cells #[.int .i64 0,.int .i64 0,.slice none 0 0] 25)).alloc (.cells #[.int .i64 0,.int .i64 0,.slice none 0 0] 25));simpa only [size_alloc9] using this)
 have s3:(((w.alloc (.cells #[.int .i64 r,.int .i64 c,.slice ao n cap] 25)).alloc (.cells #[.int .i64 0,.int .i64 0,.slice none 0 0] 25)).alloc (.cells #[.int .i64 0,.int .i64 0,.slice none 0 0] 25)).heap.size = w.heap.size+1+1+1:=by simp only [size_alloc9]
 obtain ⟨b0,x0,x1,x2⟩:=b3
 have K1:=hide (C _ b0)
 have y0:=x0.c0;have y1:=x0.c1;have y2:=x0.c2
 have HB:=hide b0;have HX:=hide (And.intro x0 (And.intro x1 x2));have S3:=hide s3
 clear b0 x0 x1 x2 s3 C
 go_enter Tryz.func37,Tryz.ntmps37
 go_wp2_with fail
 clear y0 y1 y2
 refine Calls.mono (uH K1) ?_
 rintro e w3 ⟨rfl,hb⟩
 replace HB:=hide ((uH HB).trans (hb.mono (uH HB).size))
 replace HX:=hide (And.intro ((uH HX).1.all hb) (And.intro ((uH HX).2.1.all hb) ((uH HX).2.2.all hb)))
 clear hb K1 S3
 have y0:=(uH HX).1.c0;have y1:=(uH HX).1.c1;have y2:=(uH HX).1.c2
 go_wp2_with fail
 clear y0 y1 y2
 refine (uH KU _ (uH HB)).mono ?_
 have HBS:=hide (uH HB).size
 have HLT:=hide (uH HX).2.2.lt
 rintro e w4 ⟨ha,hb⟩
 replace HB:=hide ((uH HB).trans (hb.mono (uH HB).size))
 replace HX:=hide (And.intro ((uH HX).1.all hb) (And.intro ((uH HX).2.1.all hb) ((uH HX).2.2.all hb)))
 clear hb KU
 rcases ha with ⟨h1,rfl⟩ | ⟨h1,h2,rfl⟩ | ⟨h1,h2,v1,v2,g,rfl,⟨o1,c1,rfl,n1,q1⟩,⟨o2,c2,rfl,n2,q2⟩,hg,hr⟩
 ·have hX:=uH HX
  have s0:=hX.2.1.c0;have s1:=hX.2.1.c1;have s2:=hX.2.1.c2;have f0:=hX.2.1.free 0;have f1:=hX.2.1.free 1;have f2:=hX.2.1.free 2
  have X7:=hX.2.2.three (g:=w.heap.size+1) (by omega) (.int .i64 0) (.int .i64 0) (.slice none 0 0)
  have t0:=X7.c0;have t1:=X7.c1;have t2:=X7.c2;have g0:=X7.free 0;have g1:=X7.free 1;have g2:=X7.free 2
  have FIN:=hide (two_out (uH HB) hX.2.1 hX.2.2 (.int .i64 0) (.int .i64 0) (.slice none 0 0) (.int .i64 0) (.int .i64 0) (.slice none 0 0) _ rfl)
  have a0:=(uH FIN).1.c0;have a1:=(uH FIN).1.c1;have a2:=(uH FIN).1.c2;have b0:=(uH FIN).2.1.c0;have b1:=(uH FIN).2.1.c1;have b2:=(uH FIN).2.1.c2
  clear X7 hX HX HB
  go_wp2_with fail
  exact bodyPost_ret (v:=.tuple #[.agg #[.int .i64 0,.int .i64 0,.slice none 0 0],.agg #[.int .i64 0,.int .i64 0,.slice none 0 0],.slice none 0 0,.int .i64 6]) (by simp [results,Tryz.results37,go_sem,a0,a1,a2,b0,b1,b2]) rfl ⟨.inl ⟨h1,rfl⟩,(uH FIN).2.2.1⟩
 ·have hX:=uH HX
  have s0:=hX.2.1.c0;have s1:=hX.2.1.c1;have s2:=hX.2.1.c2;have f0:=hX.2.1.free 0;have f1:=hX.2.1.free 1;have f2:=hX.2.1.free 2
  have X7:=hX.2.2.three (g:=w.heap.size+1) (by omega) (.int .i64 0) (.int .i64 0) (.slice none 0 0)
  have t0:=X7.c0;have t1:=X7.c1;have t2:=X7.c2;have g0:=X7.free 0;have g1:=X7.free 1;have g2:=X7.free 2
  have FIN:=hide (two_out (uH HB) hX.2.1 hX.2.2 (.int .i64 0) (.int .i64 0) (.slice none 0 0) (.int .i64 0) (.int .i64 0) (.slice none 0 0) _ rfl)
  have a0:=(uH FIN).1.c0;have a1:=(uH FIN).1.c1;have a2:=(uH FIN).1.c2;have b0:=(uH FIN).2.1.c0;have b1:=(uH FIN).2.1.c1;have b2:=(uH FIN).2.1.c2
  clear X7 hX HX HB
  go_wp2_with fail
  exact bodyPost_ret (v:=.tuple #[.agg #[.int .i64 0,.int .i64 0,.slice none 0 0],.agg #[.int .i64 0,.int .i64 0,.slice none 0 0],.slice none 0 0,.int .i64 2]) (by simp [results,Tryz.results37,go_sem,a0,a1,a2,b0,b1,b2]) rfl ⟨.inr (.inl ⟨h1,h2,rfl⟩),(uH FIN).2.2.1⟩
 ·have Q:=hide (And.intro q1 (And.intro q2 hr))
  clear q1 q2 hr
  have hX:=uH HX
  have s0:=hX.2.1.c0;have s1:=hX.2.1.c1;have s2:=hX.2.1.c2;have f0:=hX.2.1.free 0;have f1:=hX.2.1.free 1;have f2:=hX.2.1.free 2
  have X7:=hX.2.2.three (g:=w.heap.size+1) (by omega) (.int .i64 (r:Nat)) (.int .i64 (c:Nat)) (.slice o1 W.length c1)
  have t0:=X7.c0;have t1:=X7.c1;have t2:=X7.c2;have g0:=X7.free 0;have g1:=X7.free 1;have g2:=X7.free 2
  have FIN:=hide (two_out (uH HB) hX.2.1 hX.2.2 (.int .i64 (r:Nat)) (.int .i64 (c:Nat)) (.slice o1 W.length c1) (.int .i64 (c:Nat)) (.int .i64 (c:Nat)) (.slice o2 V.length c2) _ rfl)
  have a0:=(uH FIN).1.c0;have a1:=(uH FIN).1.c1;have a2:=(uH FIN).1.c2;have b0:=(uH FIN).2.1.c0;have b1:=(uH FIN).2.1.c1;have b2:=(uH FIN).2.1.c2
  clear X7 hX HX HB
  go_wp2_with fail
  exact bodyPost_ret (v:=.tuple #[.agg #[.int .i64 r,.int .i64 c,.slice o1 W.length c1],.agg #[.int .i64 c,.int .i64 c,.slice o2 V.length c2],.slice (some ⟨g,0,none⟩) c c,.int .i64 0]) (by simp [results,Tryz.results37,go_sem,a0,a1,a2,b0,b1,b2]) rfl ⟨.inr (.inr ⟨h1,h2,_,_,g,rfl,⟨o1,c1,rfl,n1.least (uH HBS),(uH FIN).2.2.2.1 _ _ _ (uH Q).1⟩,⟨o2,c2,rfl,n2.least (uH HBS),(uH FIN).2.2.2.1 _ _ _ (uH Q).2.1⟩,Nat.le_trans (uH HBS) hg,(uH FIN).2.2.2.2 g _ (by have:=uH HLT;omega) (uH Q).2.2⟩),(uH FIN).2.2.1⟩
end Go.Proofs.YtdhmglmccafbnaaGreatDoor
namespace Go.Proofs.YtdhmglmccafbnaaGreatDoor
open Go.RowKit
attribute [local go_sem ↓] Go.wp_at_zero Go.wp_at_succ
theorem ltB_more (a b:Nat):ltB b a = (cB a b && decide (0 < cO a b)):=by
 unfold ltB cO cB
 by_cases h:fK a = 4 ∨ fK b = 4
 ·rw [if_pos h,if_pos h,if_pos h.symm];rfl
 ·rw [if_neg h,if_neg h,if_neg (fun e=>h e.symm),Bool.true_and]
  unfold cmpI
  by_cases h1:fZ b < fZ a
  ·have h2:¬ fZ a < fZ b:=by omega
   simp [h1,h2]
  ·by_cases h2:fZ a < fZ b
   ·simp [h1,h2]
   ·simp [h1,h2]
theorem rmore19_of (a b:Nat) (o:Int) (t l:Bool) (w:World) (hl:l = (t && decide (0 < o)))
  (C:Calls Tryz.prog 52 #[.int .u64 a,.int .u64 b] w fun r w'=>r = .returned (.tuple #[.int .i64 o,.bool t])∧Below w.heap.size w w') :
  Calls Tryz.prog 100 #[.int .u64 a,.int .u64 b] w fun e w'=>e = .returned (.bool l)∧Below w.heap.size w w':=by
 have K:=hide C
 clear C
 subst hl
 cases t with
 | true =>
  by_cases h:0 < o
  ·rw [decide_eq_true h]
   go_enter Tryz.func100,Tryz.ntmps100
   go_wp2_with fail
   refine Calls.mono (uH K) ?_
   rintro e w1 ⟨rfl,hb1⟩
   clear K
   go_wp2
   go_ret
   exact ⟨by simp,hb1⟩
  ·rw [decide_eq_false h]
   go_enter Tryz.func100,Tryz.ntmps100
   go_wp2_with fail
   refine Calls.mono (uH K) ?_
   rintro e w1 ⟨rfl,hb1⟩
   clear K
   go_wp2
   go_ret
   exact ⟨by simp [h],hb1⟩
 | false =>
  rw [Bool.false_and]
  go_enter Tryz.func100,Tryz.ntmps100
  go_wp2_with fail
  refine Calls.mono (uH K) ?_
  rintro e w1 ⟨rfl,hb1⟩
  clear K
  go_wp2
  go_ret
  exact ⟨rfl,hb1⟩
theorem rmore19_any (a b:Nat) (w:World) (ha:a < 18446744073709551616) (hb:b < 18446744073709551616) :
  Calls Tryz.prog 100 #[.int .u64 a,.int .u64 b] w fun e w'=>e = .returned (.bool (ltB b a))∧Below w.heap.size w w' :=
 rmore19_of a b (cO a b) (cB a b) (ltB b a) w (ltB_more a b) (rorder_any a b w ha hb)
theorem rrank19_any (cap:Nat) (ao:Option Addr) (I:List Nat) (w:World) (hI:BitsAt w ao cap (mxL I)) (hn:I.length≤35184372088830) :
  Calls Tryz.prog 41 #[.slice ao I.length cap] w fun e w'=>e = .returned (.int .i64 (sdK I I.length:Nat))∧Below w.heap.size w w':=by
 have HI:=hide hI
 obtain ⟨n,hl⟩:∃ n,I.length = n:=⟨_,rfl⟩
 have HL:=hide hl
 have lx:∀ i,I.getD i 0 < 18446744073709551616:=fun i=>by rw [← mxL_at];exact hI.lt i
 have LX:=hide lx
 have HB:=hide (Below.refl w.heap.size w)
 rw [hl] at hn ⊢
 clear hI hl lx
 go_enter Tryz.func41,Tryz.ntmps41
 go_wp2_with fail
 go_loopw [3] (fun a wr=>∃ i:Nat,i≤n∧a = .int .i64 i∧sdK I i = i∧Hid (Below w.heap.size w wr)) (fun a _=>n - (intOf a).toNat)
 case atStart=>exact ⟨0,Nat.zero_le _,rfl,rfl,HB⟩
 case round =>
  clear HB
  obtain ⟨i,hi,rfl,hk,hB⟩:=hrel
  by_cases hlt:i < n
  ·have hiI:(i:Int) < (n:Int):=by omega
   have h0I:(0:Int) < (n:Int):=by omega
   have hn0:¬ n = 0:=by omega
   have NX:=hide (sdK_next hk)
   have ES:=hide (show ∀ o,sdK I (i+1) = i→o = sdK I n→o = i from fun o h1 h2=>by
    have:=sdK_stop h1 (n - (i+1))
    rw [show i+1+(n - (i+1)) = n by omega] at this
    exact h2.trans this)
   clear hk
   refine at_world (fun W=>Below w.heap.size w W) (uH hB) ?_
   clear hB
   rintro W hb0
   have hB:=hide (hb0.trans ((Below.refl W.heap.size W).drew.mono hb0.size))
   clear hb0
   obtain ⟨b,off,e1,_,c1⟩:=bits_cell ((uH HI).below (uH hB)) (k:=i) (by have:=uH HL;omega)
   obtain ⟨b2,off2,e2,_,c2⟩:=bits_cell ((uH HI).below (uH hB)) (k:=0) (by have:=uH HL;omega)
   rw [e1] at e2
   simp only [Option.some.injEq,Addr.mk.injEq] at e2
   obtain ⟨rfl,rfl,_⟩:=e2
   rw [Nat.add_zero] at c2
   have l1:=uH LX i;have l0:=uH LX 0
   generalize I.getD i 0 = x at *
   generalize I.getD 0 0 = y at *
   subst e1
   have K1:=hide (fun w'=>r9shift_any y (-40) w' l0 (by omega))
   have lv:=xV_lt y (-40) l0
   generalize xV y (-40) = s at *
   have K2:=hide (fun w'=>rmore19_any x s w' l1 lv)
   have HD:=hide (And.intro c1 c2)
   clear l1 l0 lv c1 c2
   go_wp2_with fail
   refine wp_region_held_drew (S:=fun w'=>w'.cell? ⟨b,off+i,none⟩ = some (.int .u64 (x:Nat))∧w'.cell? ⟨b,off,none⟩ = some (.int .u64 (y:Nat))) (by kernel_rfl) ?_ (fun hHeld=>?_)
   ·exact uH HD
   refine wpAnyH_take (i:=0) (oi:={ dst:=some 4,op:=Op.move (Operand.tmp 3),type:=3,pos := "ref.go:131",after:=#[],guard:=none }) (v:=.int .i64 (i:Nat)) rfl (by kernel_rfl) (by kernel_rfl) (by kernel_rfl) (fun _ _ _ h=>h) (Or.inl ⟨by rfl,?_⟩) (by assumption) ?_
   ·(intro w hSw;(try dsimp only at hSw);go_simp)
   simp only [Act.put,List.setIfInBounds_toArray,List.set_cons_zero,List.set_cons_succ]
   refine wpAnyH_take (i:=1) (oi:={ dst:=some 5,op:=Op.move (Operand.tmp 0),type:=23,pos := "ref.go:131",after:=#[],guard:=none }) (v:=.slice (some ⟨b,off,none⟩) n cap) rfl (by kernel_rfl) (by kernel_rfl) (by kernel_rfl) (fun _ _ _ h=>h) (Or.inl ⟨by rfl,?_⟩) (by assumption) ?_
   ·(intro w hSw;(try dsimp only at hSw);go_simp)
   simp only [Act.put,List.setIfInBounds_toArray,List.set_cons_zero,List.set_cons_succ]
   refine wpAnyH_take (i:=2) (oi:={ dst:=some 6,op:=Op.call { callee:=Callee.builtin Builtin.len,args:=#[Operand.tmp 5],argTypes:=#[23] },type:=3,pos := "ref.go:131",after:=#[{ on:=1,ground:=Ground.data }],guard:=none }) (v:=.int .i64 (n:Nat)) rfl (by kernel_rfl) (by kernel_rfl) (by kernel_rfl) (fun _ _ _ h=>h) (Or.inl ⟨by rfl,?_⟩) (by assumption) ?_
   ·(intro w hSw;(try dsimp only at hSw);go_simp)
   simp only [Act.put,List.setIfInBounds_toArray,List.set_cons_zero,List.set_cons_succ]
   refine wpAnyH_take (i:=3) (oi:={ dst:=some 7,op:=Op.binOp BinOp.lss 3 (Operand.tmp 4) (Operand.tmp 6) 3,type:=4,pos := "ref.go:131",after:=#[{ on:=0,ground:=Ground.data },{ on:=2,ground:=Ground.data }],guard:=none }) (v:=.bool true) rfl (by kernel_rfl) (by kernel_rfl) (by kernel_rfl) (fun _ _ _ h=>h) (Or.inl ⟨by rfl,?_⟩) (by assumption) ?_
   ·(intro w hSw;(try dsimp only at hSw);go_simp)
   simp only [Act.put,List.setIfInBounds_toArray,List.set_cons_zero,List.set_cons_succ]
   refine wpAnyH_take (i:=4) (oi:={ dst:=some 8,op:=Op.move (Operand.tmp 7),type:=4,pos := "ref.go:131",after:=#[{ on:=3,ground:=Ground.data }],guard:=none }) (v:=.bool true) rfl (by kernel_rfl) (by kernel_rfl) (by kernel_rfl) (fun _ _ _ h=>h) (Or.inl ⟨by rfl,?_⟩) (by assumption) ?_
   ·(intro w hSw;(try dsimp only at hSw);go_simp)
   simp only [Act.put,List.setIfInBounds_toArray,List.set_cons_zero,List.set_cons_succ]
   refine wpAnyH_take (i:=5) (oi:={ dst:=some 9,op:=Op.move (Operand.tmp 0),type:=23,pos := "ref.go:131",after:=#[{ on:=4,ground:=Ground.guard }],guard:=some (4,true) }) (v:=.slice (some ⟨b,off,none⟩) n cap) rfl (by kernel_rfl) (by kernel_rfl) (by kernel_rfl) (fun _ _ _ h=>h) (Or.inl ⟨by rfl,?_⟩) (by assumption) ?_
   ·(intro w hSw;(try dsimp only at hSw);go_simp)
   simp only [Act.put,List.setIfInBounds_toArray,List.set_cons_zero,List.set_cons_succ]
   refine wpAnyH_take (i:=6) (oi:={ dst:=some 10,op:=Op.move (Operand.tmp 3),type:=3,pos := "ref.go:131",after:=#[{ on:=4,ground:=Ground.guard }],guard:=some (4,true) }) (v:=.int .i64 (i:Nat)) rfl (by kernel_rfl) (by kernel_rfl) (by kernel_rfl) (fun _ _ _ h=>h) (Or.inl ⟨by rfl,?_⟩) (by assumption) ?_
   ·(intro w hSw;(try dsimp only at hSw);go_simp)
   simp only [Act.put,List.setIfInBounds_toArray,List.set_cons_zero,List.set_cons_succ]
   refine wpAnyH_take (i:=7) (oi:={ dst:=some 11,op:=Op.indexAddr 23 (Operand.tmp 9) (Operand.tmp 10),type:=0,pos := "ref.go:131",after:=#[{ on:=5,ground:=Ground.data },{ on:=6,ground:=Ground.data },{ on:=4,ground:=Ground.guard }],guard:=some (4,true) }) (v:=.pointer (some ⟨b,off+i,none⟩)) rfl (by kernel_rfl) (by kernel_rfl) (by kernel_rfl) (fun _ _ _ h=>h) (Or.inl ⟨by rfl,?_⟩) (by assumption) ?_
   ·(intro w hSw;(try dsimp only at hSw);go_simp)
   simp only [Act.put,List.setIfInBounds_toArray,List.set_cons_zero,List.set_cons_succ]
   refine wpAnyH_take (i:=8) (oi:={ dst:=some 12,op:=Op.load 28 (Operand.tmp 11),type:=28,pos := "ref.go:131",after:=#[{ on:=7,ground:=Ground.data },{ on:=4,ground:=Ground.guard }],guard:=some (4,true) }) (v:=.int .u64 (x:Nat)) rfl (by kernel_rfl) (by kernel_rfl) (by kernel_rfl) (fun _ _ _ h=>h) (Or.inl ⟨by rfl,?_⟩) (by assumption) ?_
   ·(intro w hSw;(try dsimp only at hSw);go_simp)
   simp only [Act.put,List.setIfInBounds_toArray,List.set_cons_zero,List.set_cons_succ]
   refine wpAnyH_take (i:=9) (oi:={ dst:=some 13,op:=Op.move (Operand.tmp 0),type:=23,pos := "ref.go:131",after:=#[{ on:=4,ground:=Ground.guard }],guard:=some (4,true) }) (v:=.slice (some ⟨b,off,none⟩) n cap) rfl (by kernel_rfl) (by kernel_rfl) (by kernel_rfl) (fun _ _ _ h=>h) (Or.inl ⟨by rfl,?_⟩) (by assumption) ?_
   ·(intro w hSw;(try dsimp only at hSw);go_simp)
   simp only [Act.put,List.setIfInBounds_toArray,List.set_cons_zero,List.set_cons_succ]
   refine wpAnyH_take (i:=10) (oi:={ dst:=some 14,op:=Op.indexAddr 23 (Operand.tmp 13) (Operand.const (Value.int IntKind.i64 0)),type:=0,pos := "ref.go:131",after:=#[{ on:=9,ground:=Ground.data },{ on:=4,ground:=Ground.guard }],guard:=some (4,true) }) (v:=.pointer (some ⟨b,off,none⟩)) rfl (by kernel_rfl) (by kernel_rfl) (by kernel_rfl) (fun _ _ _ h=>h) (Or.inl ⟨by rfl,?_⟩) (by assumption) ?_
   ·(intro w hSw;(try dsimp only at hSw);go_simp)
   simp only [Act.put,List.setIfInBounds_toArray,List.set_cons_zero,List.set_cons_succ]
   refine wpAnyH_take (i:=11) (oi:={ dst:=some 15,op:=Op.load 28 (Operand.tmp 14),type:=28,pos := "ref.go:131",after:=#[{ on:=10,ground:=Ground.data },{ on:=4,ground:=Ground.guard }],guard:=some (4,true) }) (v:=.int .u64 (y:Nat)) rfl (by kernel_rfl) (by kernel_rfl) (by kernel_rfl) (fun _ _ _ h=>h) (Or.inl ⟨by rfl,?_⟩) (by assumption) ?_
   ·(intro w hSw;(try dsimp only at hSw);go_simp)
   simp only [Act.put,List.setIfInBounds_toArray,List.set_cons_zero,List.set_cons_succ]
   refine wpAnyH_ready (rs:=[12]) (by kernel_rfl) (by simp) ?_
   refine AllReadyH.cons (o:={ dst:=some 16,op:=Op.call { callee:=Callee.value (Operand.func 93),args:=#[Operand.tmp 15,Operand.const (Value.int IntKind.i64 (-40))],argTypes:=#[28,3] },type:=28,pos := "ref.go:131",after:=#[{ on:=11,ground:=Ground.data },{ on:=4,ground:=Ground.chain },{ on:=4,ground:=Ground.guard }],guard:=some (4,true) }) rfl (fun K hK=>?_) AllReadyH.nil
   go_simp
   refine (uH K1 _).mono ?_
   rintro e w3 ⟨rfl,hb⟩
   replace hB:=hide ((uH hB).trans (hb.mono (uH hB).size));replace HD:=hide (And.intro (cell_keep (uH HD).1 hb) (cell_keep (uH HD).2 hb))
   clear hb
   go_wp2_with fail
   refine hK.out _ _ ?_ (fun hHeld=>?_)
   ·exact uH HD
   clear hK K
   refine wpAnyH_ready (rs:=[13]) (by kernel_rfl) (by simp) ?_
   refine AllReadyH.cons (o:={ dst:=some 17,op:=Op.call { callee:=Callee.value (Operand.func 100),args:=#[Operand.tmp 12,Operand.tmp 16],argTypes:=#[28,28] },type:=4,pos := "ref.go:131",after:=#[{ on:=8,ground:=Ground.data },{ on:=12,ground:=Ground.data },{ on:=12,ground:=Ground.chain },{ on:=4,ground:=Ground.guard }],guard:=some (4,true) }) rfl (fun K hK=>?_) AllReadyH.nil
   go_simp
   refine (uH K2 _).mono ?_
   rintro e w4 ⟨rfl,hb⟩
   replace hB:=hide ((uH hB).trans (hb.mono (uH hB).size));replace HD:=hide (And.intro (cell_keep (uH HD).1 hb) (cell_keep (uH HD).2 hb))
   clear hb
   go_wp2_with fail
   refine hK.out _ _ ?_ (fun hHeld=>?_)
   ·exact uH HD
   clear hK K
   refine wpAnyH_take (i:=14) (oi:={ dst:=some 18,op:=Op.pick (Operand.tmp 8) (Operand.tmp 17) (Operand.const (Value.bool false)),type:=4,pos := "ref.go:131",after:=#[{ on:=4,ground:=Ground.data },{ on:=13,ground:=Ground.data }],guard:=none }) (v:=.bool (ltB s x)) rfl (by kernel_rfl) (by kernel_rfl) (by kernel_rfl) (fun _ _ _ h=>h) (Or.inl ⟨by rfl,?_⟩) (by assumption) ?_
   ·(intro w hSw;(try dsimp only at hSw);go_simp)
   simp only [Act.put,List.setIfInBounds_toArray,List.set_cons_zero,List.set_cons_succ]
   refine wpAnyH_done (by kernel_rfl) ?_ _
   skip
   clear K1 K2 HD
   cases hc:ltB s x
   ·have E:sdK I (i+1) = i:=by rw [uH NX,hc];rfl
    have E2:=hide (uH ES _ E rfl)
    go_wp2_with fail
    exact bodyPost_ret (v:=.int .i64 i) (by simp [results,Tryz.results41,go_sem]) rfl ⟨by rw [uH E2],uH hB⟩
   ·have E:sdK I (i+1) = i+1:=by rw [uH NX,hc];rfl
    go_wp2_with fail
    go_round
    case rel=>exact ⟨i+1,by omega,by go_num,E,hB⟩
    case measure=>simp [intOf];omega
  ·have hin:i = n:=by omega
   subst hin
   have hii:¬ ((i:Int) < (i:Int)):=by omega
   have hB2:=hide ((uH hB).trans (((Below.refl wr.heap.size wr).drew).mono (uH hB).size))
   clear hB
   go_wp2_with fail
   refine wp_region_held_drew (S:=fun w'=>True) (by kernel_rfl) ?_ (fun hHeld=>?_)
   ·exact trivial
   refine wpAnyH_take (i:=0) (oi:={ dst:=some 4,op:=Op.move (Operand.tmp 3),type:=3,pos := "ref.go:131",after:=#[],guard:=none }) (v:=.int .i64 (i:Nat)) rfl (by kernel_rfl) (by kernel_rfl) (by kernel_rfl) (fun _ _ _ h=>h) (Or.inl ⟨by rfl,?_⟩) (by assumption) ?_
   ·(intro w hSw;(try dsimp only at hSw);go_simp)
   simp only [Act.put,List.setIfInBounds_toArray,List.set_cons_zero,List.set_cons_succ]
   refine wpAnyH_take (i:=1) (oi:={ dst:=some 5,op:=Op.move (Operand.tmp 0),type:=23,pos := "ref.go:131",after:=#[],guard:=none }) (v:=.slice ao i cap) rfl (by kernel_rfl) (by kernel_rfl) (by kernel_rfl) (fun _ _ _ h=>h) (Or.inl ⟨by rfl,?_⟩) (by assumption) ?_
   ·(intro w hSw;(try dsimp only at hSw);go_simp)
   simp only [Act.put,List.setIfInBounds_toArray,List.set_cons_zero,List.set_cons_succ]
   refine wpAnyH_take (i:=2) (oi:={ dst:=some 6,op:=Op.call { callee:=Callee.builtin Builtin.len,args:=#[Operand.tmp 5],argTypes:=#[23] },type:=3,pos := "ref.go:131",after:=#[{ on:=1,ground:=Ground.data }],guard:=none }) (v:=.int .i64 (i:Nat)) rfl (by kernel_rfl) (by kernel_rfl) (by kernel_rfl) (fun _ _ _ h=>h) (Or.inl ⟨by rfl,?_⟩) (by assumption) ?_
   ·(intro w hSw;(try dsimp only at hSw);go_simp)
   simp only [Act.put,List.setIfInBounds_toArray,List.set_cons_zero,List.set_cons_succ]
   refine wpAnyH_take (i:=3) (oi:={ dst:=some 7,op:=Op.binOp BinOp.lss 3 (Operand.tmp 4) (Operand.tmp 6) 3,type:=4,pos := "ref.go:131",after:=#[{ on:=0,ground:=Ground.data },{ on:=2,ground:=Ground.data }],guard:=none }) (v:=.bool false) rfl (by kernel_rfl) (by kernel_rfl) (by kernel_rfl) (fun _ _ _ h=>h) (Or.inl ⟨by rfl,?_⟩) (by assumption) ?_
   ·(intro w hSw;(try dsimp only at hSw);go_simp)
   simp only [Act.put,List.setIfInBounds_toArray,List.set_cons_zero,List.set_cons_succ]
   refine wpAnyH_take (i:=4) (oi:={ dst:=some 8,op:=Op.move (Operand.tmp 7),type:=4,pos := "ref.go:131",after:=#[{ on:=3,ground:=Ground.data }],guard:=none }) (v:=.bool false) rfl (by kernel_rfl) (by kernel_rfl) (by kernel_rfl) (fun _ _ _ h=>h) (Or.inl ⟨by rfl,?_⟩) (by assumption) ?_
   ·(intro w hSw;(try dsimp only at hSw);go_simp)
   simp only [Act.put,List.setIfInBounds_toArray,List.set_cons_zero,List.set_cons_succ]
   refine wpAnyH_take (i:=5) (oi:={ dst:=some 9,op:=Op.move (Operand.tmp 0),type:=23,pos := "ref.go:131",after:=#[{ on:=4,ground:=Ground.guard }],guard:=some (4,true) }) (v:=undef) rfl (by kernel_rfl) (by kernel_rfl) (by kernel_rfl) (fun _ _ _ h=>h) (Or.inr ⟨by rfl,rfl⟩) (by assumption) ?_
   simp only [Act.put,List.setIfInBounds_toArray,List.set_cons_zero,List.set_cons_succ]
   refine wpAnyH_take (i:=6) (oi:={ dst:=some 10,op:=Op.move (Operand.tmp 3),type:=3,pos := "ref.go:131",after:=#[{ on:=4,ground:=Ground.guard }],guard:=some (4,true) }) (v:=undef) rfl (by kernel_rfl) (by kernel_rfl) (by kernel_rfl) (fun _ _ _ h=>h) (Or.inr ⟨by rfl,rfl⟩) (by assumption) ?_
   simp only [Act.put,List.setIfInBounds_toArray,List.set_cons_zero,List.set_cons_succ]
   refine wpAnyH_take (i:=7) (oi:={ dst:=some 11,op:=Op.indexAddr 23 (Operand.tmp 9) (Operand.tmp 10),type:=0,pos := "ref.go:131",after:=#[{ on:=5,ground:=Ground.data },{ on:=6,ground:=Ground.data },{ on:=4,ground:=Ground.guard }],guard:=some (4,true) }) (v:=undef) rfl (by kernel_rfl) (by kernel_rfl) (by kernel_rfl) (fun _ _ _ h=>h) (Or.inr ⟨by rfl,rfl⟩) (by assumption) ?_
   simp only [Act.put,List.setIfInBounds_toArray,List.set_cons_zero,List.set_cons_succ]
   refine wpAnyH_take (i:=8) (oi:={ dst:=some 12,op:=Op.load 28 (Operand.tmp 11),type:=28,pos := "ref.go:131",after:=#[{ on:=7,ground:=Ground.data },{ on:=4,ground:=Ground.guard }],guard:=some (4,true) }) (v:=undef) rfl (by kernel_rfl) (by kernel_rfl) (by kernel_rfl) (fun _ _ _ h=>h) (Or.inr ⟨by rfl,rfl⟩) (by assumption) ?_
   simp only [Act.put,List.setIfInBounds_toArray,List.set_cons_zero,List.set_cons_succ]
   refine wpAnyH_take (i:=9) (oi:={ dst:=some 13,op:=Op.move (Operand.tmp 0),type:=23,pos := "ref.go:131",after:=#[{ on:=4,ground:=Ground.guard }],guard:=some (4,true) }) (v:=undef) rfl (by kernel_rfl) (by kernel_rfl) (by kernel_rfl) (fun _ _ _ h=>h) (Or.inr ⟨by rfl,rfl⟩) (by assumption) ?_
   simp only [Act.put,List.setIfInBounds_toArray,List.set_cons_zero,List.set_cons_succ]
   refine wpAnyH_take (i:=10) (oi:={ dst:=some 14,op:=Op.indexAddr 23 (Operand.tmp 13) (Operand.const (Value.int IntKind.i64 0)),type:=0,pos := "ref.go:131",after:=#[{ on:=9,ground:=Ground.data },{ on:=4,ground:=Ground.guard }],guard:=some (4,true) }) (v:=undef) rfl (by kernel_rfl) (by kernel_rfl) (by kernel_rfl) (fun _ _ _ h=>h) (Or.inr ⟨by rfl,rfl⟩) (by assumption) ?_
   simp only [Act.put,List.setIfInBounds_toArray,List.set_cons_zero,List.set_cons_succ]
   refine wpAnyH_take (i:=11) (oi:={ dst:=some 15,op:=Op.load 28 (Operand.tmp 14),type:=28,pos := "ref.go:131",after:=#[{ on:=10,ground:=Ground.data },{ on:=4,ground:=Ground.guard }],guard:=some (4,true) }) (v:=undef) rfl (by kernel_rfl) (by kernel_rfl) (by kernel_rfl) (fun _ _ _ h=>h) (Or.inr ⟨by rfl,rfl⟩) (by assumption) ?_
   simp only [Act.put,List.setIfInBounds_toArray,List.set_cons_zero,List.set_cons_succ]
   refine wpAnyH_take (i:=12) (oi:={ dst:=some 16,op:=Op.call { callee:=Callee.value (Operand.func 93),args:=#[Operand.tmp 15,Operand.const (Value.int IntKind.i64 (-40))],argTypes:=#[28,3] },type:=28,pos := "ref.go:131",after:=#[{ on:=11,ground:=Ground.data },{ on:=4,ground:=Ground.chain },{ on:=4,ground:=Ground.guard }],guard:=some (4,true) }) (v:=undef) rfl (by kernel_rfl) (by kernel_rfl) (by kernel_rfl) (fun _ _ _ h=>h) (Or.inr ⟨by rfl,rfl⟩) (by assumption) ?_
   simp only [Act.put,List.setIfInBounds_toArray,List.set_cons_zero,List.set_cons_succ]
   refine wpAnyH_take (i:=13) (oi:={ dst:=some 17,op:=Op.call { callee:=Callee.value (Operand.func 100),args:=#[Operand.tmp 12,Operand.tmp 16],argTypes:=#[28,28] },type:=4,pos := "ref.go:131",after:=#[{ on:=8,ground:=Ground.data },{ on:=12,ground:=Ground.data },{ on:=12,ground:=Ground.chain },{ on:=4,ground:=Ground.guard }],guard:=some (4,true) }) (v:=undef) rfl (by kernel_rfl) (by kernel_rfl) (by kernel_rfl) (fun _ _ _ h=>h) (Or.inr ⟨by rfl,rfl⟩) (by assumption) ?_
   simp only [Act.put,List.setIfInBounds_toArray,List.set_cons_zero,List.set_cons_succ]
   refine wpAnyH_take (i:=14) (oi:={ dst:=some 18,op:=Op.pick (Operand.tmp 8) (Operand.tmp 17) (Operand.const (Value.bool false)),type:=4,pos := "ref.go:131",after:=#[{ on:=4,ground:=Ground.data },{ on:=13,ground:=Ground.data }],guard:=none }) (v:=.bool false) rfl (by kernel_rfl) (by kernel_rfl) (by kernel_rfl) (fun _ _ _ h=>h) (Or.inl ⟨by rfl,?_⟩) (by assumption) ?_
   ·(intro w hSw;(try dsimp only at hSw);go_simp)
   simp only [Act.put,List.setIfInBounds_toArray,List.set_cons_zero,List.set_cons_succ]
   refine wpAnyH_done (by kernel_rfl) ?_ _
   skip
   go_wp2_with fail
   exact bodyPost_ret (v:=.int .i64 i) (by simp [results,Tryz.results41,go_sem]) rfl ⟨by rw [hk],uH hB2⟩
def a19:List Nat:=[4613937818241073152,0,0,4616189618054758400]
theorem a19_k:sdk a19 = 2:=by decide +kernel
theorem a19_s:sdS a19 (-2) = [4604930618986332160,0,0,4607182418800017408]:=by decide +kernel
theorem nm_of19 {I:List Int} {m S R o:Nat} {k:Int} (h1:bgK I I.length = m) (h2:¬ (m = 0 ∨ fFin m = false)) (h3:eX m = k) (h4:dtK (tL k I) (tL k I) I.length = S) (h5:sV S = R) (h6:xV R k = o):nmV I = o:=by
 unfold nmV
 rw [h1,if_neg h2,h3,h4,h5,h6]
theorem a19_r2:sV 4612248968380809216 = 4609434218613702656:=by
 have:=squares7 4609434218613702656 (by decide +kernel) (by decide +kernel)
 rwa [show mV 4609434218613702656 4609434218613702656 = 4612248968380809216 from by decide +kernel,show fR 4609434218613702656 = 4609434218613702656 from by decide +kernel] at this
theorem a19_r1:sV 4607182418800017408 = 4607182418800017408:=by
 have:=squares7 4607182418800017408 (by decide +kernel) (by decide +kernel)
 rwa [show mV 4607182418800017408 4607182418800017408 = 4607182418800017408 from by decide +kernel,show fR 4607182418800017408 = 4607182418800017408 from by decide +kernel] at this
theorem a19_x:sdN 2 2 [4604930618986332160,0,0,4607182418800017408] 0 = 4604930618986332160 :=
 nm_of19 (m:=4604930618986332160) (k:=-1) (S:=4612248968380809216) (R:=4609434218613702656) (by decide +kernel) (by decide +kernel) (by decide +kernel) (by decide +kernel) a19_r2 (by decide +kernel)
theorem a19_y:sdN 2 2 [4604930618986332160,0,0,4607182418800017408] 1 = 4607182418800017408 :=
 nm_of19 (m:=4607182418800017408) (k:=0) (S:=4607182418800017408) (R:=4607182418800017408) (by decide +kernel) (by decide +kernel) (by decide +kernel) (by decide +kernel) a19_r1 (by decide +kernel)
theorem a19_b (low:Nat):sdB 2 2 low [4604930618986332160,0,0,4607182418800017408] 0 1 = true:=by
 unfold sdB
 rw [a19_x,a19_y,show sdG 2 2 [4604930618986332160,0,0,4607182418800017408] 0 1 = 0 from by decide +kernel,show ltB (xV (mV 4604930618986332160 4607182418800017408) (-44)) (fR 0) = false from by decide +kernel]
 cases ltB low 4604930618986332160 <;> cases ltB low 4607182418800017408 <;> rfl
theorem a19_l (low:Nat):sdL 2 2 low ⟨[4604930618986332160,0,0,4607182418800017408],eyM 2,false⟩ 1 = ⟨[4604930618986332160,0,0,4607182418800017408],eyM 2,true⟩:=by
 show sdP 2 2 low 0 1 ⟨[4604930618986332160,0,0,4607182418800017408],eyM 2,true⟩ = _
 exact sdP_be (a19_b low)
theorem a19_d:sdD 2 2 a19 = ⟨[4604930618986332160,0,0,4607182418800017408],eyM 2,true⟩:=by
 unfold sdD sdW
 rw [a19_k,a19_s]
 generalize xV (nmV (mxL [4604930618986332160,0,0,4607182418800017408])) (-44) = low
 have:=sdL_stop (r:=2) (c:=2) (low:=low) (s:=⟨[4604930618986332160,0,0,4607182418800017408],eyM 2,false⟩) (n:=1) (by rw [a19_l]) 59
 rw [show 1+59 = 60 from rfl,a19_l] at this
 exact this
theorem a19_p:sdP9 2 2 a19 = [1,0]:=by
 unfold sdP9
 rw [a19_d]
 show sdQ [sdN 2 2 [4604930618986332160,0,0,4607182418800017408] 0,sdN 2 2 [4604930618986332160,0,0,4607182418800017408] 1] 2 = _
 rw [a19_x,a19_y]
 decide +kernel
theorem a19_w:sdW9 2 2 a19 = [0,4613937818241073152,4616189618054758400,0]:=by
 unfold sdW9
 rw [a19_p,a19_d,a19_k]
 decide +kernel
theorem a19_v:sdV9 2 2 a19 = [0,4607182418800017408,4607182418800017408,0]:=by
 unfold sdV9
 rw [a19_p,a19_d]
 decide +kernel
theorem a19_f:sdF9 2 2 a19 = true:=by
 unfold sdF9
 rw [a19_w,a19_v]
 decide +kernel
theorem a19_u:sdN 2 2 [0,4613937818241073152,4616189618054758400,0] 0 = 4616189618054758400 :=
 nm_of19 (m:=4616189618054758400) (k:=2) (S:=4607182418800017408) (R:=4607182418800017408) (by decide +kernel) (by decide +kernel) (by decide +kernel) (by decide +kernel) a19_r1 (by decide +kernel)
theorem a19_t:sdN 2 2 [0,4613937818241073152,4616189618054758400,0] 1 = 4613937818241073152 :=
 nm_of19 (m:=4613937818241073152) (k:=1) (S:=4612248968380809216) (R:=4609434218613702656) (by decide +kernel) (by decide +kernel) (by decide +kernel) (by decide +kernel) a19_r2 (by decide +kernel)
theorem a19_n:sdNs 2 2 (sdW9 2 2 a19) = [4616189618054758400,4613937818241073152]:=by
 rw [a19_w]
 show [sdN 2 2 [0,4613937818241073152,4616189618054758400,0] 0,sdN 2 2 [0,4613937818241073152,4616189618054758400,0] 1] = _
 rw [a19_u,a19_t]
theorem awake19_of (l1 l2:Nat) (w:World)
  (C:∀ w' ao,Below w.heap.size w w'→BitsAt w' ao 4 (mxL a19)→Calls Tryz.prog 37 #[.agg #[.int .i64 2,.int .i64 2,.slice ao 4 4]] w' fun e w''=>∃ o1 c1 o2 c2 g,e = .returned (.tuple #[.agg #[.int .i64 2,.int .i64 2,.slice o1 l1 c1],.agg #[.int .i64 2,.int .i64 2,.slice o2 l2 c2],.slice (some ⟨g,0,none⟩) 2 2,.int .i64 0])∧RowB w'' g [4616189618054758400,4613937818241073152]∧Below w'.heap.size w' w'') :
  Calls Tryz.prog 42 #[] w fun e w'=>e = .returned (.bool true)∧Below w.heap.size w w':=by
 have b1:=below_alloc9 w (.cells #[.int .u64 ((4613937818241073152:Nat):Int),.int .u64 ((0:Nat):Int),.int .u64 ((0:Nat):Int),.int .u64 ((4616189618054758400:Nat):Int)] 28)
 have r1:RowB (w.alloc (.cells #[.int .u64 ((4613937818241073152:Nat):Int),.int .u64 ((0:Nat):Int),.int .u64 ((0:Nat):Int),.int .u64 ((4616189618054758400:Nat):Int)] 28)) w.heap.size a19:=heap_alloc_new w _
 have q1:BitsAt (w.alloc (.cells #[.int .u64 ((4613937818241073152:Nat):Int),.int .u64 ((0:Nat):Int),.int .u64 ((0:Nat):Int),.int .u64 ((4616189618054758400:Nat):Int)] 28)) (some ⟨w.heap.size,0,none⟩) 4 (mxL a19):=r1.bits (by decide)
 have K:=hide (C _ _ b1 q1)
 have HB:=hide b1
 clear C b1 r1 q1
 go_enter Tryz.func42,Tryz.ntmps42
 go_wp2_with fail
 refine Calls.mono (uH K) ?_
 rintro e w1 ⟨o1,c1,o2,c2,g,rfl,hr,hb⟩
 replace HB:=hide ((uH HB).trans (hb.mono (uH HB).size))
 have ba:=below_alloc9 w1 (.cells #[.int .i64 2,.int .i64 2,.slice o1 l1 c1] 25)
 have bb:=below_alloc9 (w1.alloc (.cells #[.int .i64 2,.int .i64 2,.slice o1 l1 c1] 25)) (.cells #[.int .i64 2,.int .i64 2,.slice o2 l2 c2] 25)
 have bab:=ba.trans (bb.mono ba.size)
 have c0:=cell_keep (show w1.cell? ⟨g,0,none⟩ = some (.int .u64 4616189618054758400) from hr.cell 0 (by decide)) bab
 replace HB:=hide ((uH HB).trans (bab.mono (uH HB).size))
 clear hb hr ba bb bab K
 go_wp2_with fail
 exact bodyPost_ret (v:=.bool true) (by simp [results,Tryz.results42,go_sem]) rfl ⟨rfl,uH HB⟩
theorem awake19_any (w:World) (hT:Tab w) :
  Calls Tryz.prog 42 #[] w fun e w'=>e = .returned (.bool true)∧Below w.heap.size w w':=by
 refine awake19_of 4 4 w (fun w' ao hb hA=>?_)
 have:=sdup_of 2 2 4 4 4 ao a19 w' ⟨hA,rfl,by decide,by decide⟩ rfl rfl (hT.all hb)
 have C:=fun w'' (hb2:Below w'.heap.size w' w'')=>ccheck_any 2 2 ao 4 (mxL a19) w'' (hA.below hb2) (by decide)
 rw [show ckE 2 2 (mxL a19) = 0 from by decide +kernel] at C
 refine (sdUp_of 2 2 4 4 (sdD 2 2 a19).still (sdF9 2 2 a19) (sdW9 2 2 a19) (sdV9 2 2 a19) ao w' C (fun w'' hb2=>sdup_of 2 2 4 4 4 ao a19 w'' ⟨hA.below hb2,rfl,by decide,by decide⟩ rfl rfl ((hT.all hb).all hb2))).mono ?_
 rintro e w'' ⟨h | h | ⟨_,_,v1,v2,g,rfl,⟨o1,c1,rfl,_,_⟩,⟨o2,c2,rfl,_,_⟩,_,hr⟩,hb2⟩
 ·rw [a19_d] at h;cases h.1
 ·rw [a19_f] at h;cases h.2.1
 ·rw [a19_n] at hr
  rw [a19_w,a19_v]
  exact ⟨o1,c1,o2,c2,g,rfl,hr,hb2⟩
theorem svdRanks_of (ao:Option Addr) (n cap o:Nat) (w:World)
  (C1:Calls Tryz.prog 40 #[.slice ao n cap] w fun e w'=>e = .returned (.int .i64 (o:Nat))∧Below w.heap.size w w')
  (C2:∀ w',Below w.heap.size w w'→Calls Tryz.prog 41 #[.slice ao n cap] w' fun e w''=>e = .returned (.int .i64 (o:Nat))∧Below w'.heap.size w' w'')
  (C3:∀ w',Below w.heap.size w w'→Calls Tryz.prog 42 #[] w' fun e w''=>e = .returned (.bool true)∧Below w'.heap.size w' w'') :
  Calls Tryz.prog 8 #[.slice ao n cap] w fun e w'=>e = .returned (.bool true)∧Below w.heap.size w w':=by
 have K1:=hide C1;have K2:=hide C2;have K3:=hide C3
 clear C1 C2 C3
 go_enter Tryz.func8,Tryz.ntmps8
 go_wp2_with fail
 refine Calls.mono (uH K1) ?_
 rintro e w1 ⟨rfl,hb⟩
 have HB:=hide hb
 clear hb K1
 go_wp2_with fail
 refine (uH K2 _ (uH HB)).mono ?_
 rintro e w2 ⟨rfl,hb⟩
 replace HB:=hide ((uH HB).trans (hb.mono (uH HB).size))
 clear hb K2
 go_wp2_with fail
 refine (uH K3 _ (uH HB)).mono ?_
 rintro e w3 ⟨rfl,hb⟩
 replace HB:=hide ((uH HB).trans (hb.mono (uH HB).size))
 clear hb K3
 go_wp2
 go_ret
 exact ⟨rfl,uH HB⟩
theorem svdRanks_walk (ao:Option Addr) (cap:Nat) (I:List Int) (w:World) (hI:BitsAt w ao cap I) (hn:I.length≤17592186043904) (hT:Tab w) :
  Calls Tryz.prog 8 #[.slice ao I.length cap] w fun e w'=>e = .returned (.bool true)∧Below w.heap.size w w':=by
 have e1:mxL (natL I) = I:=mxL_natL hI
 have e2:(natL I).length = I.length:=natL_len I
 have h2:BitsAt w ao cap (mxL (natL I)):=by rw [e1];exact hI
 rw [← e2] at hn ⊢
 exact svdRanks_of ao (natL I).length cap (sdK (natL I) (natL I).length) w (sdrank_any cap ao (natL I) w h2 (by omega) hT) (fun w' hb=>rrank19_any cap ao (natL I) w' (h2.below hb) (by omega)) (fun w' hb=>awake19_any w' (hT.all hb))
end Go.Proofs.YtdhmglmccafbnaaGreatDoor
namespace Go.Proofs.YtdhmglmccafbnaaGreatDoor
open Go.ChangeShapes Go.WideShapes Go.ChangeAt Go.RowKit Go.Joins
theorem Tryz.own:ownKnob Tryz.prog.godebug = none:=by kernel_rfl
theorem Tryz.laidOut:laidOutB Tryz.prog = true:=by kernel_rfl
end Go.Proofs.YtdhmglmccafbnaaGreatDoor
namespace Go.Proofs.YtdhmglmccafbnaaGreatDoor
open Go.ChangeShapes Go.WideShapes Go.ChangeAt Go.RowKit Go.Joins
theorem Tryz.tabName:Tryz.prog.globalNamed "math/bits.deBruijn32tab" = some 1:=by kernel_rfl
theorem Tryz.tabType:(Tryz.prog.globals[1]?).map (·.type) = some 264:=by kernel_rfl
theorem Tryz.tabCells:Tryz.prog.cellsOf 264 = 32:=by kernel_rfl
theorem Tryz.byteCells:Tryz.prog.cellsOf 5 = 1:=by kernel_rfl
theorem tab_getD:∀ j,j < Lib.deBruijn32tab.length→(List.map Int.ofNat Lib.deBruijn32tab).getD j 0 = ((Lib.deBruijn32tab.getD j 0:Nat):Int):=by decide
theorem tab_of_laid {W:World} (h:laidMetH Tryz.prog [("math/bits.deBruijn32tab",Rows.laid_math_bits_deBruijn32tab)] W):Tab W:=by
 have ht:=Lib.tabIs_of_head (zs:=Lib.deBruijn32tab.map Int.ofNat) (rest:=[]) Tryz.tabName Tryz.tabType Tryz.underlying264 Tryz.underlying5 Tryz.byteCells Tryz.tabCells h
 intro j hj
 have:=ht.cell Tryz.tabName j (by simpa using hj)
 rw [this]
 congr 2
 exact tab_getD j hj
end Go.Proofs.YtdhmglmccafbnaaGreatDoor
namespace Go.Proofs.YtdhmglmccafbnaaGreatDoor
open Go.ChangeShapes Go.WideShapes Go.ChangeAt Go.RowKit Go.Joins Go.Deep
theorem Tryz.cellsBits:Tryz.prog.cellsOf 28 = 1:=by kernel_rfl
theorem Tryz.bytesBits:Tryz.prog.bytesOf 28 = 8:=by kernel_rfl
theorem cellOf_plain {W:World} {a:Addr} {v:Value} (h:W.cell? a = some v):a.spot = none∧a.block < W.heap.size:=⟨World.cell?_spot h,World.block_lt_of_cell? W _ h⟩
theorem addOf_plain (b off i:Nat):(⟨b,off,none⟩:Addr).add i = ⟨b,off+i,none⟩:=by simp [Addr.add]
theorem bounds_of_u64 {x:Int} (h:(Lit.int .u64 x).wf = true):0≤x∧x≤18446744073709551615:=by
 simp [Lit.wf,IntKind.min,IntKind.max,IntKind.signed,IntKind.bits] at h
 omega
end Go.Proofs.YtdhmglmccafbnaaGreatDoor
