/- Part 43 of the texts. -/
import Derived.Test.YtnnfjeieennffaaGreatDoorParte42
import Derived.Laws.MakeOwn
import Derived.Test.YtnnfjeieennffaaGreatDoorChecked
import Derived.Test.YtnnfjeieennffaaGreatDoorParte02
import Derived.ProofKit
import Derived.SizedLaws
import Derived.Lib.SmallJoins
set_option maxHeartbeats 16000000
set_option maxRecDepth 20000
namespace Go.Proofs.YtnnfjeieennffaaGreatDoor
open Go.RowKit
theorem nat_places {I:List Int} {c:Int} (h:∀ j,j < I.length→0≤atI I j∧atI I j < c):∃ L:List Nat,I = mxL L:=by
 refine ⟨I.map Int.toNat,?_⟩
 unfold mxL
 rw [List.map_map]
 refine (List.map_id I).symm.trans (List.map_congr_left (fun x hx=>?_))
 obtain ⟨j,hj,rfl⟩:=List.getElem_of_mem hx
 have:=(h j hj).1
 unfold atI at this
 rw [List.getElem?_eq_getElem hj] at this
 show I[j] = ((I[j].toNat:Nat):Int)
 simp only [Option.getD_some] at this
 omega
theorem pivotTolds_by (r c:Int) (ao:Option Addr) (cap:Nat) (J:List Int) (po:Option Addr) (pc:Nat) (I:List Int) (w:World) (hJ:BitsAt w ao cap J) (hl:J.length≤17592186043904) (hI:IntsAt w po pc I) (hml:I.length≤35184372088830)
  (TE:∀ w',Below w.heap.size w w'→ckE r c J ≠ 0→Calls Tryz.prog 15 #[.agg #[.int .i64 r,.int .i64 c,.slice ao J.length cap]] w' fun e w''=>e = .returned (.tuple #[.int .i64 0,.int .i64 (ckE r c J)])∧Below w'.heap.size w' w'')
  (TY:∀ w' ao cap (r c:Nat) S,Below w.heap.size w w'→Mx w' ao cap r c S→finL S = true→Calls Tryz.prog 15 #[.agg #[.int .i64 r,.int .i64 c,.slice ao S.length cap]] w' fun e w''=>e = .returned (.tuple #[.int .i64 (tdN r c S:Nat),.int .i64 0])∧Below w'.heap.size w' w'')
  (CB:∀ w',Below w.heap.size w w'→(okB r c J.length = false ∨ ∃ j,j < I.length∧¬ (0≤atI I j∧atI I j < c))→Calls Tryz.prog 17 #[.agg #[.int .i64 r,.int .i64 c,.slice ao J.length cap],.slice po I.length pc] w' fun e w''=>∃ v,e = .returned (.tuple #[v,.int .i64 1])∧NewM w'.heap.size w'' 0 0 [] v∧Below w'.heap.size w' w'')
  (CG:∀ w',Below w.heap.size w w'→okB r c J.length = true→(∀ j,j < I.length→0≤atI I j∧atI I j < c)→6 < I.length→Calls Tryz.prog 17 #[.agg #[.int .i64 r,.int .i64 c,.slice ao J.length cap],.slice po I.length pc] w' fun e w''=>∃ v,e = .returned (.tuple #[v,.int .i64 3])∧NewM w'.heap.size w'' 0 0 [] v∧Below w'.heap.size w' w'')
  (CY:∀ w' ao cap (r c:Nat) S lo lc L,Below w.heap.size w w'→Mx w' ao cap r c S→IntsAt w' lo lc (mxL L)→L.length≤6→(∀ y,y < L.length→L.getD y 0 < c)→Calls Tryz.prog 17 #[.agg #[.int .i64 r,.int .i64 c,.slice ao S.length cap],.slice lo L.length lc] w' fun e w''=>∃ v,e = .returned (.tuple #[v,.int .i64 0])∧NewM w'.heap.size w'' r L.length (coL r c S L) v∧Below w'.heap.size w' w'')
  (CA:∀ w',Below w.heap.size w w'→Calls Tryz.prog 14 #[] w' fun e w''=>e = .returned (.bool true)∧Below w'.heap.size w' w'') :
  Calls Tryz.prog 4 #[.agg #[.int .i64 r,.int .i64 c,.slice ao J.length cap],.slice po I.length pc] w fun e w'=>e = .returned (.bool true)∧Below w.heap.size w w':=by
 have C2:=fun w' (hb:Below w.heap.size w w')=>r11check_any r c ao cap J w' (hJ.below hb) (by omega)
 have C5:=fun w'=>rright_any r c ao J.length cap w'
 -- what Told answers
 have hT:∃ tn:Int,(((ckE r c J = 1 ∨ ckE r c J = 4)∧tn = 0) ∨ ckE r c J = 0)∧(∀ w',Below w.heap.size w w'→Calls Tryz.prog 15 #[.agg #[.int .i64 r,.int .i64 c,.slice ao J.length cap]] w' fun e w''=>e = .returned (.tuple #[.int .i64 tn,.int .i64 (ckE r c J)])∧Below w'.heap.size w' w'')∧(ckE r c J = 0→∀ w',Below w.heap.size w w'→Calls Tryz.prog 16 #[.agg #[.int .i64 r,.int .i64 c,.slice ao J.length cap]] w' fun e w''=>e = .returned (.int .i64 tn)∧Below w'.heap.size w' w''):=by
  by_cases h0:ckE r c J = 0
  ·obtain ⟨ho,hf⟩:=ckE_zero h0
   obtain ⟨p,q,rfl,rfl,hM,hS⟩:=Mx.of hJ ho
   have e1:=natL_len J
   have hfin:finL (natL J) = true:=by
    unfold finL
    rw [mxL_natL hJ,e1]
    exact hf
   refine ⟨(tdN p q (natL J):Nat),.inr h0,fun w' hb=>?_,fun _ w' hb=>?_⟩
   ·have:=TY w' ao cap p q (natL J) hb (hM.below hb) hfin
    rw [e1] at this
    rw [h0]
    exact this
   ·have:=rtold16_any p q cap ao (natL J) w' (hM.below hb)
    rw [e1] at this
    exact this
  ·have hw:ckE r c J = 1 ∨ ckE r c J = 4:=by
    unfold ckE at h0 ⊢
    repeat' split
    all_goals first | exact .inl rfl | exact .inr rfl | (exfalso;revert h0;simp_all)
   exact ⟨0,.inl ⟨hw,rfl⟩,fun w' hb=>TE w' hb h0,fun h=>absurd h h0⟩
 obtain ⟨tn,way,C1,C3⟩:=hT
 by_cases hbad:okB r c J.length = false ∨ ∃ j,j < I.length∧¬ (0≤atI I j∧atI I j < c)
 ·refine pivotTolds_of r c ao po J.length cap I.length pc 0 0 I [] (ckE r c J) tn 1 (okB r c J.length) w hI rfl hml (by simp) way (fun _=>⟨rfl,rfl,rfl,rfl⟩) (fun h1 h2=>?_) (fun h1 h2=>?_) C1 C2 C3 (fun w' hb=>CB w' hb hbad) C5 (fun h1 h2=>?_) CA
  all_goals
   exfalso
   rcases hbad with q | ⟨j,hj,q⟩
   ·rw [q] at h1;cases h1
   ·exact q (h2 j hj)
 ·have hok:okB r c J.length = true:=by
   cases hx:okB r c J.length with
   | true=>rfl
   | false=>exact absurd (.inl hx) hbad
  have hg:∀ j,j < I.length→0≤atI I j∧atI I j < c:=fun j hj=>Classical.byContradiction (fun h=>hbad (.inr ⟨j,hj,h⟩))
  by_cases h6:6 < I.length
  ·exact pivotTolds_of r c ao po J.length cap I.length pc 0 0 I [] (ckE r c J) tn 3 (okB r c J.length) w hI rfl hml (by simp) way (fun h=>absurd h hbad) (fun _ _ _=>⟨rfl,rfl,rfl,rfl⟩) (fun _ _ h=>absurd h (by omega)) C1 C2 C3 (fun w' hb=>CG w' hb hok hg h6) C5 (fun _ _ h=>absurd h (by omega)) CA
  ·obtain ⟨p,q,rfl,rfl,hM,hS⟩:=Mx.of hJ hok
   obtain ⟨L,hL⟩:=nat_places hg
   subst hL
   have e1:=natL_len J
   have e2:(mxL L).length = L.length:=mxL_len L
   have r6:=hM.2.2.1
   have hc:∀ y,y < L.length→L.getD y 0 < q:=fun y hy=>by
    have h1:=(hg y (by rw [e2];exact hy)).2
    unfold atI at h1
    rw [mxL_int L hy] at h1
    omega
   have l6:L.length≤6:=by rw [e2] at h6;omega
   refine pivotTolds_of p q ao po J.length cap (mxL L).length pc p L.length (mxL L) (coL p q (natL J) L) (ckE p q J) tn 0 (okB p q J.length) w hI rfl hml (by rw [coL_len];exact Nat.mul_le_mul r6 l6) way (fun h=>absurd h hbad) (fun _ _ h=>absurd h h6) (fun _ _ _=>rfl) C1 C2 C3 (fun w' hb=>?_) C5 (fun _ _ _ w' hb=>?_) CA
   ·have:=CY w' ao cap p q (natL J) po pc L hb (hM.below hb) (hI.below hb) l6 hc
    rw [e1,← e2] at this
    rw [← e2]
    exact this
   ·have:=rcolumns_any p q cap pc ao po (natL J) L w' (hM.below hb) (hI.below hb) l6 hc
    rw [e1,← e2] at this
    rw [← e2]
    exact this
end Go.Proofs.YtnnfjeieennffaaGreatDoor
namespace Go.Proofs.YtnnfjeieennffaaGreatDoor
open Go.RowKit
attribute [local go_sem ↓] Go.wp_at_zero Go.wp_at_succ
theorem pcols_form (r c:Int) (ao:Option Addr) (n cap:Nat) (po:Option Addr) (k pc:Nat) (w:World) (hn:n≤35184372088830) (h:okB r c n = false) :
  Calls Tryz.prog 17 #[.agg #[.int .i64 r,.int .i64 c,.slice ao n cap],.slice po k pc] w fun e w'=>∃ v,e = .returned (.tuple #[v,.int .i64 1])∧NewM w.heap.size w' 0 0 [] v∧Below w.heap.size w w':=by
 have K:=hide (mcheck_any r c ao n cap ((w.alloc (.cells #[.int .i64 r,.int .i64 c,.slice ao n cap] 24)).alloc (.cells #[.int .i64 0,.int .i64 0,.slice none 0 0] 24)) hn)
 rw [h,if_neg (by decide)] at K
 simp only [size_alloc9] at K
 have KB:=hide (boxes2 w (.int .i64 r) (.int .i64 c) (.slice ao n cap) (.int .i64 0) (.int .i64 0) (.slice none 0 0))
 clear h
 go_enter Tryz.func17,Tryz.ntmps17
 go_wp2_with fail
 refine Calls.mono (uH K) ?_
 rintro e w1 ⟨rfl,hb1⟩
 obtain ⟨hB,hA,hX⟩:=uH KB w1 hb1
 clear K KB hb1 hA
 have f0:=hX.free 0;have f1:=hX.free 1;have f2:=hX.free 2
 have s0:=hX.c0;have s1:=hX.c1;have s2:=hX.c2
 have XP:=hX.put (.int .i64 0) (.int .i64 0) (.slice none 0 0)
 have z0:=XP.c0;have z1:=XP.c1;have z2:=XP.c2
 have BP:=hide (below_putM hB (b:=w.heap.size+1) (by omega) (.int .i64 0) (.int .i64 0) (.slice none 0 0))
 clear XP hX hB
 go_wp2
 exact bodyPost_ret (v:=.tuple #[.agg #[.int .i64 0,.int .i64 0,.slice none 0 0],.int .i64 1]) (by simp [results,Tryz.results17,go_sem,z0,z1,z2]) rfl ⟨_,rfl,NewM.zero _ _,uH BP⟩
def ClAns (w w':World) (r c:Nat) (S:List Nat) (I:List Int) (e:Ending):Prop :=
 ((∃ j,j < I.length∧¬ (0≤atI I j∧atI I j < c))∧∃ v,e = .returned (.tuple #[v,.int .i64 1])∧NewM w.heap.size w' 0 0 [] v) ∨
    ((∀ j,j < I.length→0≤atI I j∧atI I j < c)∧6 < I.length∧∃ v,e = .returned (.tuple #[v,.int .i64 3])∧NewM w.heap.size w' 0 0 [] v) ∨
    ((∀ j,j < I.length→0≤atI I j∧atI I j < c)∧I.length≤6∧∃ v,e = .returned (.tuple #[v,.int .i64 0])∧NewM w.heap.size w' r I.length (coL r c S (natL I)) v)
theorem pcols_any (r c cap pc:Nat) (ao po:Option Addr) (S:List Nat) (I:List Int) (w:World) (h:Mx w ao cap r c S) (hI:IntsAt w po pc I) (hml:I.length≤35184372088830) :
  Calls Tryz.prog 17 #[.agg #[.int .i64 r,.int .i64 c,.slice ao S.length cap],.slice po I.length pc] w fun e w'=>ClAns w w' r c S I e∧Below w.heap.size w w':=by
 obtain ⟨i0,hi0,hz0,hz1,hz2⟩:=info_parts infoBits
 have r6:=h.2.2.1
 have c6:=h.2.2.2
 have hl:=h.2.1
 have h36:=h.small
 have K:=hide (mcheck_any r c ao S.length cap ((w.alloc (.cells #[.int .i64 (r:Nat),.int .i64 (c:Nat),.slice ao S.length cap] 24)).alloc (.cells #[.int .i64 0,.int .i64 0,.slice none 0 0] 24)) (by omega))
 rw [mx_ok h,if_pos (Eq.refl true)] at K
 simp only [size_alloc9] at K
 have KB:=hide (boxes2 w (.int .i64 (r:Nat)) (.int .i64 (c:Nat)) (.slice ao S.length cap) (.int .i64 0) (.int .i64 0) (.slice none 0 0))
 obtain ⟨m,hm⟩:∃ m,I.length = m:=⟨_,rfl⟩
 have hlI:(natL I).length = m:=by rw [natL_len,hm]
 have ec:coL r c S (natL I) = mkM r m (fun i k=>elM c S i ((natL I).getD k 0)):=by unfold coL;rw [hlI]
 obtain ⟨F,hF⟩:∃ F:Nat→Nat,F = fun x=>elM c S (x / m) ((natL I).getD (x % m) 0):=⟨_,rfl⟩
 have FV:=hide (show ∀ j k,k < m→F (j * m+k) = elM c S j ((natL I).getD k 0) from fun j k hk=>by rw [hF];show elM c S ((j * m+k) / m) ((natL I).getD ((j * m+k) % m) 0) = _;rw [place_div hk,place_mod hk])
 have FM:=hide (show mkM r m (fun i k=>elM c S i ((natL I).getD k 0)) = fsL F (r * m) from by rw [hF];rfl)
 have NV:=hide (show ∀ k,k < m→0≤atI I k→(((natL I).getD k 0:Nat):Int) = atI I k from fun k hk h0=>by
  unfold natL atI at *
  rw [List.getD_eq_getElem?_getD,List.getElem?_map,List.getElem?_eq_getElem (by rw [hm];exact hk)] at *
  simp only [Option.map_some,Option.getD_some] at *
  omega)
 have POST:=hide (show ∀ w' e,(((∃ j,j < m∧¬ (0≤atI I j∧atI I j < c))∧∃ v,e = .returned (.tuple #[v,.int .i64 1])∧NewM w.heap.size w' 0 0 [] v) ∨ ((∀ j,j < m→0≤atI I j∧atI I j < c)∧6 < m∧∃ v,e = .returned (.tuple #[v,.int .i64 3])∧NewM w.heap.size w' 0 0 [] v) ∨ ((∀ j,j < m→0≤atI I j∧atI I j < c)∧m≤6∧∃ v,e = .returned (.tuple #[v,.int .i64 0])∧NewM w.heap.size w' r m (fsL F (r * m)) v))→ClAns w w' r c S I e from fun w' e q=>by
  unfold ClAns
  rw [ec,uH FM,hm]
  exact q)
 rw [hm] at hml ⊢
 have HM:=hide h;have HI:=hide hI;have HLM:=hide hm
 generalize hLL:natL I = L at *
 generalize hnn:S.length = n at *
 have HL:=hide hl
 clear hF FM h hnn hl hI hm ec hlI hLL
 go_enter Tryz.func17,Tryz.ntmps17
 go_wp2_with fail
 refine Calls.mono (uH K) ?_
 rintro e w1 ⟨rfl,hb1⟩
 obtain ⟨hB,hA,hX⟩:=uH KB w1 hb1
 clear K KB hb1
 replace HM:=hide ((uH HM).below hB)
 replace HI:=hide ((uH HI).below hB)
 have HA:=hide hA;have HX:=hide hX;have HW:=hide hB
 clear hA hX hB
 go_wp2_with fail
 go_loopw [21] (fun a wr=>∃ i:Nat,i≤m∧a = .int .i64 i∧Hid (∀ j,j < i→0≤atI I j∧atI I j < c)∧Hid (Below w1.heap.size w1 wr)) (fun a _=>m - (intOf a).toNat)
 case atStart=>exact ⟨0,Nat.zero_le _,rfl,fun j hj=>absurd hj (Nat.not_lt_zero j),Below.refl _ _⟩
 case round =>
  obtain ⟨i,hi,rfl,hG,hB1⟩:=hrel
  replace HM:=hide ((uH HM).below (uH hB1))
  replace HI:=hide ((uH HI).below (uH hB1))
  replace HA:=hide ((uH HA).all (uH hB1))
  replace HX:=hide ((uH HX).all (uH hB1))
  replace HW:=hide ((uH HW).trans ((uH hB1).mono (uH HW).size))
  by_cases hlt:i < m
  ·have hiI:(i:Int) < (m:Int):=by omega
   obtain ⟨b,off,hpo,hbw,hc⟩:=(uH HI).ne (by rw [uH HLM];omega)
   have d1:=hc i (by rw [uH HLM];exact hlt)
   rw [show I[i]?.getD 0 = atI I i from rfl] at d1
   have hGi:=hide (show (0≤atI I i∧atI I i < c)→∀ j,j < i+1→0≤atI I j∧atI I j < c from fun q j hj=>by
    by_cases g:j = i
    ·rw [g];exact q
    ·exact uH hG j (by omega))
   have HBad:=hide (show ¬ (0≤atI I i∧atI I i < c)→∃ j,j < m∧¬ (0≤atI I j∧atI I j < c) from fun q=>⟨i,hlt,q⟩)
   have hwf:=(uH HI).wf i
   have y1:=(uH HA).c1
   subst hpo
   generalize atI I i = x at *
   clear hc hG
   by_cases hx0:x < 0
   ·have hbd:=uH HBad (by omega)
    have g1:decide (x < 0) = true:=decide_eq_true hx0
    have HBD:=hide hbd
    have X3:=uH HX
    have f0:=X3.free 0;have f1:=X3.free 1;have f2:=X3.free 2
    have s0:=X3.c0;have s1:=X3.c1;have s2:=X3.c2
    have XP:=X3.put (.int .i64 0) (.int .i64 0) (.slice none 0 0)
    have z0:=XP.c0;have z1:=XP.c1;have z2:=XP.c2
    have BP:=hide (below_putM (uH HW) (b:=w.heap.size+1) (by omega) (.int .i64 0) (.int .i64 0) (.slice none 0 0))
    clear XP X3 hbd HBad hGi
    go_wp2_with fail
    exact bodyPost_ret (v:=.tuple #[.agg #[.int .i64 0,.int .i64 0,.slice none 0 0],.int .i64 1]) (by simp [results,Tryz.results17,go_sem,z0,z1,z2]) rfl ⟨uH POST _ _ (.inl ⟨uH HBD,_,rfl,NewM.zero _ _⟩),uH BP⟩
   ·have g1:decide (x < 0) = false:=decide_eq_false hx0
    by_cases hxc:(c:Int)≤x
    ·have hbd:=uH HBad (by omega)
     have g2:decide ((c:Int)≤x) = true:=decide_eq_true hxc
     have HBD:=hide hbd
     have X3:=uH HX
     have f0:=X3.free 0;have f1:=X3.free 1;have f2:=X3.free 2
     have s0:=X3.c0;have s1:=X3.c1;have s2:=X3.c2
     have XP:=X3.put (.int .i64 0) (.int .i64 0) (.slice none 0 0)
     have z0:=XP.c0;have z1:=XP.c1;have z2:=XP.c2
     have BP:=hide (below_putM (uH HW) (b:=w.heap.size+1) (by omega) (.int .i64 0) (.int .i64 0) (.slice none 0 0))
     clear XP X3 hbd HBad hGi
     go_wp2_with fail
     exact bodyPost_ret (v:=.tuple #[.agg #[.int .i64 0,.int .i64 0,.slice none 0 0],.int .i64 1]) (by simp [results,Tryz.results17,go_sem,z0,z1,z2]) rfl ⟨uH POST _ _ (.inl ⟨uH HBD,_,rfl,NewM.zero _ _⟩),uH BP⟩
    ·have g2:decide ((c:Int)≤x) = false:=decide_eq_false hxc
     have hG2:=hide (uH hGi (by omega))
     clear HBad hGi
     go_wp2_with fail
     go_round
     case rel=>exact ⟨i+1,by omega,by go_num,hG2,hB1⟩
     case measure=>first | (simp [intOf];done) | (simp [intOf];omega)
  ·have hii:i = m:=by omega
   subst hii
   have hiI:¬ ((i:Int) < (i:Int)):=by omega
   by_cases h6:6 < i
   ·have h6I:(6:Int) < (i:Int):=by omega
    have X3:=uH HX
    have f0:=X3.free 0;have f1:=X3.free 1;have f2:=X3.free 2
    have s0:=X3.c0;have s1:=X3.c1;have s2:=X3.c2
    have XP:=X3.put (.int .i64 0) (.int .i64 0) (.slice none 0 0)
    have z0:=XP.c0;have z1:=XP.c1;have z2:=XP.c2
    have BP:=hide (below_putM (uH HW) (b:=w.heap.size+1) (by omega) (.int .i64 0) (.int .i64 0) (.slice none 0 0))
    clear XP X3
    go_wp2_with fail
    exact bodyPost_ret (v:=.tuple #[.agg #[.int .i64 0,.int .i64 0,.slice none 0 0],.int .i64 3]) (by simp [results,Tryz.results17,go_sem,z0,z1,z2]) rfl ⟨uH POST _ _ (.inr (.inl ⟨uH hG,h6,_,rfl,NewM.zero _ _⟩)),uH BP⟩
   ·have h6I:(i:Int)≤6:=by omega
    obtain ⟨wb,hwb⟩:∃ wb,wb = wr:=⟨wr,rfl⟩
    subst hwb
    obtain ⟨N,hN⟩:∃ N,r * i = N:=⟨_,rfl⟩
    have hN36:N≤36:=by rw [← hN];exact Nat.mul_le_mul r6 (show i≤6 by omega)
    have e1:IntKind.i64.wrap ((r:Int) * (i:Int)) = (N:Int):=by
     rw [cast_mul10 r i,hN]
     exact wrap_in _ (by omega)
    have e2:(r:Int) * (i:Int) = (N:Int):=by rw [cast_mul10 r i,hN]
    have e3:IntKind.i64.wrap (N:Int) = (N:Int):=wrap_in _ (by omega)
    obtain ⟨w4,hmk,own4,gr4⟩:=run_make_own (P:=Tryz.prog) wb wb.heap.size 22 31 i0 (.int .u64 0) 1 Tryz.underlying22 hi0 hz0 hz1 .i64 .i64 N (by rw [hz2];omega) (by unfold maxLen;omega) (by simp)
    have B4:=hide (show Below wb.heap.size wb w4 from (Below.refl wb.heap.size wb).grown gr4 (by simp) (fun g hg=>by cases hg))
    have O4:=hide (show OwnB wb.heap.size w4 (.slice (some ⟨wb.heap.size,0,none⟩) 0 N) (fsL F (0 * i)) from ⟨by rw [Nat.zero_mul];simpa [fsL] using own4,by rw [Nat.zero_mul];intro x hx;cases hx⟩)
    have y0:=(uH HA).c0
    have y0':=((uH HA).all (uH B4)).c0
    have HNN:=hide hN
    clear own4 gr4 hN
    go_wp2_with fail
    clear hmk y0 y0' e1 e2 e3
    go_loopw [9,47] (fun v a wq=>∃ p:Nat,p≤r∧a = .int .i64 p∧Hid (OwnB wb.heap.size wq v (fsL F (p * i)))∧Hid (Below wb.heap.size wb wq)) (fun _ a _=>r - (intOf a).toNat)
    case atStart=>exact ⟨0,Nat.zero_le _,rfl,O4,B4⟩
    case round =>
     clear O4 B4
     obtain ⟨p,hp,rfl,hO,hB⟩:=hrel
     by_cases hpr:p < r
     ·have hpI:(p:Int) < (r:Int):=by omega
      have hO':=hide (show OwnB wb.heap.size wr u9 (fsL F (p * i+0)) from uH hO)
      clear hO
      go_wp2_with fail
      go_loopw [9,52] (fun v a wq=>∃ k:Nat,k≤i∧a = .int .i64 k∧Hid (OwnB wb.heap.size wq v (fsL F (p * i+k)))∧Hid (Below wb.heap.size wb wq)) (fun _ a _=>i - (intOf a).toNat)
      case atStart=>exact ⟨0,Nat.zero_le _,rfl,hO',hB⟩
      case round =>
       clear hO' hB
       obtain ⟨k,hk,rfl,hO,hB⟩:=hrel
       by_cases hki:k < i
       ·have hkI:(k:Int) < (i:Int):=by omega
        obtain ⟨hg1,hg2⟩:=uH hG k hki
        have hnv:=uH NV k hki hg1
        obtain ⟨b,off,hpo,hbw,hc⟩:=(uH HI).ne (by rw [uH HLM];omega)
        have d0:=hc k (by rw [uH HLM];exact hki)
        rw [show I[k]?.getD 0 = atI I k from rfl,← hnv] at d0
        have d1:=cell_keep d0 (uH hB)
        rw [← hnv] at hg2
        have eo:=uH FV p k hki
        generalize L.getD k 0 = y at *
        have hyc:y < c:=by omega
        obtain ⟨b2,off2,hao,hbw2,hcell,_⟩:=(uH HM).cells hpr hyc
        have hu:=(uH HM).el_lt p y
        have hpp:=place_lt hpr hyc
        generalize elM c S p y = u at *
        obtain ⟨q,hq⟩:∃ q,p * c = q:=⟨_,rfl⟩
        rw [hq] at hcell hpp
        obtain ⟨x,hx⟩:∃ x,q+y = x:=⟨_,rfl⟩
        rw [hx] at hcell hpp
        have hxn:x < n:=by rw [uH HL];exact hpp
        have hxI:(x:Int) < (n:Int):=by omega
        have e2:IntKind.i64.wrap ((p:Int) * (c:Int)) = (q:Int):=by
         rw [cast_mul10 p c,hq]
         exact wrap_in _ (by omega)
        have e3:IntKind.i64.wrap ((q:Int)+(y:Int)) = (x:Int):=(wrap_in _ (by omega)).trans (by omega)
        have e5:(p:Int) * (c:Int) = (q:Int):=by rw [cast_mul10 p c,hq]
        have e6:(q:Int)+(y:Int) = (x:Int):=by omega
        have e7:IntKind.i64.wrap (q:Int) = (q:Int):=wrap_in _ (by omega)
        have e8:IntKind.i64.wrap (x:Int) = (x:Int):=wrap_in _ (by omega)
        subst hao hpo
        have y1:=((uH HA).all (uH hB)).c1;have y2:=((uH HA).all (uH hB)).c2
        have d2:=cell_keep hcell (uH hB)
        obtain ⟨v3,w3,run3,own3,bel3,_,_⟩:=(uH hO).push u hu (by rw [fsL_len];have:=place_lt hpr hki;have:=uH HNN;omega) (uH hB).size 22
        have RUN:=hide run3
        have O3:=hide (show OwnB wb.heap.size w3 v3 (fsL F (p * i+(k+1))) from by rw [← Nat.add_assoc,fsL_succ,eo];exact own3)
        have B3:=hide ((uH hB).trans bel3)
        clear run3 own3 bel3 hO hB hc d0 hnv hg1 hg2 eo hcell hpp hq hx hxn hbw hbw2
        go_wp2_with (at_builtin;refine wpList_append_ran _ rfl _ _ 22 rfl _ _ _ _ rfl rfl (uH RUN) ?_;clear RUN)
        go_round
        case rel=>exact ⟨k+1,by omega,by go_num,O3,B3⟩
        case measure=>first | (simp [intOf];done) | (simp [intOf];omega)
       ·have hkk:k = i:=by omega
        subst hkk
        have hO2:=hide (show OwnB wb.heap.size wr u9 (fsL F ((p+1) * k)) from by rw [Nat.add_mul,Nat.one_mul];exact uH hO)
        clear hO
        go_wp2_with fail
        go_round
        case rel=>exact ⟨p+1,by omega,by go_num,hO2,hB⟩
        case measure=>first | (simp [intOf];done) | (simp [intOf];omega)
     ·have hpp:p = r:=by omega
      subst hpp
      obtain ⟨b1,d1,e1,q1⟩:=(uH hO).bits
      rw [fsL_len] at e1
      subst e1
      have HNew:=hide ((uH hO).newB.least (uH HW).size)
      have hX:=(uH HX).all (uH hB)
      have hBw:=(uH HW).trans ((uH hB).mono (uH HW).size)
      have y0:=((uH HA).all (uH hB)).c0
      obtain ⟨M2,hM2⟩:∃ M2,p * i = M2:=⟨_,rfl⟩
      have HM2:=hide hM2
      rw [hM2] at q1 ⊢
      have s0:=hX.c0;have s1:=hX.c1;have s2:=hX.c2
      have f0:=hX.free 0;have f1:=hX.free 1;have f2:=hX.free 2
      have XP:=hX.put (.int .i64 (p:Nat)) (.int .i64 (i:Nat)) (.slice b1 M2 d1)
      have z0:=XP.c0;have z1:=XP.c1;have z2:=XP.c2
      have QP:=hide (BitsAt.putM q1 hX (.int .i64 (p:Nat)) (.int .i64 (i:Nat)) (.slice b1 M2 d1))
      have BP:=hide (below_putM hBw (b:=w.heap.size+1) (by omega) (.int .i64 (p:Nat)) (.int .i64 (i:Nat)) (.slice b1 M2 d1))
      clear q1 hO hX hB XP hBw hM2
      go_wp2_with fail
      exact bodyPost_ret (v:=.tuple #[.agg #[.int .i64 p,.int .i64 i,.slice b1 M2 d1],.int .i64 0]) (by simp [results,Tryz.results17,go_sem,z0,z1,z2]) rfl ⟨uH POST _ _ (.inr (.inr ⟨uH hG,by omega,_,rfl,⟨b1,d1,by rw [fsL_len,uH HM2],uH HNew,by rw [uH HM2];exact uH QP⟩⟩)),uH BP⟩
end Go.Proofs.YtnnfjeieennffaaGreatDoor
namespace Go.Proofs.YtnnfjeieennffaaGreatDoor
open Go.RowKit
theorem natL_mxL16 (L:List Nat):natL (mxL L) = L:=by
 unfold natL mxL
 rw [List.map_map]
 have e:(Int.toNat ∘ fun x:Nat=>(x:Int)) = id:=by
  funext x
  exact Int.toNat_natCast x
 rw [e,List.map_id]
theorem pivotTolds_walk (r c:Int) (ao:Option Addr) (cap:Nat) (J:List Int) (po:Option Addr) (pc:Nat) (I:List Int) (w:World) (hJ:BitsAt w ao cap J) (hl:J.length≤17592186043904) (_hr:-9223372036854775808≤r∧r≤9223372036854775807) (_hc:-9223372036854775808≤c∧c≤9223372036854775807) (hI:IntsAt w po pc I) (hml:I.length≤35184372088830) (hT:Tab w) :
  Calls Tryz.prog 4 #[.agg #[.int .i64 r,.int .i64 c,.slice ao J.length cap],.slice po I.length pc] w fun e w'=>e = .returned (.bool true)∧Below w.heap.size w w':=by
 refine pivotTolds_by r c ao cap J po pc I w hJ hl hI hml (fun w' hb h=>pTold_err r c ao cap J w' (hJ.below hb) hl h) (fun w' ao cap r c S hb h hf=>pTold_any r c cap ao S w' h hf (hT.all hb)) (fun w' hb hbad=>?_) (fun w' hb hok hg h6=>?_) (fun w' ao cap r c S lo lc L hb h hL h6 hg=>?_) (pivot_awake_any w hT)
 ·cases hok:okB r c J.length
  ·exact pcols_form r c ao J.length cap po I.length pc w' (by omega) hok
  ·have hbad2:∃ j,j < I.length∧¬ (0≤atI I j∧atI I j < c):=by
    rcases hbad with e | e
    ·rw [hok] at e;cases e
    ·exact e
   obtain ⟨p,q,rfl,rfl,hM,hS⟩:=Mx.of hJ hok
   have e1:=natL_len J
   have:=pcols_any p q cap pc ao po (natL J) I w' (hM.below hb) (hI.below hb) hml
   rw [e1] at this
   refine this.mono ?_
   rintro e w'' ⟨h,hb2⟩
   obtain ⟨j,hj,hn⟩:=hbad2
   rcases h with ⟨_,v,rfl,hv⟩ | ⟨hg,_⟩ | ⟨hg,_⟩
   ·exact ⟨v,rfl,hv,hb2⟩
   ·exact absurd (hg j hj) hn
   ·exact absurd (hg j hj) hn
 ·obtain ⟨p,q,rfl,rfl,hM,hS⟩:=Mx.of hJ hok
  have e1:=natL_len J
  have:=pcols_any p q cap pc ao po (natL J) I w' (hM.below hb) (hI.below hb) hml
  rw [e1] at this
  refine this.mono ?_
  rintro e w'' ⟨h,hb2⟩
  rcases h with ⟨⟨j,hj,hn⟩,_⟩ | ⟨_,_,v,rfl,hv⟩ | ⟨_,h6',_⟩
  ·exact absurd (hg j hj) hn
  ·exact ⟨v,rfl,hv,hb2⟩
  ·omega
 ·have:=pcols_any r c cap lc ao lo S (mxL L) w' h hL (by rw [mxL_len];omega)
  rw [mxL_len] at this
  refine this.mono ?_
  rintro e w'' ⟨h,hb2⟩
  unfold ClAns at h
  rw [mxL_len,natL_mxL16] at h
  rcases h with ⟨⟨j,hj,hn⟩,_⟩ | ⟨_,h6',_⟩ | ⟨_,_,v,rfl,hv⟩
  ·refine absurd ?_ hn
   have:=hg j hj
   unfold atI
   rw [mxL_int L hj]
   omega
  ·omega
  ·exact ⟨v,rfl,hv,hb2⟩
end Go.Proofs.YtnnfjeieennffaaGreatDoor
namespace Go.Proofs.YtnnfjeieennffaaGreatDoor
open Go.ChangeShapes Go.WideShapes Go.ChangeAt Go.RowKit Go.Joins
theorem Tryz.own:ownKnob Tryz.prog.godebug = none:=by kernel_rfl
theorem Tryz.laidOut:laidOutB Tryz.prog = true:=by kernel_rfl
end Go.Proofs.YtnnfjeieennffaaGreatDoor
namespace Go.Proofs.YtnnfjeieennffaaGreatDoor
theorem bounds_of_i64 {x:Int} (h:(Lit.int .i64 x).wf = true):-9223372036854775808≤x∧x≤9223372036854775807:=by
 simp [Lit.wf,IntKind.min,IntKind.max,IntKind.signed,IntKind.bits] at h
 omega
end Go.Proofs.YtnnfjeieennffaaGreatDoor
