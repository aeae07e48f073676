/- Part 38 of the texts. -/
import Derived.Test.YtfkndkaneffgdaaGreatDoorPartB36
import Derived.Test.YtfkndkaneffgdaaGreatDoorPartB09
import Derived.Lib.BitFns
import Derived.Test.YtfkndkaneffgdaaGreatDoorPartB33
import Derived.Test.YtfkndkaneffgdaaGreatDoorPartB08
import Derived.Test.YtfkndkaneffgdaaGreatDoorPartB05
import Derived.Maps.AppendAt
import Derived.Test.YtfkndkaneffgdaaGreatDoorPartB07
import Derived.Test.YtfkndkaneffgdaaGreatDoorPartB10
import Derived.Test.YtfkndkaneffgdaaGreatDoorPartB01
import Derived.OwnWalk
import Derived.Test.YtfkndkaneffgdaaGreatDoorPartB02
import Derived.Maps.Own
import Derived.Maps.OwnOps
import Derived.Maps.OwnSet
import Derived.DeepKeys4
import Derived.WalkSmall
import Derived.Deep.RegionHeld3
import Derived.Deep.AppendLies
import Derived.Test.YtfkndkaneffgdaaGreatDoorPartB35
import Derived.Test.YtfkndkaneffgdaaGreatDoorPartB31
import Derived.Test.YtfkndkaneffgdaaGreatDoorPartB16
import Derived.Test.YtfkndkaneffgdaaGreatDoorPartB17
import Derived.Test.YtfkndkaneffgdaaGreatDoorPartB18
import Derived.Deep.Cut
import Derived.BigQuiet
import Derived.Test.YtfkndkaneffgdaaGreatDoorPartB32
namespace Go.Proofs.YtfkndkaneffgdaaGreatDoor
open Go.RowKit
attribute [local go_sem ↓] Go.wp_at_zero Go.wp_at_succ
theorem OwnMs.slice {base:Nat} {w:World} {v:Value} {R:List Mr} (h:OwnMs base w v R):∃ lo lc,v = .slice lo R.length lc:=by
 rcases h.1.2 with ⟨e1,e2⟩ | ⟨g,cap,cur,hv,_⟩
 ·exact ⟨none,0,by rw [e1,e2]⟩
 ·exact ⟨_,_,hv⟩
theorem mrAt_snoc (R:List Mr) (x:Mr):∀ k,k < R.length+1→mrAt (R ++ [x]) k = if k < R.length then mrAt R k else x:=by
 intro k hk
 unfold mrAt
 by_cases g:k < R.length
 ·rw [if_pos g,List.getElem?_append_left g]
 ·rw [if_neg g,show k = R.length by omega,List.getElem?_append_right (Nat.le_refl _)]
  simp
set_option maxRecDepth 20000 in
set_option maxHeartbeats 32000000 in
theorem rfactor_of (r c n nq cap K:Nat) (ao:Option Addr) (RJ AP X V QT:Nat→List Nat) (tau beta:Nat→Nat) (o1 o2:Nat→Bool) (fq fr ok:Bool) (w:World) (hr:r≤6) (hc:c≤6) (hK:∀ j:Nat,j < K ↔ ((j:Int) < (c:Int)∧(j:Int) < (r:Int) - 1))
  (h0:BitsAt w ao cap (mxL (RJ 0))) (lR:∀ j,(RJ j).length = n) (lV:∀ j,(V j).length = r - j)
  (hok:ok = true ↔ ((∀ j,j < K→o1 j = true∧o2 j = true)∧fq = true∧fr = true))
  (C1:∀ w' j po pc,j < K→BitsAt w' po pc (mxL (RJ j))→Calls Tryz.prog 26 #[.agg #[.int .i64 r,.int .i64 c,.slice po n pc],.int .i64 (j:Nat),.int .i64 (j:Nat)] w' fun e w''=>∃ bo d,e = .returned (.slice bo (r - j) d)∧BitsAt w'' bo d (mxL (X j))∧Below w'.heap.size w' w'')
  (C2:∀ w' j bo d,j < K→BitsAt w' bo d (mxL (X j))→Calls Tryz.prog 25 #[.slice bo (r - j) d] w' fun e w''=>e = .returned (.bool (o1 j))∧Below w'.heap.size w' w'')
  (C3:∀ w' j bo d,j < K→o2 j = true→BitsAt w' bo d (mxL (X j))→Calls Tryz.prog 27 #[.slice bo (r - j) d] w' fun e w''=>∃ vo vc,e = .returned (.tuple #[.agg #[.slice vo (r - j) vc,.int .u64 (tau j:Nat),.int .u64 (beta j:Nat)],.bool true])∧NewB w'.heap.size vo (mxL (V j))∧BitsAt w'' vo vc (mxL (V j))∧Below w'.heap.size w' w'')
  (C4:∀ w' j bo d,j < K→o2 j = false→BitsAt w' bo d (mxL (X j))→Calls Tryz.prog 27 #[.slice bo (r - j) d] w' fun e w''=>e = .returned (.tuple #[.agg #[.slice none 0 0,.int .u64 0,.int .u64 0],.bool false])∧Below w'.heap.size w' w'')
  (C5:∀ w' j po pc vo vc,j < K→BitsAt w' po pc (mxL (RJ j))→BitsAt w' vo vc (mxL (V j))→Calls Tryz.prog 29 #[.agg #[.int .i64 r,.int .i64 c,.slice po n pc],.int .i64 (j:Nat),.int .i64 (j:Nat),.slice vo (r - j) vc,.int .u64 (tau j:Nat)] w' fun e w''=>∃ qo qc,e = .returned (.agg #[.int .i64 r,.int .i64 c,.slice qo n qc])∧BitsAt w'' qo qc (mxL (AP j))∧Below w'.heap.size w' w'')
  (C6:∀ w' j po pc,j < K→BitsAt w' po pc (mxL (AP j))→Calls Tryz.prog 28 #[.agg #[.int .i64 r,.int .i64 c,.slice po n pc],.int .i64 (j:Nat),.int .u64 (beta j:Nat)] w' fun e w''=>∃ qo qc,e = .returned (.agg #[.int .i64 r,.int .i64 c,.slice qo n qc])∧NewB w'.heap.size qo (mxL (RJ (j+1)))∧BitsAt w'' qo qc (mxL (RJ (j+1)))∧Below w'.heap.size w' w'')
  (C7:∀ w',Calls Tryz.prog 30 #[.int .i64 r] w' fun e w''=>∃ qo qc,e = .returned (.agg #[.int .i64 r,.int .i64 r,.slice qo nq qc])∧BitsAt w'' qo qc (mxL (QT 0))∧Below w'.heap.size w' w'')
  (C8:∀ w' t j po pc vo vc,t < K→j = K - 1 - t→BitsAt w' po pc (mxL (QT t))→BitsAt w' vo vc (mxL (V j))→Calls Tryz.prog 29 #[.agg #[.int .i64 r,.int .i64 r,.slice po nq pc],.int .i64 (j:Nat),.int .i64 0,.slice vo (r - j) vc,.int .u64 (tau j:Nat)] w' fun e w''=>∃ qo qc,e = .returned (.agg #[.int .i64 r,.int .i64 r,.slice qo nq qc])∧BitsAt w'' qo qc (mxL (QT (t+1)))∧Below w'.heap.size w' w'')
  (C9:∀ w' po pc,BitsAt w' po pc (mxL (QT K))→Calls Tryz.prog 25 #[.slice po nq pc] w' fun e w''=>e = .returned (.bool fq)∧Below w'.heap.size w' w'')
  (CA:∀ w' po pc,BitsAt w' po pc (mxL (RJ K))→Calls Tryz.prog 25 #[.slice po n pc] w' fun e w''=>e = .returned (.bool fr)∧Below w'.heap.size w' w'') :
  Calls Tryz.prog 12 #[.agg #[.int .i64 r,.int .i64 c,.slice ao n cap]] w fun e w'=>FacAns w' ok r c nq n (QT K) (RJ K) e∧Below w.heap.size w w':=by
 have ST:=hide (RfSt.start w r c n cap ao (RJ 0) h0 (lR 0))
 have HK:=hide hK;have LR:=hide lR;have LV:=hide lV;have HOK:=hide hok
 have K1:=hide C1;have K2:=hide C2;have K3:=hide C3;have K4:=hide C4;have K5:=hide C5;have K6:=hide C6;have K7:=hide C7;have K8:=hide C8;have K9:=hide C9;have KA:=hide CA
 have hK5:K≤5:=by
  rcases Nat.lt_or_ge 5 K with g | g
  ·have:=((hK 5).1 g).2
   omega
  ·exact g
 have hw1:IntKind.i64.wrap ((r:Int) - 1) = (r:Int) - 1:=wrap_in _ (by omega)
 clear hK lR lV hok C1 C2 C3 C4 C5 C6 C7 C8 C9 CA h0
 have y0:=(uH ST).a.c0;have y1:=(uH ST).a.c1;have y2:=(uH ST).a.c2
 go_enter Tryz.func12,Tryz.ntmps12
 go_wp2_with fail
 clear y0 y1 y2
 go_loopw [4,5] (fun v a wr=>∃ (j:Nat) (ro:Option Addr) (rc:Nat) (R:List Mr),j≤K∧a = .int .i64 j∧Hid (R.length = j)∧Hid (∀ k,k < j→(mrAt R k).V = V k∧(mrAt R k).tau = tau k)∧Hid (∀ k,k < j→o1 k = true∧o2 k = true)∧Hid (RfSt w wr r c n cap ao (RJ j) ro rc v R)) (fun _ a _=>K - (intOf a).toNat)
 case atStart=>exact ⟨0,ao,cap,[],Nat.zero_le _,rfl,rfl,fun k hk=>absurd hk (Nat.not_lt_zero k),fun k hk=>absurd hk (Nat.not_lt_zero k),ST⟩
 case round =>
  clear ST
  obtain ⟨j,ro,rc,R,hjK,rfl,hRl,hRm,hO,hS⟩:=hrel
  have y0:=(uH hS).a.c0;have y1:=(uH hS).a.c1;have y2:=(uH hS).a.c2
  by_cases hlt:j < K
  ·obtain ⟨hjc,hjr⟩:=(uH HK j).1 hlt
   have q0:=(uH hS).rb.c0;have q1:=(uH hS).rb.c1;have q2:=(uH hS).rb.c2
   go_wp2_with fail
   clear y0 y1 y2 q0 q1 q2
   refine (uH K1 _ j _ _ hlt (uH hS).bits).mono ?_
   rintro e w1 ⟨bo,d,rfl,hx,hb⟩
   have S1:=hide ((uH hS).all hb)
   have HX:=hide hx
   clear hb hS hx
   go_wp2_with fail
   refine (uH K2 _ j _ _ hlt (uH HX)).mono ?_
   rintro e w2 ⟨rfl,hb⟩
   have S2:=hide ((uH S1).all hb)
   replace HX:=hide ((uH HX).below hb)
   clear hb S1
   cases h1:o1 j with
   | false =>
    clear HX
    have X1:=(uH S2).res
    have r0:=X1.c0;have r1:=X1.c1;have r2:=X1.c2;have r3:=X1.c3;have r4:=X1.c4;have r5:=X1.c5;have r6:=X1.c6
    have f0:=X1.free 0;have f1:=X1.free 1;have f2:=X1.free 2;have f3:=X1.free 3;have f4:=X1.free 4;have f5:=X1.free 5;have f6:=X1.free 6
    have XP:=X1.put (.int .i64 0) (.int .i64 0) (.slice none 0 0) (.int .i64 0) (.int .i64 0) (.slice none 0 0) (.bool false)
    have z0:=XP.c0;have z1:=XP.c1;have z2:=XP.c2;have z3:=XP.c3;have z4:=XP.c4;have z5:=XP.c5;have z6:=XP.c6
    have BP:=hide (below_putW (uH S2).bel (g:=w.heap.size+1) (by omega) (.int .i64 0) (.int .i64 0) (.slice none 0 0) (.int .i64 0) (.int .i64 0) (.slice none 0 0) (.bool false))
    have hno:Hid (ok = false):=hide (by
     cases hk:ok with
     | false=>rfl
     | true=>exact absurd ((uH HOK).1 hk) (fun q=>by have:=(q.1 j hlt).1;rw [h1] at this;cases this))
    clear X1 XP S2
    go_wp2_with fail
    exact bodyPost_ret (v:=.agg #[.int .i64 0,.int .i64 0,.slice none 0 0,.int .i64 0,.int .i64 0,.slice none 0 0,.bool false]) (by simp [results,Tryz.results12,go_sem,z0,z1,z2,z3,z4,z5,z6]) rfl ⟨.inr ⟨uH hno,rfl⟩,uH BP⟩
   | true =>
    go_wp2_with fail
    cases h2:o2 j with
    | false =>
     refine (uH K4 _ j _ _ hlt h2 (uH HX)).mono ?_
     rintro e w3 ⟨rfl,hb⟩
     have S3:=hide (((uH S2).all hb).all (below_alloc9 w3 (.cells #[.slice none 0 0,.int .u64 0,.int .u64 0] 51)))
     clear hb S2 HX
     have X1:=(uH S3).res
     have r0:=X1.c0;have r1:=X1.c1;have r2:=X1.c2;have r3:=X1.c3;have r4:=X1.c4;have r5:=X1.c5;have r6:=X1.c6
     have f0:=X1.free 0;have f1:=X1.free 1;have f2:=X1.free 2;have f3:=X1.free 3;have f4:=X1.free 4;have f5:=X1.free 5;have f6:=X1.free 6
     have XP:=X1.put (.int .i64 0) (.int .i64 0) (.slice none 0 0) (.int .i64 0) (.int .i64 0) (.slice none 0 0) (.bool false)
     have z0:=XP.c0;have z1:=XP.c1;have z2:=XP.c2;have z3:=XP.c3;have z4:=XP.c4;have z5:=XP.c5;have z6:=XP.c6
     have BP:=hide (below_putW (uH S3).bel (g:=w.heap.size+1) (by omega) (.int .i64 0) (.int .i64 0) (.slice none 0 0) (.int .i64 0) (.int .i64 0) (.slice none 0 0) (.bool false))
     have hno:Hid (ok = false):=hide (by
      cases hk:ok with
      | false=>rfl
      | true=>exact absurd ((uH HOK).1 hk) (fun q=>by have:=(q.1 j hlt).2;rw [h2] at this;cases this))
     clear X1 XP S3
     go_wp2_with fail
     exact bodyPost_ret (v:=.agg #[.int .i64 0,.int .i64 0,.slice none 0 0,.int .i64 0,.int .i64 0,.slice none 0 0,.bool false]) (by simp [results,Tryz.results12,go_sem,z0,z1,z2,z3,z4,z5,z6]) rfl ⟨.inr ⟨uH hno,rfl⟩,uH BP⟩
    | true =>
     refine (uH K3 _ j _ _ hlt h2 (uH HX)).mono ?_
     rintro e w3 ⟨vo,vc,rfl,hn,hv,hb⟩
     have ba:=below_alloc9 w3 (.cells #[.slice vo (r - j) vc,.int .u64 (tau j:Nat),.int .u64 (beta j:Nat)] 51)
     have HM:=hide (BoxT.new 51 w3 (.slice vo (r - j) vc) (.int .u64 (tau j:Nat)) (.int .u64 (beta j:Nat)))
     have HF:=hide (OffB.new hn (fun k hk=>((uH S2).l.1.lt k hk).2))
     have S3:=hide (((uH S2).all hb).all ba)
     have HV:=hide (hv.below ba)
     have HGM:=hide (show w.heap.size+1+1+1≤w3.heap.size from Nat.lt_of_lt_of_le (uH S2).rb.lt hb.size)
     clear hb hn hv ba S2 HX
     have G5:=hide (fun w' po pc vo vc hp hv=>uH K5 w' j po pc vo vc hlt hp hv)
     have G6:=hide (fun w' po pc hp=>uH K6 w' j po pc hlt hp)
     have LV1:=hide (uH LV j);have LR1:=hide (uH LR (j+1))
     have HT:=hide (show tau j = tau j from rfl)
     generalize hTJ:tau j = tj at *
     generalize hBJ:beta j = bj at *
     generalize hVJ:V j = vj at *
     generalize hAJ:AP j = aj at *
     generalize hNJ:RJ (j+1) = nj at *
     generalize hRJ:RJ j = rj at *
     go_wp2_with fail
     refine at_world (fun W=>RfSt w W r c n cap ao rj ro rc _ R∧BoxT 51 W w3.heap.size (.slice vo (r - j) vc) (.int .u64 (tj:Nat)) (.int .u64 (bj:Nat))∧BitsAt W vo vc (mxL vj)) ⟨uH S3,uH HM,uH HV⟩ ?_
     clear S3 HM HV
     generalize w3.heap.size = gm at *
     rintro W ⟨st,sm,sv⟩
     have hd:=(Below.refl W.heap.size W).drew
     have ST:=hide (st.all hd)
     have SM:=hide (sm.all hd)
     have SV:=hide (sv.below hd)
     clear st sm sv hd
     have q0:=(uH ST).rb.c0;have q1:=(uH ST).rb.c1;have q2:=(uH ST).rb.c2
     have m0:=(uH SM).c0;have m1:=(uH SM).c1;have m2:=(uH SM).c2
     go_region_with (first
      | (go_at_call 29;refine (uH G5 _ _ _ _ _ (uH ST).bits (uH SV)).mono ?_;rintro e w5 ⟨qo5,qc5,rfl,hq5,hb⟩;clear q0 q1 q2 m0 m1 m2;replace ST:=hide ((uH ST).all hb);replace SM:=hide ((uH SM).all hb);replace SV:=hide ((uH SV).below hb);have m0:=(uH SM).c0;have m1:=(uH SM).c1;have m2:=(uH SM).c2;have HQ5:=hide hq5;clear hb hq5 G5)
      | (go_at_call 28;refine (uH G6 _ _ _ (uH HQ5)).mono ?_;rintro e w6 ⟨qo6,qc6,rfl,hn6,hq6,hb⟩;clear m0 m1 m2 HQ5;have HF6:=OffB.new hn6 (fun k hk=>((uH ST).l.1.lt k hk).2);have S6:=(uH ST).all hb;have M6:=(uH SM).all hb;have V6:=(uH SV).below hb;have q0:=S6.rb.c0;have q1:=S6.rb.c1;have q2:=S6.rb.c2;have f0:=S6.rb.free 0;have f1:=S6.rb.free 1;have f2:=S6.rb.free 2;have P6:=hide (S6.put hq6 (uH LR1) HF6);have PM:=hide (((M6.other (p:=⟨w.heap.size+1+1,0,none⟩) (by have:=uH HGM;show gm ≠ w.heap.size+1+1;omega) (.int .i64 r)).other (p:=⟨w.heap.size+1+1,1,none⟩) (by have:=uH HGM;show gm ≠ w.heap.size+1+1;omega) (.int .i64 c)).other (p:=⟨w.heap.size+1+1,2,none⟩) (by have:=uH HGM;show gm ≠ w.heap.size+1+1;omega) (.slice qo6 n qc6));have PV:=hide (V6.putM S6.rb (.int .i64 r) (.int .i64 c) (.slice qo6 n qc6));clear S6 M6 V6 hb hn6 hq6 HF6 ST SM SV G6)
      | fail "NO ARM")
     all_goals
      clear q0 q1 q2 f0 f1 f2
      refine at_then14 (fun W=>RfSt w W r c n cap ao nj qo6 qc6 _ R∧BoxT 51 W gm (.slice vo (r - j) vc) (.int .u64 (tj:Nat)) (.int .u64 (bj:Nat))∧BitsAt W vo vc (mxL vj)) ⟨uH P6,uH PM,uH PV⟩ ?_
      clear P6 PM PV
      rintro W2 ⟨st,sm,sv⟩
      obtain ⟨v9,w9,run9,st9⟩:=st.push ⟨vo,vc,vj,tj,bj⟩ sv (uH HF) (by rw [uH hRl];omega) 48
      have RUN:=hide run9
      dsimp only at RUN
      rw [uH LV1] at RUN
      have P9:=hide st9
      have m0:=sm.c0;have m1:=sm.c1;have m2:=sm.c2
      clear st sm sv run9 st9
      go_wp2_with (at_builtin;refine wpList_append_ran _ rfl _ _ 48 rfl _ _ _ _ rfl rfl (uH RUN) ?_;clear RUN)
      go_round
      case rel =>
       refine ⟨j+1,qo6,qc6,R ++ [⟨vo,vc,vj,tj,bj⟩],by omega,by go_num,?_,?_,?_,by rw [hNJ];exact P9⟩
       ·show (R ++ [_]).length = j+1
        rw [List.length_append,uH hRl];rfl
       ·show ∀ k,k < j+1→_
        intro k hk
        rw [mrAt_snoc R _ k (by rw [uH hRl];exact hk)]
        by_cases g:k < R.length
        ·rw [if_pos g];exact uH hRm k (by rw [← uH hRl];exact g)
        ·rw [if_neg g,show k = j by have:=uH hRl;omega,hVJ,hTJ];exact ⟨rfl,rfl⟩
       ·show ∀ k,k < j+1→_
        intro k hk
        by_cases g:k < j
        ·exact uH hO k g
        ·rw [show k = j by omega];exact ⟨h1,h2⟩
      case measure=>simp [intOf];omega
  ·have hjj:j = K:=by omega
   subst hjj
   have hend:¬ ((j:Int) < (c:Int)∧(j:Int) < (r:Int) - 1):=fun q=>Nat.lt_irrefl j ((uH HK j).2 q)
   obtain ⟨lo,lc,hvl⟩:=(uH hS).l.slice
   rw [uH hRl] at hvl
   subst hvl
   have G8:=K8
   rcases (show (c:Int)≤(j:Int) ∨ ((j:Int) < (c:Int)∧(r:Int) - 1≤(j:Int)) by omega) with g1 | ⟨g1,g2⟩
   all_goals
    go_wp2_with fail
    clear y0 y1 y2
    refine (uH K7 _).mono ?_
    rintro e w1 ⟨qo,qc,rfl,hq,hb⟩
    have ba:=below_alloc9 w1 (.cells #[.int .i64 r,.int .i64 r,.slice qo nq qc] 24)
    have HQ:=hide (BoxM.new w1 (.int .i64 r) (.int .i64 r) (.slice qo nq qc))
    have S1:=hide (((uH hS).all hb).all ba)
    have HB:=hide (hq.below ba)
    have HGQ:=hide (show w.heap.size+1+1+1≤w1.heap.size from Nat.lt_of_lt_of_le (uH hS).rb.lt hb.size)
    clear hb hq ba hS
    have hw2:IntKind.i64.wrap ((j:Int) - 1) = (j:Int) - 1:=wrap_in _ (by omega)
    go_wp2_with fail
    generalize w1.heap.size = gq at *
    go_loopw [10] (fun a wr=>∃ (t:Nat) (qo:Option Addr) (qc:Nat),t≤j∧a = .int .i64 ((j:Int) - 1 - (t:Int))∧Hid (RfSt w wr r c n cap ao (RJ j) ro rc (.slice lo j lc) R∧BoxM wr gq (.int .i64 r) (.int .i64 r) (.slice qo nq qc)∧BitsAt wr qo qc (mxL (QT t)))) (fun a _=>(intOf a+1).toNat)
    case atStart=>exact ⟨0,qo,qc,Nat.zero_le _,by simp,hide ⟨uH S1,uH HQ,uH HB⟩⟩
    case round =>
     clear S1 HQ HB
     obtain ⟨t,qo,qc,htj,rfl,hS⟩:=hrel
     by_cases hlt2:t < j
     ·obtain ⟨m,hm⟩:∃ m,j - 1 - t = m:=⟨_,rfl⟩
      have hmI:(j:Int) - 1 - (t:Int) = (m:Int):=by omega
      rw [hmI]
      have hmj:(m:Int) < (j:Int):=by omega
      obtain ⟨gl,cl,el,gl1,gl2,k0,k1,kb⟩:=(uH hS).1.l.at (k:=m) (by rw [uH hRl];omega)
      simp only [Value.slice.injEq] at el
      obtain ⟨rfl,hjR,rfl⟩:=el
      clear hjR
      obtain ⟨ev,et⟩:=uH hRm m (by omega)
      rw [ev] at k0 kb
      rw [et] at k1
      rw [uH LV m] at k0
      have GQ:=hide (fun w' po pc vo vc hp hv=>uH G8 w' t m po pc vo vc hlt2 hm.symm hp hv)
      have KB:=hide kb
      have EMT:=hide hm
      generalize (mrAt R m).ao = vo at *
      generalize (mrAt R m).cap = vc at *
      generalize tau m = tm at *
      generalize V m = vm at *
      generalize hNT:QT (t+1) = nt at *
      clear kb ev et
      go_wp2_with fail
      refine at_world (fun W=>(RfSt w W r c n cap ao (RJ j) ro rc (.slice (some ⟨gl,0,none⟩) j lc) R∧BoxM W gq (.int .i64 r) (.int .i64 r) (.slice qo nq qc)∧BitsAt W qo qc (mxL (QT t)))∧(W.cell? ⟨gl,m * 3,none⟩ = some (.slice vo (r - m) vc)∧W.cell? ⟨gl,m * 3+1,none⟩ = some (.int .u64 (tm:Nat)))∧BitsAt W vo vc (mxL vm)) ⟨uH hS,⟨k0,k1⟩,uH KB⟩ ?_
      clear hS k0 k1 KB
      rintro W ⟨⟨st,sq,sb⟩,⟨k0,k1⟩,kb⟩
      have hd:=(Below.refl W.heap.size W).drew
      have ST:=hide (st.all hd);have SQ:=hide (sq.all hd);have SB:=hide (sb.below hd);have KB:=hide (kb.below hd)
      replace k0:=cell_keep k0 hd
      replace k1:=cell_keep k1 hd
      clear st sq sb kb hd
      have q0:=(uH SQ).c0;have q1:=(uH SQ).c1;have q2:=(uH SQ).c2
      refine wp_region_held_drew (S:=(fun w'=>w'.cell? ⟨gl,m * 3,none⟩ = some (.slice vo (r - m) vc)∧w'.cell? ⟨gl,m * 3+1,none⟩ = some (.int .u64 (tm:Nat)))) (by kernel_rfl) ?_ (fun hHeld=>?_)
      ·exact ⟨k0,k1⟩
      refine wpAnyH_take (i:=1) (oi:={ dst:=some 69,op:=Op.move (Operand.tmp 10),type:=3,pos := "ref.go:44",after:=#[],guard:=none }) (v:=(Value.int .i64 (m:Int))) rfl (by kernel_rfl) (by kernel_rfl) (by kernel_rfl) (fun _ _ _ h=>h) (Or.inl ⟨by rfl,?_⟩) (by assumption) ?_
      ·(intro w hSw;(try dsimp only at hSw);go_simp)
      simp only [Act.put,List.setIfInBounds_toArray,List.set_cons_zero,List.set_cons_succ]
      refine wpAnyH_take (i:=2) (oi:={ dst:=some 70,op:=Op.move (Operand.tmp 4),type:=48,pos := "ref.go:44",after:=#[],guard:=none }) (v:=(Value.slice (some ⟨gl,0,none⟩) j lc)) rfl (by kernel_rfl) (by kernel_rfl) (by kernel_rfl) (fun _ _ _ h=>h) (Or.inl ⟨by rfl,?_⟩) (by assumption) ?_
      ·(intro w hSw;(try dsimp only at hSw);go_simp)
      simp only [Act.put,List.setIfInBounds_toArray,List.set_cons_zero,List.set_cons_succ]
      refine wpAnyH_take (i:=3) (oi:={ dst:=some 71,op:=Op.move (Operand.tmp 10),type:=3,pos := "ref.go:44",after:=#[],guard:=none }) (v:=(Value.int .i64 (m:Int))) rfl (by kernel_rfl) (by kernel_rfl) (by kernel_rfl) (fun _ _ _ h=>h) (Or.inl ⟨by rfl,?_⟩) (by assumption) ?_
      ·(intro w hSw;(try dsimp only at hSw);go_simp)
      simp only [Act.put,List.setIfInBounds_toArray,List.set_cons_zero,List.set_cons_succ]
      refine wpAnyH_take (i:=4) (oi:={ dst:=some 72,op:=Op.indexAddr 48 (Operand.tmp 70) (Operand.tmp 71),type:=0,pos := "ref.go:44",after:=#[{ on:=2,ground:=Ground.data },{ on:=3,ground:=Ground.data }],guard:=none }) (v:=(Value.pointer (some ⟨gl,m * 3,none⟩))) rfl (by kernel_rfl) (by kernel_rfl) (by kernel_rfl) (fun _ _ _ h=>h) (Or.inl ⟨by rfl,?_⟩) (by assumption) ?_
      ·(intro w hSw;(try dsimp only at hSw);go_simp)
      simp only [Act.put,List.setIfInBounds_toArray,List.set_cons_zero,List.set_cons_succ]
      refine wpAnyH_take (i:=5) (oi:={ dst:=some 73,op:=Op.fieldAddr 51 (Operand.tmp 72) 0,type:=0,pos := "ref.go:44",after:=#[{ on:=4,ground:=Ground.data }],guard:=none }) (v:=(Value.pointer (some ⟨gl,m * 3,none⟩))) rfl (by kernel_rfl) (by kernel_rfl) (by kernel_rfl) (fun _ _ _ h=>h) (Or.inl ⟨by rfl,?_⟩) (by assumption) ?_
      ·(intro w hSw;(try dsimp only at hSw);go_simp)
      simp only [Act.put,List.setIfInBounds_toArray,List.set_cons_zero,List.set_cons_succ]
      refine wpAnyH_take (i:=6) (oi:={ dst:=some 74,op:=Op.load 22 (Operand.tmp 73),type:=22,pos := "ref.go:44",after:=#[{ on:=5,ground:=Ground.data }],guard:=none }) (v:=(Value.slice vo (r - m) vc)) rfl (by kernel_rfl) (by kernel_rfl) (by kernel_rfl) (fun _ _ _ h=>h) (Or.inl ⟨by rfl,?_⟩) (by assumption) ?_
      ·(intro w hSw;(try dsimp only at hSw);go_simp)
      simp only [Act.put,List.setIfInBounds_toArray,List.set_cons_zero,List.set_cons_succ]
      refine wpAnyH_take (i:=7) (oi:={ dst:=some 75,op:=Op.move (Operand.tmp 4),type:=48,pos := "ref.go:44",after:=#[],guard:=none }) (v:=(Value.slice (some ⟨gl,0,none⟩) j lc)) rfl (by kernel_rfl) (by kernel_rfl) (by kernel_rfl) (fun _ _ _ h=>h) (Or.inl ⟨by rfl,?_⟩) (by assumption) ?_
      ·(intro w hSw;(try dsimp only at hSw);go_simp)
      simp only [Act.put,List.setIfInBounds_toArray,List.set_cons_zero,List.set_cons_succ]
      refine wpAnyH_take (i:=8) (oi:={ dst:=some 76,op:=Op.move (Operand.tmp 10),type:=3,pos := "ref.go:44",after:=#[],guard:=none }) (v:=(Value.int .i64 (m:Int))) rfl (by kernel_rfl) (by kernel_rfl) (by kernel_rfl) (fun _ _ _ h=>h) (Or.inl ⟨by rfl,?_⟩) (by assumption) ?_
      ·(intro w hSw;(try dsimp only at hSw);go_simp)
      simp only [Act.put,List.setIfInBounds_toArray,List.set_cons_zero,List.set_cons_succ]
      refine wpAnyH_take (i:=9) (oi:={ dst:=some 77,op:=Op.indexAddr 48 (Operand.tmp 75) (Operand.tmp 76),type:=0,pos := "ref.go:44",after:=#[{ on:=7,ground:=Ground.data },{ on:=8,ground:=Ground.data }],guard:=none }) (v:=(Value.pointer (some ⟨gl,m * 3,none⟩))) rfl (by kernel_rfl) (by kernel_rfl) (by kernel_rfl) (fun _ _ _ h=>h) (Or.inl ⟨by rfl,?_⟩) (by assumption) ?_
      ·(intro w hSw;(try dsimp only at hSw);go_simp)
      simp only [Act.put,List.setIfInBounds_toArray,List.set_cons_zero,List.set_cons_succ]
      refine wpAnyH_take (i:=10) (oi:={ dst:=some 78,op:=Op.fieldAddr 51 (Operand.tmp 77) 1,type:=0,pos := "ref.go:44",after:=#[{ on:=9,ground:=Ground.data }],guard:=none }) (v:=(Value.pointer (some ⟨gl,m * 3+1,none⟩))) rfl (by kernel_rfl) (by kernel_rfl) (by kernel_rfl) (fun _ _ _ h=>h) (Or.inl ⟨by rfl,?_⟩) (by assumption) ?_
      ·(intro w hSw;(try dsimp only at hSw);go_simp)
      simp only [Act.put,List.setIfInBounds_toArray,List.set_cons_zero,List.set_cons_succ]
      refine wpAnyH_take (i:=11) (oi:={ dst:=some 79,op:=Op.load 30 (Operand.tmp 78),type:=30,pos := "ref.go:44",after:=#[{ on:=10,ground:=Ground.data }],guard:=none }) (v:=(Value.int .u64 (tm:Int))) rfl (by kernel_rfl) (by kernel_rfl) (by kernel_rfl) (fun _ _ _ h=>h) (Or.inl ⟨by rfl,?_⟩) (by assumption) ?_
      ·(intro w hSw;(try dsimp only at hSw);go_simp)
      simp only [Act.put,List.setIfInBounds_toArray,List.set_cons_zero,List.set_cons_succ]
      refine wpAnyH_ready (rs:=[0]) (by kernel_rfl) (by simp) ?_
      refine AllReadyH.cons (o:={ dst:=some 68,op:=Op.load 24 (Operand.tmp 9),type:=24,pos := "ref.go:44",after:=#[],guard:=none }) rfl (fun K hK=>?_) AllReadyH.nil
      go_simp
      refine hK.out _ _ ?_ (fun hHeld=>?_)
      ·exact ⟨k0,k1⟩
      clear hK K
      refine wpAnyH_ready (rs:=[12]) (by kernel_rfl) (by simp) ?_
      refine AllReadyH.cons (o:={ dst:=some 80,op:=Op.call { callee:=Callee.value (Operand.func 29),args:=#[Operand.tmp 68,Operand.tmp 69,Operand.const (Value.int IntKind.i64 0),Operand.tmp 74,Operand.tmp 79],argTypes:=#[24,3,3,22,30] },type:=24,pos := "ref.go:44",after:=#[{ on:=0,ground:=Ground.data },{ on:=1,ground:=Ground.data },{ on:=6,ground:=Ground.data },{ on:=11,ground:=Ground.data }],guard:=none }) rfl (fun K hK=>?_) AllReadyH.nil
      go_simp
      refine (uH GQ _ _ _ _ _ (uH SB) (uH KB)).mono ?_
      rintro e w5 ⟨qo5,qc5,rfl,hq5,hb⟩
      clear q0 q1 q2
      have S5:=(uH ST).all hb
      have Q5:=(uH SQ).all hb
      replace k0:=cell_keep k0 hb
      replace k1:=cell_keep k1 hb
      have HS5:=hide (And.intro k0 k1)
      have ha:=S5.l.apart Q5
      have HS6:=hide (And.intro (show (((w5.setCell ⟨gq,0,none⟩ (.int .i64 r)).setCell ⟨gq,1,none⟩ (.int .i64 r)).setCell ⟨gq,2,none⟩ (.slice qo5 nq qc5)).cell? ⟨gl,m * 3,none⟩ = some (.slice vo (r - m) vc) by rw [cell_setCell_other _ _ _ _ ha,cell_setCell_other _ _ _ _ ha,cell_setCell_other _ _ _ _ ha];exact k0) (show (((w5.setCell ⟨gq,0,none⟩ (.int .i64 r)).setCell ⟨gq,1,none⟩ (.int .i64 r)).setCell ⟨gq,2,none⟩ (.slice qo5 nq qc5)).cell? ⟨gl,m * 3+1,none⟩ = some (.int .u64 (tm:Nat)) by rw [cell_setCell_other _ _ _ _ ha,cell_setCell_other _ _ _ _ ha,cell_setCell_other _ _ _ _ ha];exact k1))
      have q0:=Q5.c0;have q1:=Q5.c1;have q2:=Q5.c2
      have f0:=Q5.free 0;have f1:=Q5.free 1;have f2:=Q5.free 2
      have P5:=hide (S5.far Q5 (uH HGQ) (.int .i64 r) (.int .i64 r) (.slice qo5 nq qc5))
      have PQ:=hide (Q5.put (.int .i64 r) (.int .i64 r) (.slice qo5 nq qc5))
      have PB:=hide (hq5.putM Q5 (.int .i64 r) (.int .i64 r) (.slice qo5 nq qc5))
      clear hb hq5 S5 Q5 GQ ST SQ SB KB ha k0 k1
      go_wp2_with fail
      refine hK.out _ _ ?_ (fun hHeld=>?_)
      ·exact uH HS5
      clear hK K
      refine wpAnyH_ready (rs:=[13]) (by kernel_rfl) (by simp) ?_
      refine AllReadyH.cons (o:={ dst:=none,op:=Op.store 24 (Operand.tmp 9) (Operand.tmp 80),type:=0,pos := "ref.go:44",after:=#[{ on:=12,ground:=Ground.data },{ on:=12,ground:=Ground.chain },{ on:=0,ground:=Ground.phase },{ on:=1,ground:=Ground.phase },{ on:=2,ground:=Ground.phase },{ on:=3,ground:=Ground.phase },{ on:=4,ground:=Ground.phase },{ on:=5,ground:=Ground.phase },{ on:=6,ground:=Ground.phase },{ on:=7,ground:=Ground.phase },{ on:=8,ground:=Ground.phase },{ on:=9,ground:=Ground.phase },{ on:=10,ground:=Ground.phase },{ on:=11,ground:=Ground.phase },{ on:=12,ground:=Ground.phase }],guard:=none }) rfl (fun K hK=>?_) AllReadyH.nil
      go_simp
      refine hK.out _ _ ?_ (fun hHeld=>?_)
      ·exact uH HS6
      clear hK K
      refine wpAnyH_done (by kernel_rfl) ?_ _
      clear q0 q1 q2 f0 f1 f2 HS5 HS6
      have hw3:IntKind.i64.wrap ((m:Int) - 1) = (m:Int) - 1:=wrap_in _ (by omega)
      go_wp2_with fail
      go_round
      case rel=>exact ⟨t+1,qo5,qc5,by omega,by rw [show (m:Int) - 1 = (j:Int) - 1 - ((t+1:Nat):Int) by omega],by rw [hNT];exact hide ⟨uH P5,uH PQ,uH PB⟩⟩
      case measure=>simp [intOf] <;> omega
     ·have htt:t = j:=by omega
      subst htt
      have hz:(t:Int) - 1 - (t:Int) = -1:=by omega
      rw [hz]
      have ST:=hide (uH hS).1;have SQ:=hide (uH hS).2.1;have SB:=hide (uH hS).2.2
      clear hS
      have q0:=(uH SQ).c0;have q1:=(uH SQ).c1;have q2:=(uH SQ).c2
      go_wp2_with fail
      clear q0 q1 q2
      refine (uH K9 _ _ _ (uH SB)).mono ?_
      rintro e w2 ⟨rfl,hb⟩
      replace ST:=hide ((uH ST).all hb);replace SQ:=hide ((uH SQ).all hb);replace SB:=hide ((uH SB).below hb)
      clear hb
      cases h1:fq with
      | false =>
       clear SQ SB
       have X1:=(uH ST).res
       have r0:=X1.c0;have r1:=X1.c1;have r2:=X1.c2;have r3:=X1.c3;have r4:=X1.c4;have r5:=X1.c5;have r6:=X1.c6
       have f0:=X1.free 0;have f1:=X1.free 1;have f2:=X1.free 2;have f3:=X1.free 3;have f4:=X1.free 4;have f5:=X1.free 5;have f6:=X1.free 6
       have XP:=X1.put (.int .i64 0) (.int .i64 0) (.slice none 0 0) (.int .i64 0) (.int .i64 0) (.slice none 0 0) (.bool false)
       have z0:=XP.c0;have z1:=XP.c1;have z2:=XP.c2;have z3:=XP.c3;have z4:=XP.c4;have z5:=XP.c5;have z6:=XP.c6
       have BP:=hide (below_putW (uH ST).bel (g:=w.heap.size+1) (by omega) (.int .i64 0) (.int .i64 0) (.slice none 0 0) (.int .i64 0) (.int .i64 0) (.slice none 0 0) (.bool false))
       have hno:Hid (ok = false):=hide (by
        cases hk:ok with
        | false=>rfl
        | true=>exact absurd ((uH HOK).1 hk) (fun q=>by have:=q.2.1;rw [h1] at this;cases this))
       clear X1 XP ST
       go_wp2_with fail
       exact bodyPost_ret (v:=.agg #[.int .i64 0,.int .i64 0,.slice none 0 0,.int .i64 0,.int .i64 0,.slice none 0 0,.bool false]) (by simp [results,Tryz.results12,go_sem,z0,z1,z2,z3,z4,z5,z6]) rfl ⟨.inr ⟨uH hno,rfl⟩,uH BP⟩
      | true =>
       have q0:=(uH ST).rb.c0;have q1:=(uH ST).rb.c1;have q2:=(uH ST).rb.c2
       go_wp2_with fail
       clear q0 q1 q2
       refine (uH KA _ _ _ (uH ST).bits).mono ?_
       rintro e w3 ⟨rfl,hb⟩
       replace ST:=hide ((uH ST).all hb);replace SQ:=hide ((uH SQ).all hb);replace SB:=hide ((uH SB).below hb)
       clear hb
       cases h2:fr with
       | false =>
        clear SQ SB
        have X1:=(uH ST).res
        have r0:=X1.c0;have r1:=X1.c1;have r2:=X1.c2;have r3:=X1.c3;have r4:=X1.c4;have r5:=X1.c5;have r6:=X1.c6
        have f0:=X1.free 0;have f1:=X1.free 1;have f2:=X1.free 2;have f3:=X1.free 3;have f4:=X1.free 4;have f5:=X1.free 5;have f6:=X1.free 6
        have XP:=X1.put (.int .i64 0) (.int .i64 0) (.slice none 0 0) (.int .i64 0) (.int .i64 0) (.slice none 0 0) (.bool false)
        have z0:=XP.c0;have z1:=XP.c1;have z2:=XP.c2;have z3:=XP.c3;have z4:=XP.c4;have z5:=XP.c5;have z6:=XP.c6
        have BP:=hide (below_putW (uH ST).bel (g:=w.heap.size+1) (by omega) (.int .i64 0) (.int .i64 0) (.slice none 0 0) (.int .i64 0) (.int .i64 0) (.slice none 0 0) (.bool false))
        have hno:Hid (ok = false):=hide (by
         cases hk:ok with
         | false=>rfl
         | true=>exact absurd ((uH HOK).1 hk) (fun q=>by have:=q.2.2;rw [h2] at this;cases this))
        clear X1 XP ST
        go_wp2_with fail
        exact bodyPost_ret (v:=.agg #[.int .i64 0,.int .i64 0,.slice none 0 0,.int .i64 0,.int .i64 0,.slice none 0 0,.bool false]) (by simp [results,Tryz.results12,go_sem,z0,z1,z2,z3,z4,z5,z6]) rfl ⟨.inr ⟨uH hno,rfl⟩,uH BP⟩
       | true =>
        have hyes:Hid (ok = true):=hide ((uH HOK).2 ⟨uH hO,h1,h2⟩)
        have q0:=(uH SQ).c0;have q1:=(uH SQ).c1;have q2:=(uH SQ).c2
        have p0:=(uH ST).rb.c0;have p1:=(uH ST).rb.c1;have p2:=(uH ST).rb.c2
        have X1:=(uH ST).res
        have r0:=X1.c0;have r1:=X1.c1;have r2:=X1.c2;have r3:=X1.c3;have r4:=X1.c4;have r5:=X1.c5;have r6:=X1.c6
        have f0:=X1.free 0;have f1:=X1.free 1;have f2:=X1.free 2;have f3:=X1.free 3;have f4:=X1.free 4;have f5:=X1.free 5;have f6:=X1.free 6
        have XP:=X1.put (.int .i64 r) (.int .i64 r) (.slice qo nq qc) (.int .i64 r) (.int .i64 c) (.slice ro n rc) (.bool true)
        have z0:=XP.c0;have z1:=XP.c1;have z2:=XP.c2;have z3:=XP.c3;have z4:=XP.c4;have z5:=XP.c5;have z6:=XP.c6
        have BP:=hide (below_putW (uH ST).bel (g:=w.heap.size+1) (by omega) (.int .i64 r) (.int .i64 r) (.slice qo nq qc) (.int .i64 r) (.int .i64 c) (.slice ro n rc) (.bool true))
        have PQ:=hide (bits_putW (uH SB) X1 (.int .i64 r) (.int .i64 r) (.slice qo nq qc) (.int .i64 r) (.int .i64 c) (.slice ro n rc) (.bool true))
        have PR:=hide (bits_putW (uH ST).bits X1 (.int .i64 r) (.int .i64 r) (.slice qo nq qc) (.int .i64 r) (.int .i64 c) (.slice ro n rc) (.bool true))
        clear X1 XP ST SQ SB
        go_wp2_with fail
        exact bodyPost_ret (v:=.agg #[.int .i64 r,.int .i64 r,.slice qo nq qc,.int .i64 r,.int .i64 c,.slice ro n rc,.bool true]) (by simp [results,Tryz.results12,go_sem,z0,z1,z2,z3,z4,z5,z6]) rfl ⟨.inl ⟨uH hyes,qo,qc,ro,rc,rfl,uH PQ,uH PR⟩,uH BP⟩
end Go.Proofs.YtfkndkaneffgdaaGreatDoor
namespace Go.Proofs.YtfkndkaneffgdaaGreatDoor
open Go.RowKit
attribute [local go_sem ↓] Go.wp_at_zero Go.wp_at_succ
def nilAt (N:List Rw) (i c:Nat):Prop:=(nmAt (rwAt N i).R c).L.length = 0
end Go.Proofs.YtfkndkaneffgdaaGreatDoor
namespace Go.Proofs.YtfkndkaneffgdaaGreatDoor
open Go.RowKit
def KK:Nat→Nat
 | 0=>2098
 | c+1=>2 * KK c+1
end Go.Proofs.YtfkndkaneffgdaaGreatDoor
namespace Go.Proofs.YtfkndkaneffgdaaGreatDoor
open Go.RowKit
attribute [local go_sem ↓] Go.wp_at_zero Go.wp_at_succ
def HmSt (w wr:World) (v:Value) (S:List Nat):Prop:=OwnB (w.heap.size+1) wr v S∧BoxT 51 wr w.heap.size (.slice none 0 0) (.int .u64 0) (.int .u64 0)∧Below w.heap.size w wr
theorem HmSt.all {w wr w':World} {v:Value} {S:List Nat} (h:HmSt w wr v S) (hb:Below wr.heap.size wr w'):HmSt w w' v S:=⟨h.1.below hb,h.2.1.all hb,h.2.2.trans (hb.mono h.2.2.size)⟩
theorem HmSt.push {w wr:World} {v:Value} {S:List Nat} (h:HmSt w wr v S) (x:Nat) (hx:x < 18446744073709551616) (hl:S.length≤1000000) (ty:TypeId) :
  ∃ v' w',(Builtin.append_ #[22,22] ty #[v,.slice (some ⟨wr.heap.size,0,none⟩) 1 1]).run Tryz.prog (wr.alloc (.cells #[.int .u64 (x:Int)] 30)) = .ok v' w'∧HmSt w w' v' (S ++ [x]):=by
 obtain ⟨h1,h2,h3⟩:=h
 obtain ⟨v',w',e1,e2,e3,_⟩:=h1.push x hx hl (by have:=h2.lt;omega) ty
 exact ⟨v',w',e1,e2,h2.below e3 (by omega),h3.trans (e3.mono (by omega))⟩
theorem HmSt.start (w:World):HmSt w ((w.alloc (.cells #[.slice none 0 0,.int .u64 0,.int .u64 0] 51)).alloc (.cells #[.int .u64 4607182418800017408] 30)) (.slice (some ⟨w.heap.size+1,0,none⟩) 1 1) [4607182418800017408]:=by
 have b0:=below_alloc9 w (.cells #[.slice none 0 0,.int .u64 0,.int .u64 0] 51)
 have s0:=size_alloc9 w (.cells #[.slice none 0 0,.int .u64 0,.int .u64 0] 51)
 have x0:=BoxT.new 51 w (.slice none 0 0) (.int .u64 0) (.int .u64 0)
 generalize w.alloc (.cells #[.slice none 0 0,.int .u64 0,.int .u64 0] 51) = w0 at *
 have b1:=below_alloc9 w0 (.cells #[.int .u64 4607182418800017408] 30)
 have r1:(w0.alloc (.cells #[.int .u64 4607182418800017408] 30)).heap[w0.heap.size]? = some (.cells #[.int .u64 4607182418800017408] 30 (0,0)):=heap_alloc_new w0 _
 rw [s0] at r1
 refine ⟨⟨⟨rfl,.inr ⟨w.heap.size+1,1,#[.int .u64 4607182418800017408],rfl,Nat.le_refl _,r1,Nat.le_refl _,by unfold maxLen;omega,rfl,rfl⟩⟩,fun x hx=>by simp at hx;subst hx;decide⟩,x0.all b1,b0.trans (b1.mono b0.size)⟩
def mkJ (g:Nat→Nat) (j:Nat):List Nat:=4607182418800017408 :: fsL g (j - 1)
theorem mkJ_1 (g:Nat→Nat):mkJ g 1 = [4607182418800017408]:=rfl
theorem mkJ_len (g:Nat→Nat) {j:Nat} (hj:1≤j):(mkJ g j).length = j:=by
 show (fsL g (j - 1)).length+1 = j
 rw [fsL_len]
 omega
theorem mkJ_succ (g:Nat→Nat) {j:Nat} (hj:1≤j):mkJ g (j+1) = mkJ g j ++ [g (j - 1)]:=by
 obtain ⟨i,rfl⟩:∃ i,j = i+1:=⟨j - 1,by omega⟩
 show 4607182418800017408 :: fsL g (i+1) = (4607182418800017408 :: fsL g i) ++ [g i]
 rw [fsL_succ]
 rfl
set_option maxRecDepth 20000 in
set_option maxHeartbeats 4000000 in
theorem rmake13_noughts (ao:Option Addr) (n c a:Nat) (w:World) (hn1:1≤n) (hn:n≤64)
  (X0:∀ w',Below w.heap.size w w'→∃ b off,ao = some ⟨b,off,none⟩∧w'.cell? ⟨b,off,none⟩ = some (.int .u64 (a:Nat)))
  (C1:∀ w',Below w.heap.size w w'→Calls Tryz.prog 49 #[.slice ao n c] w' fun e w''=>e = .returned (.bool true)∧Below w'.heap.size w' w'') :
  Calls Tryz.prog 27 #[.slice ao n c] w fun e w'=>∃ vo vc,e = .returned (.tuple #[.agg #[.slice vo n vc,.int .u64 0,.int .u64 (a:Nat)],.bool true])∧NewB w.heap.size vo (mxL (mkJ (fun _=>0) n))∧BitsAt w' vo vc (mxL (mkJ (fun _=>0) n))∧Below w.heap.size w w':=by
 have ST:=hide (HmSt.start w)
 have K1:=hide C1;have KX:=hide X0
 clear C1 X0
 have hnI:(1:Int)≤(n:Int):=by omega
 go_enter Tryz.func27,Tryz.ntmps27
 go_wp2_with fail
 refine (uH K1 _ (uH ST).2.2).mono ?_
 rintro e w1 ⟨rfl,hb⟩
 replace ST:=hide ((uH ST).all hb)
 clear hb K1
 go_wp2_with fail
 go_loopw [4,5] (fun v i wr=>∃ j:Nat,1≤j∧j≤n∧i = .int .i64 j∧Hid (HmSt w wr v (mkJ (fun _=>0) j))) (fun _ i _=>n - (intOf i).toNat)
 case atStart=>exact ⟨1,Nat.le_refl _,hn1,rfl,by rw [mkJ_1];exact ST⟩
 case round =>
  clear ST
  obtain ⟨j,hj1,hj,rfl,hS⟩:=hrel
  by_cases hlt:j < n
  ·have hjI:(j:Int) < (n:Int):=by omega
   obtain ⟨v3,w3,run3,st3⟩:=(uH hS).push 0 (by decide) (by rw [mkJ_len _ hj1];omega) 22
   have RUN:=hide run3
   have S3:=hide (show HmSt w w3 v3 (mkJ (fun _=>0) (j+1)) from by rw [mkJ_succ _ hj1];exact st3)
   clear run3 st3 hS
   go_wp2_with (at_builtin;refine wpList_append_ran _ rfl _ _ 22 rfl _ _ _ _ rfl rfl (uH RUN) ?_;clear RUN)
   go_round
   case rel=>exact ⟨j+1,by omega,by omega,by go_num,S3⟩
   case measure=>simp [intOf];omega
  ·have hjj:j = n:=by omega
   subst hjj
   obtain ⟨b,off,rfl,ca⟩:=uH KX _ (uH hS).2.2
   obtain ⟨h1,h2,h3⟩:=uH hS
   obtain ⟨vo,vc,e1,q1⟩:=h1.bits
   rw [mkJ_len _ hj1] at e1
   subst e1
   have r0:=h2.c0;have r1:=h2.c1;have r2:=h2.c2
   have f0:=h2.free 0;have f1:=h2.free 1;have f2:=h2.free 2
   have XP:=h2.put (.slice vo j vc) (.int .u64 0) (.int .u64 (a:Nat))
   have z0:=XP.c0;have z1:=XP.c1;have z2:=XP.c2
   have HNW:=hide (NewB.least h1.newB (Nat.le_succ w.heap.size))
   have Q:=hide (((q1.far h1.newB (show w.heap.size < w.heap.size+1 by omega) 0 (.slice vo j vc)).far h1.newB (show w.heap.size < w.heap.size+1 by omega) 1 (.int .u64 0)).far h1.newB (show w.heap.size < w.heap.size+1 by omega) 2 (.int .u64 (a:Nat)))
   have BP:=hide (below_put3 h3 (Nat.le_refl _) (.slice vo j vc) (.int .u64 0) (.int .u64 (a:Nat)))
   clear hS h1 q1 XP h2 h3
   go_wp2_with fail
   exact bodyPost_ret (v:=.tuple #[.agg #[.slice vo j vc,.int .u64 0,.int .u64 (a:Nat)],.bool true]) (by simp [results,Tryz.results27,go_sem,z0,z1,z2]) rfl ⟨vo,vc,rfl,uH HNW,uH Q,uH BP⟩
set_option maxRecDepth 20000 in
set_option maxHeartbeats 8000000 in
theorem rmake13_bad (ao:Option Addr) (n c b0 bm b d:Nat) (sg f1 f2:Bool) (X:Nat→Nat) (w:World) (hn1:1≤n) (hn:n≤64) (hf:f1 = false ∨ (f1 = true∧f2 = false))
  (X0:∀ w',Below w.heap.size w w'→∃ b off,ao = some ⟨b,off,none⟩∧∀ j,j < n→w'.cell? ⟨b,off+j,none⟩ = some (.int .u64 (X j:Nat)))
  (C1:∀ w',Below w.heap.size w w'→Calls Tryz.prog 49 #[.slice ao n c] w' fun e w''=>e = .returned (.bool false)∧Below w'.heap.size w' w'')
  (C2:∀ w',Below w.heap.size w w'→Calls Tryz.prog 50 #[.slice ao n c] w' fun e w''=>e = .returned (.int .u64 (b0:Nat))∧Below w'.heap.size w' w'')
  (C3:∀ w',Below w.heap.size w w'→Calls Tryz.prog 52 #[.slice ao n c] w' fun e w''=>∃ p:Nat,e = .returned (.int .i64 (p:Nat))∧p < n∧fS (X p) = sg∧Below w'.heap.size w' w'')
  (C4:∀ w' p,fS (X p) = sg→Calls Tryz.prog 51 #[.int .u64 (X p:Nat)] w' fun e w''=>e = .returned (.bool sg)∧w' = w'')
  (C5:∀ w',Calls Tryz.prog 53 #[.int .u64 b0] w' fun e w''=>e = .returned (.int .u64 (bm:Nat))∧w' = w'')
  (hb:(sg = true∧b = b0) ∨ (sg = false∧b = bm))
  (C6:∀ w',Calls Tryz.prog 54 #[.int .u64 (X 0:Nat),.int .u64 b] w' fun e w''=>e = .returned (.int .u64 (d:Nat))∧Below w'.heap.size w' w'')
  (C7:∀ w',Calls Tryz.prog 48 #[.int .u64 b] w' fun e w''=>e = .returned (.bool f1)∧w' = w'')
  (C8:∀ w',Calls Tryz.prog 48 #[.int .u64 d] w' fun e w''=>e = .returned (.bool f2)∧w' = w'') :
  Calls Tryz.prog 27 #[.slice ao n c] w fun e w'=>e = .returned (.tuple #[.agg #[.slice none 0 0,.int .u64 0,.int .u64 0],.bool false])∧Below w.heap.size w w':=by
 have ST:=hide (HmSt.start w)
 have KX:=hide X0;have K1:=hide C1;have K2:=hide C2;have K3:=hide C3;have K4:=hide C4;have K5:=hide C5;have K6:=hide C6;have K7:=hide C7;have K8:=hide C8
 clear X0 C1 C2 C3 C4 C5 C6 C7 C8
 have hnI:(1:Int)≤(n:Int):=by omega
 rcases hb with ⟨rfl,rfl⟩ | ⟨rfl,rfl⟩
 ·go_enter Tryz.func27,Tryz.ntmps27
  go_wp2_with fail
  refine (uH K1 _ (uH ST).2.2).mono ?_
  rintro e w1 ⟨rfl,hb⟩
  replace ST:=hide ((uH ST).all hb)
  clear hb K1
  go_wp2_with fail
  refine (uH K2 _ (uH ST).2.2).mono ?_
  rintro e w2 ⟨rfl,hb⟩
  replace ST:=hide ((uH ST).all hb)
  clear hb K2
  go_wp2_with fail
  refine (uH K3 _ (uH ST).2.2).mono ?_
  rintro e w3 ⟨p,rfl,hp,hs,hb⟩
  replace ST:=hide ((uH ST).all hb)
  obtain ⟨bb,off,rfl,hcs⟩:=uH KX _ (uH ST).2.2
  have cp:=hcs p hp
  have K4':=hide (fun w'=>uH K4 w' p hs)
  have hpI:(p:Int) < (n:Int):=by omega
  generalize X p = x at *
  clear hb K3 hcs hs K4
  go_wp2_with fail
  refine (uH K4' _).mono ?_
  rintro e w4 ⟨rfl,rfl⟩
  clear K4' cp
  obtain ⟨bb',off',ee,hcs⟩:=uH KX _ (uH ST).2.2
  simp only [Option.some.injEq,Addr.mk.injEq] at ee
  obtain ⟨rfl,rfl,_⟩:=ee
  have c0:=hcs 0 (by omega)
  rw [Nat.add_zero] at c0
  clear hcs
  generalize hX0:X 0 = a at *
  go_wp2_with fail
  refine (uH K6 _).mono ?_
  rintro e w5 ⟨rfl,hb⟩
  replace ST:=hide ((uH ST).all hb)
  clear hb K6 c0
  go_wp2_with fail
  refine (uH K7 _).mono ?_
  rintro e w6 ⟨rfl,rfl⟩
  rcases hf with rfl | ⟨rfl,rfl⟩
  ·obtain ⟨h1,h2,h3⟩:=uH ST
   have r0:=h2.c0;have r1:=h2.c1;have r2:=h2.c2
   have f0:=h2.free 0;have f1':=h2.free 1;have f2':=h2.free 2
   have XP:=h2.put (.slice none 0 0) (.int .u64 0) (.int .u64 0)
   have z0:=XP.c0;have z1:=XP.c1;have z2:=XP.c2
   have BP:=hide (below_put3 h3 (Nat.le_refl _) (.slice none 0 0) (.int .u64 0) (.int .u64 0))
   clear h1 h2 h3 XP ST
   go_wp2_with fail
   exact bodyPost_ret (v:=.tuple #[.agg #[.slice none 0 0,.int .u64 0,.int .u64 0],.bool false]) (by simp [results,Tryz.results27,go_sem,z0,z1,z2]) rfl ⟨rfl,uH BP⟩
  ·go_wp2_with fail
   refine (uH K8 _).mono ?_
   rintro e w6 ⟨rfl,rfl⟩
   obtain ⟨h1,h2,h3⟩:=uH ST
   have r0:=h2.c0;have r1:=h2.c1;have r2:=h2.c2
   have f0:=h2.free 0;have f1':=h2.free 1;have f2':=h2.free 2
   have XP:=h2.put (.slice none 0 0) (.int .u64 0) (.int .u64 0)
   have z0:=XP.c0;have z1:=XP.c1;have z2:=XP.c2
   have BP:=hide (below_put3 h3 (Nat.le_refl _) (.slice none 0 0) (.int .u64 0) (.int .u64 0))
   clear h1 h2 h3 XP ST
   go_wp2_with fail
   exact bodyPost_ret (v:=.tuple #[.agg #[.slice none 0 0,.int .u64 0,.int .u64 0],.bool false]) (by simp [results,Tryz.results27,go_sem,z0,z1,z2]) rfl ⟨rfl,uH BP⟩
 ·go_enter Tryz.func27,Tryz.ntmps27
  go_wp2_with fail
  refine (uH K1 _ (uH ST).2.2).mono ?_
  rintro e w1 ⟨rfl,hb⟩
  replace ST:=hide ((uH ST).all hb)
  clear hb K1
  go_wp2_with fail
  refine (uH K2 _ (uH ST).2.2).mono ?_
  rintro e w2 ⟨rfl,hb⟩
  replace ST:=hide ((uH ST).all hb)
  clear hb K2
  go_wp2_with fail
  refine (uH K3 _ (uH ST).2.2).mono ?_
  rintro e w3 ⟨p,rfl,hp,hs,hb⟩
  replace ST:=hide ((uH ST).all hb)
  obtain ⟨bb,off,rfl,hcs⟩:=uH KX _ (uH ST).2.2
  have cp:=hcs p hp
  have K4':=hide (fun w'=>uH K4 w' p hs)
  have hpI:(p:Int) < (n:Int):=by omega
  generalize X p = x at *
  clear hb K3 hcs hs K4
  go_wp2_with fail
  refine (uH K4' _).mono ?_
  rintro e w4 ⟨rfl,rfl⟩
  clear K4' cp
  go_wp2_with fail
  refine (uH K5 _).mono ?_
  rintro e w4 ⟨rfl,rfl⟩
  obtain ⟨bb',off',ee,hcs⟩:=uH KX _ (uH ST).2.2
  simp only [Option.some.injEq,Addr.mk.injEq] at ee
  obtain ⟨rfl,rfl,_⟩:=ee
  have c0:=hcs 0 (by omega)
  rw [Nat.add_zero] at c0
  clear hcs
  generalize hX0:X 0 = a at *
  go_wp2_with fail
  refine (uH K6 _).mono ?_
  rintro e w5 ⟨rfl,hb⟩
  replace ST:=hide ((uH ST).all hb)
  clear hb K6 c0
  go_wp2_with fail
  refine (uH K7 _).mono ?_
  rintro e w6 ⟨rfl,rfl⟩
  rcases hf with rfl | ⟨rfl,rfl⟩
  ·obtain ⟨h1,h2,h3⟩:=uH ST
   have r0:=h2.c0;have r1:=h2.c1;have r2:=h2.c2
   have f0:=h2.free 0;have f1':=h2.free 1;have f2':=h2.free 2
   have XP:=h2.put (.slice none 0 0) (.int .u64 0) (.int .u64 0)
   have z0:=XP.c0;have z1:=XP.c1;have z2:=XP.c2
   have BP:=hide (below_put3 h3 (Nat.le_refl _) (.slice none 0 0) (.int .u64 0) (.int .u64 0))
   clear h1 h2 h3 XP ST
   go_wp2_with fail
   exact bodyPost_ret (v:=.tuple #[.agg #[.slice none 0 0,.int .u64 0,.int .u64 0],.bool false]) (by simp [results,Tryz.results27,go_sem,z0,z1,z2]) rfl ⟨rfl,uH BP⟩
  ·go_wp2_with fail
   refine (uH K8 _).mono ?_
   rintro e w6 ⟨rfl,rfl⟩
   obtain ⟨h1,h2,h3⟩:=uH ST
   have r0:=h2.c0;have r1:=h2.c1;have r2:=h2.c2
   have f0:=h2.free 0;have f1':=h2.free 1;have f2':=h2.free 2
   have XP:=h2.put (.slice none 0 0) (.int .u64 0) (.int .u64 0)
   have z0:=XP.c0;have z1:=XP.c1;have z2:=XP.c2
   have BP:=hide (below_put3 h3 (Nat.le_refl _) (.slice none 0 0) (.int .u64 0) (.int .u64 0))
   clear h1 h2 h3 XP ST
   go_wp2_with fail
   exact bodyPost_ret (v:=.tuple #[.agg #[.slice none 0 0,.int .u64 0,.int .u64 0],.bool false]) (by simp [results,Tryz.results27,go_sem,z0,z1,z2]) rfl ⟨rfl,uH BP⟩
set_option maxRecDepth 20000 in
set_option maxHeartbeats 8000000 in
theorem rmake13_ok (ao:Option Addr) (n c b0 bm b d e0 T:Nat) (sg f1 f2:Bool) (X g:Nat→Nat) (w:World) (hn1:1≤n) (hn:n≤64) (hf1:f1 = true) (hf2:f2 = true) (hg:∀ j,j+1 < n→g j < 18446744073709551616)
  (X0:∀ w',Below w.heap.size w w'→∃ b off,ao = some ⟨b,off,none⟩∧∀ j,j < n→w'.cell? ⟨b,off+j,none⟩ = some (.int .u64 (X j:Nat)))
  (C1:∀ w',Below w.heap.size w w'→Calls Tryz.prog 49 #[.slice ao n c] w' fun e w''=>e = .returned (.bool false)∧Below w'.heap.size w' w'')
  (C2:∀ w',Below w.heap.size w w'→Calls Tryz.prog 50 #[.slice ao n c] w' fun e w''=>e = .returned (.int .u64 (b0:Nat))∧Below w'.heap.size w' w'')
  (C3:∀ w',Below w.heap.size w w'→Calls Tryz.prog 52 #[.slice ao n c] w' fun e w''=>∃ p:Nat,e = .returned (.int .i64 (p:Nat))∧p < n∧fS (X p) = sg∧Below w'.heap.size w' w'')
  (C4:∀ w' p,fS (X p) = sg→Calls Tryz.prog 51 #[.int .u64 (X p:Nat)] w' fun e w''=>e = .returned (.bool sg)∧w' = w'')
  (C5:∀ w',Calls Tryz.prog 53 #[.int .u64 b0] w' fun e w''=>e = .returned (.int .u64 (bm:Nat))∧w' = w'')
  (hb:(sg = true∧b = b0) ∨ (sg = false∧b = bm))
  (C6:∀ w',Calls Tryz.prog 54 #[.int .u64 (X 0:Nat),.int .u64 b] w' fun e w''=>e = .returned (.int .u64 (d:Nat))∧Below w'.heap.size w' w'')
  (C7:∀ w',Calls Tryz.prog 48 #[.int .u64 b] w' fun e w''=>e = .returned (.bool f1)∧w' = w'')
  (C8:∀ w',Calls Tryz.prog 48 #[.int .u64 d] w' fun e w''=>e = .returned (.bool f2)∧w' = w'')
  (C9:∀ j,1≤j→j < n→∀ w',Calls Tryz.prog 55 #[.int .u64 (X j:Nat),.int .u64 d] w' fun e w''=>e = .returned (.int .u64 (g (j - 1):Nat))∧Below w'.heap.size w' w'')
  (CX:∀ w',Calls Tryz.prog 54 #[.int .u64 b,.int .u64 (X 0:Nat)] w' fun e w''=>e = .returned (.int .u64 (e0:Nat))∧Below w'.heap.size w' w'')
  (CY:∀ w',Calls Tryz.prog 55 #[.int .u64 e0,.int .u64 b] w' fun e w''=>e = .returned (.int .u64 (T:Nat))∧Below w'.heap.size w' w'') :
  Calls Tryz.prog 27 #[.slice ao n c] w fun e w'=>∃ vo vc,e = .returned (.tuple #[.agg #[.slice vo n vc,.int .u64 (T:Nat),.int .u64 (b:Nat)],.bool true])∧NewB w.heap.size vo (mxL (mkJ g n))∧BitsAt w' vo vc (mxL (mkJ g n))∧Below w.heap.size w w':=by
 subst hf1 hf2
 have ST:=hide (HmSt.start w)
 have KX:=hide X0;have K1:=hide C1;have K2:=hide C2;have K3:=hide C3;have K4:=hide C4;have K5:=hide C5;have K6:=hide C6;have K7:=hide C7;have K8:=hide C8
 clear X0 C1 C2 C3 C4 C5 C6 C7 C8
 have hnI:(1:Int)≤(n:Int):=by omega
 have K9:=hide C9;have KX2:=hide CX;have KY:=hide CY;have HG:=hide hg
 clear C9 CX CY hg
 rcases hb with ⟨rfl,rfl⟩ | ⟨rfl,rfl⟩
 ·go_enter Tryz.func27,Tryz.ntmps27
  go_wp2_with fail
  refine (uH K1 _ (uH ST).2.2).mono ?_
  rintro e w1 ⟨rfl,hb⟩
  replace ST:=hide ((uH ST).all hb)
  clear hb K1
  go_wp2_with fail
  refine (uH K2 _ (uH ST).2.2).mono ?_
  rintro e w2 ⟨rfl,hb⟩
  replace ST:=hide ((uH ST).all hb)
  clear hb K2
  go_wp2_with fail
  refine (uH K3 _ (uH ST).2.2).mono ?_
  rintro e w3 ⟨p,rfl,hp,hs,hb⟩
  replace ST:=hide ((uH ST).all hb)
  obtain ⟨bb,off,rfl,hcs⟩:=uH KX _ (uH ST).2.2
  have cp:=hcs p hp
  have K4':=hide (fun w'=>uH K4 w' p hs)
  have hpI:(p:Int) < (n:Int):=by omega
  generalize X p = x at *
  clear hb K3 hcs hs K4
  go_wp2_with fail
  refine (uH K4' _).mono ?_
  rintro e w4 ⟨rfl,rfl⟩
  clear K4' cp
  obtain ⟨bb',off',ee,hcs⟩:=uH KX _ (uH ST).2.2
  simp only [Option.some.injEq,Addr.mk.injEq] at ee
  obtain ⟨rfl,rfl,_⟩:=ee
  have c0:=hcs 0 (by omega)
  rw [Nat.add_zero] at c0
  clear hcs
  generalize hX0:X 0 = a at *
  go_wp2_with fail
  refine (uH K6 _).mono ?_
  rintro e w5 ⟨rfl,hb⟩
  replace ST:=hide ((uH ST).all hb)
  clear hb K6 c0
  go_wp2_with fail
  refine (uH K7 _).mono ?_
  rintro e w6 ⟨rfl,rfl⟩
  go_wp2_with fail
  refine (uH K8 _).mono ?_
  rintro e w6 ⟨rfl,rfl⟩
  go_wp2_with fail
  go_loopw [4,8] (fun v i wr=>∃ j:Nat,1≤j∧j≤n∧i = .int .i64 j∧Hid (HmSt w wr v (mkJ g j))) (fun _ i _=>n - (intOf i).toNat)
  case atStart=>exact ⟨1,Nat.le_refl _,hn1,rfl,by rw [mkJ_1];exact ST⟩
  case round =>
   clear ST
   obtain ⟨j,hj1,hj,rfl,hS⟩:=hrel
   obtain ⟨bb',off',ee,hcs⟩:=uH KX _ (uH hS).2.2
   simp only [Option.some.injEq,Addr.mk.injEq] at ee
   obtain ⟨rfl,rfl,_⟩:=ee
   by_cases hlt:j < n
   ·have hjI:(j:Int) < (n:Int):=by omega
    have cj:=hcs j hlt
    have KD:=hide (uH K9 j hj1 hlt)
    have GL:=hide (uH HG (j - 1) (by omega))
    have GS:=hide (mkJ_succ g hj1)
    generalize g (j - 1) = o at *
    generalize X j = xj at *
    clear hcs
    go_wp2_with fail
    refine (uH KD _).mono ?_
    rintro e w7 ⟨rfl,hb⟩
    obtain ⟨v3,w8,run3,st3⟩:=((uH hS).all hb).push o (uH GL) (by rw [mkJ_len _ hj1];omega) 22
    have RUN:=hide run3
    have S3:=hide (show HmSt w w8 v3 (mkJ g (j+1)) from by rw [uH GS];exact st3)
    clear run3 st3 hS hb cj KD
    go_wp2_with (at_builtin;refine wpList_append_ran _ rfl _ _ 22 rfl _ _ _ _ rfl rfl (uH RUN) ?_;clear RUN)
    go_round
    case rel=>exact ⟨j+1,by omega,by omega,by go_num,S3⟩
    case measure=>simp [intOf];omega
   ·have hjj:j = n:=by omega
    subst hjj
    have c0:=hcs 0 (by omega)
    rw [Nat.add_zero,hX0] at c0
    clear hcs
    go_wp2_with fail
    refine (uH KX2 _).mono ?_
    rintro e w7 ⟨rfl,hb⟩
    replace hS:=hide ((uH hS).all hb)
    clear hb KX2 c0
    go_wp2_with fail
    refine (uH KY _).mono ?_
    rintro e w8 ⟨rfl,hb⟩
    obtain ⟨h1,h2,h3⟩:=(uH hS).all hb
    obtain ⟨vo,vc,e1,q1⟩:=h1.bits
    rw [mkJ_len _ hj1] at e1
    subst e1
    have r0:=h2.c0;have r1:=h2.c1;have r2:=h2.c2
    have f0:=h2.free 0;have f1':=h2.free 1;have f2':=h2.free 2
    have XP:=h2.put (.slice vo j vc) (.int .u64 (T:Nat)) (.int .u64 (b:Nat))
    have z0:=XP.c0;have z1:=XP.c1;have z2:=XP.c2
    have HNW:=hide (NewB.least h1.newB (Nat.le_succ w.heap.size))
    have Q:=hide (((q1.far h1.newB (show w.heap.size < w.heap.size+1 by omega) 0 (.slice vo j vc)).far h1.newB (show w.heap.size < w.heap.size+1 by omega) 1 (.int .u64 (T:Nat))).far h1.newB (show w.heap.size < w.heap.size+1 by omega) 2 (.int .u64 (b:Nat)))
    have BP:=hide (below_put3 h3 (Nat.le_refl _) (.slice vo j vc) (.int .u64 (T:Nat)) (.int .u64 (b:Nat)))
    clear hS h1 q1 XP h2 h3 hb KY
    go_wp2_with fail
    exact bodyPost_ret (v:=.tuple #[.agg #[.slice vo j vc,.int .u64 (T:Nat),.int .u64 (b:Nat)],.bool true]) (by simp [results,Tryz.results27,go_sem,z0,z1,z2]) rfl ⟨vo,vc,rfl,uH HNW,uH Q,uH BP⟩
 ·go_enter Tryz.func27,Tryz.ntmps27
  go_wp2_with fail
  refine (uH K1 _ (uH ST).2.2).mono ?_
  rintro e w1 ⟨rfl,hb⟩
  replace ST:=hide ((uH ST).all hb)
  clear hb K1
  go_wp2_with fail
  refine (uH K2 _ (uH ST).2.2).mono ?_
  rintro e w2 ⟨rfl,hb⟩
  replace ST:=hide ((uH ST).all hb)
  clear hb K2
  go_wp2_with fail
  refine (uH K3 _ (uH ST).2.2).mono ?_
  rintro e w3 ⟨p,rfl,hp,hs,hb⟩
  replace ST:=hide ((uH ST).all hb)
  obtain ⟨bb,off,rfl,hcs⟩:=uH KX _ (uH ST).2.2
  have cp:=hcs p hp
  have K4':=hide (fun w'=>uH K4 w' p hs)
  have hpI:(p:Int) < (n:Int):=by omega
  generalize X p = x at *
  clear hb K3 hcs hs K4
  go_wp2_with fail
  refine (uH K4' _).mono ?_
  rintro e w4 ⟨rfl,rfl⟩
  clear K4' cp
  go_wp2_with fail
  refine (uH K5 _).mono ?_
  rintro e w4 ⟨rfl,rfl⟩
  obtain ⟨bb',off',ee,hcs⟩:=uH KX _ (uH ST).2.2
  simp only [Option.some.injEq,Addr.mk.injEq] at ee
  obtain ⟨rfl,rfl,_⟩:=ee
  have c0:=hcs 0 (by omega)
  rw [Nat.add_zero] at c0
  clear hcs
  generalize hX0:X 0 = a at *
  go_wp2_with fail
  refine (uH K6 _).mono ?_
  rintro e w5 ⟨rfl,hb⟩
  replace ST:=hide ((uH ST).all hb)
  clear hb K6 c0
  go_wp2_with fail
  refine (uH K7 _).mono ?_
  rintro e w6 ⟨rfl,rfl⟩
  go_wp2_with fail
  refine (uH K8 _).mono ?_
  rintro e w6 ⟨rfl,rfl⟩
  go_wp2_with fail
  go_loopw [4,8] (fun v i wr=>∃ j:Nat,1≤j∧j≤n∧i = .int .i64 j∧Hid (HmSt w wr v (mkJ g j))) (fun _ i _=>n - (intOf i).toNat)
  case atStart=>exact ⟨1,Nat.le_refl _,hn1,rfl,by rw [mkJ_1];exact ST⟩
  case round =>
   clear ST
   obtain ⟨j,hj1,hj,rfl,hS⟩:=hrel
   obtain ⟨bb',off',ee,hcs⟩:=uH KX _ (uH hS).2.2
   simp only [Option.some.injEq,Addr.mk.injEq] at ee
   obtain ⟨rfl,rfl,_⟩:=ee
   by_cases hlt:j < n
   ·have hjI:(j:Int) < (n:Int):=by omega
    have cj:=hcs j hlt
    have KD:=hide (uH K9 j hj1 hlt)
    have GL:=hide (uH HG (j - 1) (by omega))
    have GS:=hide (mkJ_succ g hj1)
    generalize g (j - 1) = o at *
    generalize X j = xj at *
    clear hcs
    go_wp2_with fail
    refine (uH KD _).mono ?_
    rintro e w7 ⟨rfl,hb⟩
    obtain ⟨v3,w8,run3,st3⟩:=((uH hS).all hb).push o (uH GL) (by rw [mkJ_len _ hj1];omega) 22
    have RUN:=hide run3
    have S3:=hide (show HmSt w w8 v3 (mkJ g (j+1)) from by rw [uH GS];exact st3)
    clear run3 st3 hS hb cj KD
    go_wp2_with (at_builtin;refine wpList_append_ran _ rfl _ _ 22 rfl _ _ _ _ rfl rfl (uH RUN) ?_;clear RUN)
    go_round
    case rel=>exact ⟨j+1,by omega,by omega,by go_num,S3⟩
    case measure=>simp [intOf];omega
   ·have hjj:j = n:=by omega
    subst hjj
    have c0:=hcs 0 (by omega)
    rw [Nat.add_zero,hX0] at c0
    clear hcs
    go_wp2_with fail
    refine (uH KX2 _).mono ?_
    rintro e w7 ⟨rfl,hb⟩
    replace hS:=hide ((uH hS).all hb)
    clear hb KX2 c0
    go_wp2_with fail
    refine (uH KY _).mono ?_
    rintro e w8 ⟨rfl,hb⟩
    obtain ⟨h1,h2,h3⟩:=(uH hS).all hb
    obtain ⟨vo,vc,e1,q1⟩:=h1.bits
    rw [mkJ_len _ hj1] at e1
    subst e1
    have r0:=h2.c0;have r1:=h2.c1;have r2:=h2.c2
    have f0:=h2.free 0;have f1':=h2.free 1;have f2':=h2.free 2
    have XP:=h2.put (.slice vo j vc) (.int .u64 (T:Nat)) (.int .u64 (b:Nat))
    have z0:=XP.c0;have z1:=XP.c1;have z2:=XP.c2
    have HNW:=hide (NewB.least h1.newB (Nat.le_succ w.heap.size))
    have Q:=hide (((q1.far h1.newB (show w.heap.size < w.heap.size+1 by omega) 0 (.slice vo j vc)).far h1.newB (show w.heap.size < w.heap.size+1 by omega) 1 (.int .u64 (T:Nat))).far h1.newB (show w.heap.size < w.heap.size+1 by omega) 2 (.int .u64 (b:Nat)))
    have BP:=hide (below_put3 h3 (Nat.le_refl _) (.slice vo j vc) (.int .u64 (T:Nat)) (.int .u64 (b:Nat)))
    clear hS h1 q1 XP h2 h3 hb KY
    go_wp2_with fail
    exact bodyPost_ret (v:=.tuple #[.agg #[.slice vo j vc,.int .u64 (T:Nat),.int .u64 (b:Nat)],.bool true]) (by simp [results,Tryz.results27,go_sem,z0,z1,z2]) rfl ⟨vo,vc,rfl,uH HNW,uH Q,uH BP⟩
end Go.Proofs.YtfkndkaneffgdaaGreatDoor
namespace Go.Proofs.YtfkndkaneffgdaaGreatDoor
open Go.RowKit
theorem toN_cons {I:List Int} (h:1≤I.length):toN I = atB I 0 :: (toN I).drop 1:=by
 have h1:0 < (toN I).length:=by rw [toN_len];omega
 have:=List.drop_eq_getElem_cons h1
 rw [List.drop_zero] at this
 rw [this]
 congr 1
 have e:=toN_at I 0 (by omega)
 rw [List.getElem?_eq_getElem h1] at e
 exact Option.some.inj e
theorem drop_getD (I:List Int) {j:Nat} (h:j+1 < I.length):((toN I).drop 1).getD j 0 = atB I (j+1):=by
 rw [List.getD_eq_getElem?_getD,List.getElem?_drop,Nat.add_comm 1 j,toN_at I (j+1) h]
 rfl
theorem mr_mkJ {I:List Int} (h:1≤I.length) (k:Nat→Nat) (hk:∀ x,(if ngt ((toN I).drop 1) = true then 0 else dV x (hmD (atB I 0) ((toN I).drop 1))) = k x):mrV (toN I) = mkJ (fun j=>k (atB I (j+1))) I.length:=by
 have hl:((toN I).drop 1).length = I.length - 1:=by rw [List.length_drop,toN_len]
 rw [toN_cons h]
 show 4607182418800017408 :: ((toN I).drop 1).map (fun x=>if ngt ((toN I).drop 1) = true then 0 else dV x (hmD (atB I 0) ((toN I).drop 1))) = 4607182418800017408 :: fsL (fun j=>k (atB I (j+1))) (I.length - 1)
 congr 1
 rw [List.map_congr_left (g:=k) (fun x _=>hk x),list_range ((toN I).drop 1),List.map_map,hl]
 unfold fsL
 refine List.map_congr_left (fun j hj=>?_)
 show k (((toN I).drop 1).getD j 0) = _
 rw [drop_getD I (by have:=List.mem_range.1 hj;omega)]
theorem mk_facts {I:List Int} (h:1≤I.length):mrB (toN I) = (if ngt ((toN I).drop 1) = true then atB I 0 else hmB (atB I 0) ((toN I).drop 1))∧mrT (toN I) = (if ngt ((toN I).drop 1) = true then 0 else dV (aV (hmB (atB I 0) ((toN I).drop 1)) (fN (atB I 0))) (hmB (atB I 0) ((toN I).drop 1)))∧mrK (toN I) = (ngt ((toN I).drop 1) || (fFin (hmB (atB I 0) ((toN I).drop 1)) && fFin (hmD (atB I 0) ((toN I).drop 1)))):=by
 have e:=toN_cons h
 refine ⟨?_,?_,?_⟩
 ·conv=>lhs;rw [e]
  rfl
 ·conv=>lhs;rw [e]
  rfl
 ·conv=>lhs;rw [e]
  rfl
theorem ngt_all {I:List Int} (h:1≤I.length) (hn:ngt ((toN I).drop 1) = false):ngt (toN I) = false:=by
 rw [toN_cons h]
 show (decide (fK (atB I 0) = 0) && ngt ((toN I).drop 1)) = false
 rw [hn,Bool.and_false]
theorem cells_of {w:World} {ao:Option Addr} {c:Nat} {I:List Int} (hI:BitsAt w ao c I) (h:1≤I.length) (w':World) (hb:Below w.heap.size w w'):∃ b off,ao = some ⟨b,off,none⟩∧∀ j,j < I.length→w'.cell? ⟨b,off+j,none⟩ = some (.int .u64 (atB I j:Nat)):=by
 obtain ⟨b,off,e1,_,e3⟩:=(hI.below hb).ne (by omega)
 exact ⟨b,off,e1,e3⟩
theorem rmake13_new (ao:Option Addr) (c:Nat) (I:List Int) (w:World) (hI:BitsAt w ao c I) (h1:1≤I.length) (h2:I.length≤64) (hk:mrK (toN I) = true) :
  Calls Tryz.prog 27 #[.slice ao I.length c] w fun e w'=>∃ vo vc,e = .returned (.tuple #[.agg #[.slice vo I.length vc,.int .u64 (mrT (toN I):Nat),.int .u64 (mrB (toN I):Nat)],.bool true])∧NewB w.heap.size vo (mxL (mrV (toN I)))∧BitsAt w' vo vc (mxL (mrV (toN I)))∧Below w.heap.size w w':=by
 obtain ⟨eB,eT,eK⟩:=mk_facts h1
 have N1:=fun w' (hb:Below w.heap.size w w')=>rnoughts13_any ao c I w' (hI.below hb) h2
 cases hn:ngt ((toN I).drop 1)
 ·rw [hn] at N1
  rw [hn,if_neg (by decide)] at eB eT
  rw [hk,hn,Bool.false_or] at eK
  obtain ⟨f1,f2⟩:=Bool.and_eq_true_iff.1 eK.symm
  rw [mr_mkJ h1 (fun x=>dV x (hmD (atB I 0) ((toN I).drop 1))) (fun x=>if_neg (by rw [hn];decide)),eB,eT]
  have la:=hI.lt 0
  have lB:=hmB_lt (atB I 0) ((toN I).drop 1)
  have lD:=hmD_lt (atB I 0) ((toN I).drop 1) la
  refine rmake13_ok ao I.length c (nrV (toN I)) (fN (nrV (toN I))) (hmB (atB I 0) ((toN I).drop 1)) (hmD (atB I 0) ((toN I).drop 1)) (aV (hmB (atB I 0) ((toN I).drop 1)) (fN (atB I 0))) _ (ldS (toN I)) true true (fun j=>atB I j) (fun j=>dV (atB I (j+1)) (hmD (atB I 0) ((toN I).drop 1))) w h1 h2 rfl rfl (fun j _=>dV_lt _ _) (cells_of hI h1) N1 (fun w' hb=>?_) (fun w' hb=>rlead13_any ao c I w' (hI.below hb) h2 (ngt_all h1 hn)) (fun w' p hs=>?_) (fun w'=>rminus4_any _ w' (nrV_lt _)) ?_ (fun w'=>r9sub_any _ _ w' la lB) (fun w'=>?_) (fun w'=>?_) (fun j hj1 hj w'=>?_) (fun w'=>r9sub_any _ _ w' lB la) (fun w'=>r9div_any _ _ w' (aV_lt _ _ lB (fN_lt _ la)) lB)
  ·have:=r9norm_any ao c I w' (hI.below hb) (by omega)
   rwa [nmV_nrV] at this
  ·have:=rneg4_any (atB I p) w' (hI.lt p)
   rwa [hs] at this
  ·have e:hmB (atB I 0) ((toN I).drop 1) = if ldS (toN I) = true then nrV (toN I) else fN (nrV (toN I)):=by
    unfold hmB
    rw [← toN_cons h1]
   rw [e]
   cases hl:ldS (toN I)
   ·exact .inr ⟨rfl,rfl⟩
   ·exact .inl ⟨rfl,rfl⟩
  ·have:=rfinite_any (hmB (atB I 0) ((toN I).drop 1)) w' lB
   rwa [f1] at this
  ·have:=rfinite_any (hmD (atB I 0) ((toN I).drop 1)) w' lD
   rwa [f2] at this
  ·have:=r9div_any (atB I j) (hmD (atB I 0) ((toN I).drop 1)) w' (hI.lt j) lD
   rw [show j - 1+1 = j by omega]
   exact this
 ·rw [hn] at N1
  rw [if_pos hn] at eB eT
  rw [mr_mkJ h1 (fun _=>0) (fun x=>if_pos hn),eB,eT]
  refine rmake13_noughts ao I.length c (atB I 0) w h1 h2 (fun w' hb=>?_) N1
  obtain ⟨b,off,e1,e2⟩:=cells_of hI h1 w' hb
  exact ⟨b,off,e1,e2 0 (by omega)⟩
theorem rmake13_no (ao:Option Addr) (c:Nat) (I:List Int) (w:World) (hI:BitsAt w ao c I) (h1:1≤I.length) (h2:I.length≤64) (hk:mrK (toN I) = false) :
  Calls Tryz.prog 27 #[.slice ao I.length c] w fun e w'=>e = .returned (.tuple #[.agg #[.slice none 0 0,.int .u64 0,.int .u64 0],.bool false])∧Below w.heap.size w w':=by
 obtain ⟨_,_,eK⟩:=mk_facts h1
 have N1:=fun w' (hb:Below w.heap.size w w')=>rnoughts13_any ao c I w' (hI.below hb) h2
 rw [hk] at eK
 obtain ⟨hn,hf⟩:=Bool.or_eq_false_iff.1 eK.symm
 rw [hn] at N1
 have la:=hI.lt 0
 have lB:=hmB_lt (atB I 0) ((toN I).drop 1)
 have lD:=hmD_lt (atB I 0) ((toN I).drop 1) la
 refine rmake13_bad ao I.length c (nrV (toN I)) (fN (nrV (toN I))) (hmB (atB I 0) ((toN I).drop 1)) (hmD (atB I 0) ((toN I).drop 1)) (ldS (toN I)) (fFin (hmB (atB I 0) ((toN I).drop 1))) (fFin (hmD (atB I 0) ((toN I).drop 1))) (fun j=>atB I j) w h1 h2 ?_ (cells_of hI h1) N1 (fun w' hb=>?_) (fun w' hb=>rlead13_any ao c I w' (hI.below hb) h2 (ngt_all h1 hn)) (fun w' p hs=>?_) (fun w'=>rminus4_any _ w' (nrV_lt _)) ?_ (fun w'=>r9sub_any _ _ w' la lB) (fun w'=>rfinite_any _ w' lB) (fun w'=>rfinite_any _ w' lD)
 ·cases g1:fFin (hmB (atB I 0) ((toN I).drop 1))
  ·exact .inl rfl
  ·cases g2:fFin (hmD (atB I 0) ((toN I).drop 1))
   ·exact .inr ⟨rfl,rfl⟩
   ·rw [g1,g2] at hf;cases hf
 ·have:=r9norm_any ao c I w' (hI.below hb) (by omega)
  rwa [nmV_nrV] at this
 ·have:=rneg4_any (atB I p) w' (hI.lt p)
  rwa [hs] at this
 ·have e:hmB (atB I 0) ((toN I).drop 1) = if ldS (toN I) = true then nrV (toN I) else fN (nrV (toN I)):=by
   unfold hmB
   rw [← toN_cons h1]
  rw [e]
  cases hl:ldS (toN I)
  ·exact .inr ⟨rfl,rfl⟩
  ·exact .inl ⟨rfl,rfl⟩
end Go.Proofs.YtfkndkaneffgdaaGreatDoor
