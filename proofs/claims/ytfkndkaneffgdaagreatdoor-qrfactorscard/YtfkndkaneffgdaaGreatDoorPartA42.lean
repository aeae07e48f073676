/- Part 42 of the texts. -/
import Derived.Test.YtfkndkaneffgdaaGreatDoorPartA41
import Derived.Test.YtfkndkaneffgdaaGreatDoorPartA39
import Derived.Test.YtfkndkaneffgdaaGreatDoorPartA34
import Derived.Test.YtfkndkaneffgdaaGreatDoorChecked
import Derived.Test.YtfkndkaneffgdaaGreatDoorPartA02
import Derived.ProofKit
import Derived.SizedLaws
import Derived.Lib.SmallJoins
namespace Go.Proofs.YtfkndkaneffgdaaGreatDoor
open Go.RowKit
attribute [local go_sem ↓] Go.wp_at_zero Go.wp_at_succ
structure HgSt (w wr:World) (H go ga gb:Nat) (r c:Int) (ao:Option Addr) (n cap:Nat) (po:Option Addr) (pc p1 p2:Nat) (so:Option Addr) (sd:Nat) (S:List Nat) (p3 p4:Nat) (to':Option Addr) (td:Nat) (T:List Nat):Prop where
 bel:Below w.heap.size w wr
 m:BoxM wr w.heap.size (.int .i64 r) (.int .i64 c) (.slice ao n cap)
 own:BoxM wr go (.int .i64 r) (.int .i64 c) (.slice po n pc)
 copy:CopyB (w.heap.size+1) H wr po n
 s:AnsAt wr H ga p1 p2 so sd S
 t:AnsAt wr H gb p3 p4 to' td T
theorem HgSt.all {w wr:World} {H go ga gb:Nat} {r c:Int} {ao:Option Addr} {n cap:Nat} {po:Option Addr} {pc p1 p2:Nat} {so:Option Addr} {sd:Nat} {S:List Nat} {p3 p4:Nat} {to':Option Addr} {td:Nat} {T:List Nat} {w':World} (h:HgSt w wr H go ga gb r c ao n cap po pc p1 p2 so sd S p3 p4 to' td T) (hb:Below wr.heap.size wr w'):HgSt w w' H go ga gb r c ao n cap po pc p1 p2 so sd S p3 p4 to' td T :=
 ⟨h.bel.trans (hb.mono h.bel.size),h.m.all hb,h.own.all hb,h.copy.below hb,h.s.all hb,h.t.all hb⟩
theorem HgSt.put {w wr:World} {H go ga gb:Nat} {r c:Int} {ao:Option Addr} {n cap:Nat} {po:Option Addr} {pc p1 p2:Nat} {so:Option Addr} {sd:Nat} {S:List Nat} {p3 p4:Nat} {to':Option Addr} {td:Nat} {T:List Nat} (h:HgSt w wr H go ga gb r c ao n cap po pc p1 p2 so sd S p3 p4 to' td T) {j:Nat} (hj:j < n):∃ g z0,po = some ⟨g,0,none⟩∧wr.cell? ⟨g,j,none⟩ = some (.int .u64 z0)∧wr.frozen? ⟨g,j,none⟩ = false∧∀ z,HgSt w (wr.setCell ⟨g,j,none⟩ (.int .u64 z)) H go ga gb r c ao n cap po pc p1 p2 so sd S p3 p4 to' td T:=by
 obtain ⟨g,e1,e2,e3,e4⟩:=h.copy.resolve_left (by omega)
 obtain ⟨z0,cz⟩:=e4.cell hj
 exact ⟨g,z0,e1,cz,e4.free j,fun z=>⟨h.bel.setCell (p:=⟨g,j,none⟩) (by show w.heap.size≤g;omega) _,h.m.other (p:=⟨g,j,none⟩) (h.m.away cz) _,h.own.other (p:=⟨g,j,none⟩) (h.own.away cz) _,h.copy.set g j z,h.s.put cz e3 z,h.t.put cz e3 z⟩⟩
set_option maxRecDepth 20000 in
set_option maxHeartbeats 16000000 in
theorem qrFactors_of (r c:Int) (ao:Option Addr) (cap:Nat) (I:List Int) (p1 p2 p3 p4:Nat) (S T:List Nat) (f er:Int) (w:World) (hI:BitsAt w ao cap I) (hl:I.length≤17592186043904)
  (way:(f ≠ 0∧(f = 1 ∨ f = 4)) ∨ f = 0)
  (C2:∀ w' po pc,Below w.heap.size w w'→BitsAt w' po pc I→Calls Tryz.prog 8 #[.agg #[.int .i64 r,.int .i64 c,.slice po I.length pc]] w' fun e w''=>∃ v u,e = .returned (.tuple #[v,u,.int .i64 er])∧NewM w'.heap.size w'' p1 p2 S v∧NewM w'.heap.size w'' p3 p4 T u∧Below w'.heap.size w' w'')
  (C5:∀ w',Below w.heap.size w w'→Calls Tryz.prog 9 #[.agg #[.int .i64 r,.int .i64 c,.slice ao I.length cap]] w' fun e w''=>e = .returned (.int .i64 f)∧Below w'.heap.size w' w'')
  (C6:f ≠ 0→∀ w' so sd to' td,BitsAt w' so sd (mxL S)→BitsAt w' to' td (mxL T)→Calls Tryz.prog 10 #[.agg #[.int .i64 p1,.int .i64 p2,.slice so S.length sd],.agg #[.int .i64 p3,.int .i64 p4,.slice to' T.length td],.int .i64 er,.agg #[.int .i64 0,.int .i64 0,.slice none 0 0,.int .i64 0,.int .i64 0,.slice none 0 0,.bool false],.int .i64 f] w' fun e w''=>e = .returned (.bool true)∧Below w'.heap.size w' w'')
  (C7:f = 0→∀ w',Below w.heap.size w w'→Calls Tryz.prog 12 #[.agg #[.int .i64 r,.int .i64 c,.slice ao I.length cap]] w' fun e w''=>∃ v,e = .returned v∧(∀ w3 so sd to' td,Below w''.heap.size w'' w3→BitsAt w3 so sd (mxL S)→BitsAt w3 to' td (mxL T)→Calls Tryz.prog 10 #[.agg #[.int .i64 p1,.int .i64 p2,.slice so S.length sd],.agg #[.int .i64 p3,.int .i64 p4,.slice to' T.length td],.int .i64 er,v,.int .i64 0] w3 fun e w4=>e = .returned (.bool true)∧Below w3.heap.size w3 w4)∧Below w'.heap.size w' w'')
  (CA:∀ w',Below w.heap.size w w'→Calls Tryz.prog 11 #[] w' fun e w''=>e = .returned (.bool true)∧Below w'.heap.size w' w'') :
  Calls Tryz.prog 3 #[.agg #[.int .i64 r,.int .i64 c,.slice ao I.length cap]] w fun e w'=>e = .returned (.bool true)∧Below w.heap.size w w':=by
 have WAY:=hide way
 have K2:=hide C2;have K5:=hide C5;have K6:=hide C6;have K7:=hide C7;have KA:=hide CA
 have b0:=below_alloc9 w (.cells #[.int .i64 r,.int .i64 c,.slice ao I.length cap] 24)
 have s0:=size_alloc9 w (.cells #[.int .i64 r,.int .i64 c,.slice ao I.length cap] 24)
 have x0:=BoxM.new w (.int .i64 r) (.int .i64 c) (.slice ao I.length cap)
 have HX0:=hide x0;have HBB:=hide b0;have HZ2:=hide s0
 have K1:=hide (rcopy_any r c ao cap I _ (hI.below b0) hl)
 have SAME:=hide (fun base w' po pc (o:OwnB base w' (.slice po I.length pc) (natL I))=>o.same hI)
 have hl2:=hide (show I.length≤35184372088830 by omega)
 clear b0 s0 x0 hI hl way C2 C5 C6 C7 CA
 go_enter Tryz.func3,Tryz.ntmps3
 go_wp2_with fail
 refine Calls.mono (uH K1) ?_
 rintro e w1 ⟨po,pc,rfl,own1,hb1⟩
 have bel1:=(uH HBB).trans (hb1.mono (uH HBB).size)
 have ba:=below_alloc9 w1 (.cells #[.int .i64 r,.int .i64 c,.slice po I.length pc] 24)
 have Q1:=hide ((uH SAME _ _ _ _ own1).below ba)
 have CP:=hide (((own1.copy.base (Nat.le_refl _)).base (show w.heap.size+1≤_ by rw [uH HZ2];exact Nat.le_refl _)).below ba)
 have BX:=hide (BoxM.new w1 (.int .i64 r) (.int .i64 c) (.slice po I.length pc))
 have A0:=hide (((uH HX0).all hb1).all ba)
 have B1:=hide (bel1.trans (ba.mono bel1.size))
 clear own1 hb1 bel1 ba K1 HX0 HBB SAME HZ2
 have y0:=(uH BX).c0;have y1:=(uH BX).c1;have y2:=(uH BX).c2
 go_wp2_with fail
 refine (uH K2 _ _ _ (uH B1) (uH Q1)).mono ?_
 rintro e w2 ⟨v,u,rfl,⟨so,sd,rfl,ns,qs⟩,⟨to',td,rfl,nt,qt⟩,hb2⟩
 have zz:=hide (size_alloc9 w1 (.cells #[.int .i64 r,.int .i64 c,.slice po I.length pc] 24))
 have ba:=below_alloc9 w2 (.cells #[.int .i64 p1,.int .i64 p2,.slice so S.length sd] 24)
 have zb:=size_alloc9 w2 (.cells #[.int .i64 p1,.int .i64 p2,.slice so S.length sd] 24)
 have bb:=below_alloc9 (w2.alloc (.cells #[.int .i64 p1,.int .i64 p2,.slice so S.length sd] 24)) (.cells #[.int .i64 p3,.int .i64 p4,.slice to' T.length td] 24)
 have xb:=BoxM.new (w2.alloc (.cells #[.int .i64 p1,.int .i64 p2,.slice so S.length sd] 24)) (.int .i64 p3) (.int .i64 p4) (.slice to' T.length td)
 rw [zb] at xb
 have bel2:=(uH B1).trans (hb2.mono (uH B1).size)
 have bel3:=bel2.trans (ba.mono bel2.size)
 have ST:=hide (show HgSt w ((w2.alloc (.cells #[.int .i64 p1,.int .i64 p2,.slice so S.length sd] 24)).alloc (.cells #[.int .i64 p3,.int .i64 p4,.slice to' T.length td] 24)) w1.heap.size w1.heap.size w2.heap.size (w2.heap.size+1) r c ao I.length cap po pc p1 p2 so sd S p3 p4 to' td T from
  ⟨bel3.trans (bb.mono bel3.size),(((uH A0).all hb2).all ba).all bb,(((uH BX).all hb2).all ba).all bb,(((uH CP).below hb2).below ba).below bb,⟨(BoxM.new w2 _ _ _).all bb,(qs.below ba).below bb,NewB.least ns (by rw [uH zz];omega)⟩,⟨xb,(qt.below ba).below bb,NewB.least nt (by rw [uH zz];omega)⟩⟩)
 clear y0 y1 y2 ns qs nt qt hb2 ba bb xb zb bel2 bel3 zz B1 A0 BX CP Q1 K2
 have y0:=(uH ST).own.c0;have y1:=(uH ST).own.c1;have y2:=(uH ST).own.c2
 generalize hnS:S.length = nS at *
 generalize hnT:T.length = nT at *
 go_wp2_with fail
 clear y0 y1 y2
 generalize hg4:w2.heap.size+1 = g4 at *
 generalize hg3:w2.heap.size = g3 at *
 generalize hn:I.length = n at *
 go_loopw [7] (fun a wr=>∃ j:Nat,j≤n∧a = .int .i64 j∧Hid (HgSt w wr w1.heap.size w1.heap.size g3 g4 r c ao n cap po pc p1 p2 so sd S p3 p4 to' td T)) (fun a _=>n - (intOf a).toNat)
 case atStart=>exact ⟨0,Nat.zero_le _,rfl,ST⟩
 case round =>
  clear ST
  obtain ⟨j,hj,rfl,hX⟩:=hrel
  have t2:=(uH hX).own.c2
  by_cases hlt:j < n
  ·have hkI:(j:Int) < (n:Int):=by omega
   have hn2:=uH hl2
   obtain ⟨g,z0,rfl,cz,fz,put⟩:=(uH hX).put hlt
   have PUT:=hide (fun z=>put z)
   clear put hX
   go_wp2_with fail
   go_region_with fail
   all_goals
    go_wp2_with fail
    go_round
    case rel=>exact ⟨j+1,by omega,by go_num,hide ((uH PUT _).all (Below.refl _ _).drew)⟩
    case measure=>simp [intOf];omega
  ·have hkk:n = j:=by omega
   subst hkk
   have a0:=(uH hX).m.c0;have a1:=(uH hX).m.c1;have a2:=(uH hX).m.c2
   have ST:=hX
   clear hX
   go_wp2_with fail
   refine (uH K5 _ (uH ST).bel).mono ?_
   rintro e w5 ⟨rfl,hb⟩
   clear a0 a1 a2 t2
   replace ST:=hide ((uH ST).all hb)
   clear hb K5
   have s0':=(uH ST).s.box.c0;have s1':=(uH ST).s.box.c1;have s2':=(uH ST).s.box.c2
   have u0':=(uH ST).t.box.c0;have u1':=(uH ST).t.box.c1;have u2':=(uH ST).t.box.c2
   rw [hnS] at s2'
   rw [hnT] at u2'
   rcases uH WAY with ⟨hf0,hf⟩ | rfl
   ·have G6:=hide (uH K6 hf0 _ _ _ _ _ (uH ST).s.bits (uH ST).t.bits)
    clear WAY K6 K7
    rcases hf with rfl | rfl
    all_goals
     go_wp2_with fail
     refine Calls.mono (uH G6) ?_
     rintro e w8 ⟨rfl,hb⟩
     have BE:=hide ((uH ST).bel.trans (hb.mono (uH ST).bel.size))
     clear s0' s1' s2' u0' u1' u2' hb ST G6
     go_wp2_with fail
     refine (uH KA _ (uH BE)).mono ?_
     rintro e w19 ⟨rfl,hb⟩
     replace BE:=hide ((uH BE).trans (hb.mono (uH BE).size))
     clear hb
     go_wp2
     go_ret
     exact ⟨rfl,uH BE⟩
   ·have G7:=hide (uH K7 (by first | rfl | trivial))
    clear WAY K6 K7
    go_wp2_with fail
    refine at_world (fun W=>HgSt w W w1.heap.size w1.heap.size g3 g4 r c ao n cap po pc p1 p2 so sd S p3 p4 to' td T) (uH ST) ?_
    clear s0' s1' s2' u0' u1' u2' ST
    intro W st
    have ST:=hide st
    have HK:=hide (fun w' (h:Below W.heap.size W w')=>(show Below W.heap.size W w'∧(w'.cell? ⟨w.heap.size,0,none⟩ = some (.int .i64 r)∧w'.cell? ⟨w.heap.size,1,none⟩ = some (.int .i64 c)∧w'.cell? ⟨w.heap.size,2,none⟩ = some (.slice ao n cap))∧(w'.cell? ⟨g3,0,none⟩ = some (.int .i64 p1)∧w'.cell? ⟨g3,1,none⟩ = some (.int .i64 p2)∧w'.cell? ⟨g3,2,none⟩ = some (.slice so nS sd))∧(w'.cell? ⟨g4,0,none⟩ = some (.int .i64 p3)∧w'.cell? ⟨g4,1,none⟩ = some (.int .i64 p4)∧w'.cell? ⟨g4,2,none⟩ = some (.slice to' nT td)) from
     have y:=st.all h;⟨h,⟨y.m.c0,y.m.c1,y.m.c2⟩,⟨y.s.box.c0,y.s.box.c1,by rw [← hnS];exact y.s.box.c2⟩,y.t.box.c0,y.t.box.c1,by rw [← hnT];exact y.t.box.c2⟩))
    have HW:=hide (fun w' (h:Below W.heap.size W w')=>st.bel.trans (h.mono st.bel.size))
    clear st
    go_region_held3 (fun w'=>Below W.heap.size W w'∧(w'.cell? ⟨w.heap.size,0,none⟩ = some (.int .i64 r)∧w'.cell? ⟨w.heap.size,1,none⟩ = some (.int .i64 c)∧w'.cell? ⟨w.heap.size,2,none⟩ = some (.slice ao n cap))∧(w'.cell? ⟨g3,0,none⟩ = some (.int .i64 p1)∧w'.cell? ⟨g3,1,none⟩ = some (.int .i64 p2)∧w'.cell? ⟨g3,2,none⟩ = some (.slice so nS sd))∧(w'.cell? ⟨g4,0,none⟩ = some (.int .i64 p3)∧w'.cell? ⟨g4,1,none⟩ = some (.int .i64 p4)∧w'.cell? ⟨g4,2,none⟩ = some (.slice to' nT td)))
     (first | exact uH HK _ (Below.refl _ _).drew | exact uH HK _ (by assumption) | fail "KK")
     (first | (go_at_call 12;refine (uH G7 _ (uH HW _ (And.left (by assumption)))).mono ?_;rintro e w5 ⟨v,rfl,kt,hb5⟩;have hB5:Below W.heap.size W w5:=Below.trans (And.left (by assumption)) (hb5.mono (Below.size (And.left (by assumption))));have KT:=hide (fun w3 h3=>kt w3 so sd to' td h3 (by exact ((uH ST).s.bits).below (hB5.trans (h3.mono hB5.size))) (by exact ((uH ST).t.bits).below (hB5.trans (h3.mono hB5.size))));clear kt hb5 G7) | (go_at_call 10;refine (uH KT _ (by first | exact (Below.refl _ _) | exact (Below.refl _ _).drew | exact below_drewN (Below.refl _ _) _)).mono ?_;rintro e w6 ⟨rfl,hb6⟩;have hB6:Below W.heap.size W w6:=Below.trans (And.left (by assumption)) (hb6.mono (Below.size (And.left (by assumption))));clear hb6) | (go_at_call 11;refine (uH KA _ (uH HW _ (And.left (by assumption)))).mono ?_;rintro e w7 ⟨rfl,hb7⟩;have hB7:Below W.heap.size W w7:=Below.trans (And.left (by assumption)) (hb7.mono (Below.size (And.left (by assumption))));clear hb7) | fail "NO ARM")
    all_goals
     have BE:=hide (uH HW _ (And.left (by assumption)))
     go_wp2
     go_ret
     exact ⟨rfl,uH BE⟩
end Go.Proofs.YtfkndkaneffgdaaGreatDoor
namespace Go.Proofs.YtfkndkaneffgdaaGreatDoor
open Go.RowKit
theorem q345_fin:finL (apM 2 2 (eyM 2) 0 0 [4607182418800017408,4602678819172646912] 4609884578576439706) = true:=by decide +kernel
theorem t345:mrT [4613937818241073152,4616189618054758400] = 4609884578576439706:=by
 obtain ⟨_,_,_,_,_,_,_,_,_,h10,_⟩:=w13_facts
 show (if ngt [4616189618054758400] = true then 0 else dV (aV (hmB 4613937818241073152 [4616189618054758400]) (fN 4613937818241073152)) (hmB 4613937818241073152 [4616189618054758400])) = _
 rw [if_neg (by rw [h10];decide),hm_345.1]
 exact q345_facts.1
theorem x345:qrX 2 1 [4613937818241073152,4616189618054758400] 0 = [4613937818241073152,4616189618054758400]:=rfl
theorem r345:facR 2 1 [4613937818241073152,4616189618054758400] = [13840687554816376832,0]:=by
 show clM 2 1 (apM 2 1 [4613937818241073152,4616189618054758400] 0 0 (mrV (qxL 2 1 [4613937818241073152,4616189618054758400] 0)) (mrT (qxL 2 1 [4613937818241073152,4616189618054758400] 0))) 0 (mrB (qxL 2 1 [4613937818241073152,4616189618054758400] 0)) = _
 have e:qxL 2 1 [4613937818241073152,4616189618054758400] 0 = [4613937818241073152,4616189618054758400]:=rfl
 rw [e,mr_345.1]
 generalize apM 2 1 [4613937818241073152,4616189618054758400] 0 0 _ _ = T
 rfl
theorem k345:facK 2 1 [4613937818241073152,4616189618054758400] = true:=by
 have eN:qrN 2 1 = 1:=rfl
 have eQ:facQ 2 1 [4613937818241073152,4616189618054758400] = apM 2 2 (eyM 2) 0 0 (mrV [4613937818241073152,4616189618054758400]) (mrT [4613937818241073152,4616189618054758400]):=rfl
 have k1:qrK 2 1 [4613937818241073152,4616189618054758400] (qrN 2 1) = true:=by
  rw [eN,qrK_all]
  intro j hj
  obtain rfl:j = 0:=by omega
  rw [x345]
  refine ⟨?_,mr_345.2.2⟩
  show ((true && fFin 4613937818241073152) && fFin 4616189618054758400) = true
  rw [w13_facts.2.1,w13_facts.2.2.2.2.2.2.2.2.2.2.2.2]
  rfl
 unfold facK
 rw [k1,eQ,mr_345.2.1,t345,q345_fin,r345]
 show (true && (true && ((true && fFin 13840687554816376832) && fFin 0))) = true
 rw [w13_facts.2.2.2.2.2.2.2.2.2.2.1]
 decide +kernel
theorem qr_awake (w:World)
  (CY:∀ w' ao cap (r c:Nat) S,Below w.heap.size w w'→Mx w' ao cap r c S→finL S = true→facK r c S = true→Calls Tryz.prog 8 #[.agg #[.int .i64 r,.int .i64 c,.slice ao S.length cap]] w' fun e w''=>∃ v u,e = .returned (.tuple #[v,u,.int .i64 0])∧NewM w'.heap.size w'' r r (facQ r c S) v∧NewM w'.heap.size w'' r c (facR r c S) u∧Below w'.heap.size w' w'') :
  ∀ w',Below w.heap.size w w'→Calls Tryz.prog 11 #[] w' fun e w''=>e = .returned (.bool true)∧Below w'.heap.size w' w'':=by
 intro w' hb
 refine awake14_of w' (fun w2 ao hb2 hI=>?_)
 have hM:Mx w2 ao 2 2 1 [4613937818241073152,4616189618054758400]:=⟨hI,rfl,by decide,by decide⟩
 have hf:finL [4613937818241073152,4616189618054758400] = true:=by
  show ((true && fFin 4613937818241073152) && fFin 4616189618054758400) = true
  rw [w13_facts.2.1,w13_facts.2.2.2.2.2.2.2.2.2.2.2.2]
  rfl
 refine (CY w2 ao 2 2 1 _ (hb.trans (hb2.mono hb.size)) hM hf k345).mono ?_
 rintro e w3 ⟨v,u,rfl,⟨qo,qc,rfl,_,_⟩,⟨ro,rc,rfl,_,hr⟩,hb3⟩
 rw [r345] at hr ⊢
 exact ⟨_,_,qo,_,qc,ro,rc,rfl,hr,hb3⟩
theorem qrFactors_by (r c:Int) (ao:Option Addr) (cap:Nat) (I:List Int) (w:World) (hI:BitsAt w ao cap I) (hl:I.length≤17592186043904)
  (CE:∀ w' po pc,Below w.heap.size w w'→BitsAt w' po pc I→ckE r c I ≠ 0→Calls Tryz.prog 8 #[.agg #[.int .i64 r,.int .i64 c,.slice po I.length pc]] w' fun e w''=>∃ v u,e = .returned (.tuple #[v,u,.int .i64 (ckE r c I)])∧NewM w'.heap.size w'' 0 0 [] v∧NewM w'.heap.size w'' 0 0 [] u∧Below w'.heap.size w' w'')
  (CN:∀ w' ao cap (r c:Nat) S,Below w.heap.size w w'→Mx w' ao cap r c S→finL S = true→facK r c S = false→Calls Tryz.prog 8 #[.agg #[.int .i64 r,.int .i64 c,.slice ao S.length cap]] w' fun e w''=>∃ v u,e = .returned (.tuple #[v,u,.int .i64 2])∧NewM w'.heap.size w'' 0 0 [] v∧NewM w'.heap.size w'' 0 0 [] u∧Below w'.heap.size w' w'')
  (CY:∀ w' ao cap (r c:Nat) S,Below w.heap.size w w'→Mx w' ao cap r c S→finL S = true→facK r c S = true→Calls Tryz.prog 8 #[.agg #[.int .i64 r,.int .i64 c,.slice ao S.length cap]] w' fun e w''=>∃ v u,e = .returned (.tuple #[v,u,.int .i64 0])∧NewM w'.heap.size w'' r r (facQ r c S) v∧NewM w'.heap.size w'' r c (facR r c S) u∧Below w'.heap.size w' w'') :
  Calls Tryz.prog 3 #[.agg #[.int .i64 r,.int .i64 c,.slice ao I.length cap]] w fun e w'=>e = .returned (.bool true)∧Below w.heap.size w w':=by
 have CA:=qr_awake w CY
 have C5:=fun w' (hb:Below w.heap.size w w')=>r11check_any r c ao cap I w' (hI.below hb) (by omega)
 by_cases h0:ckE r c I = 0
 ·obtain ⟨ho,hf⟩:=ckE_zero h0
  obtain ⟨p,q,rfl,rfl,hM,hS⟩:=Mx.of hI ho
  have e1:=natL_len I
  rw [h0] at C5
  have hfin:finL (natL I) = true:=by
   unfold finL
   rw [mxL_natL hI,e1]
   exact hf
  have F:=fun w' (hb:Below w.heap.size w w')=>rfactor14_any p q cap ao (natL I) w' (hM.below hb)
  cases hk:facK p q (natL I)
  ·refine qrFactors_of p q ao cap I 0 0 0 0 [] [] 0 2 w hI hl (.inr rfl) (fun w' po pc hb hx=>?_) C5 (fun e=>absurd rfl e) (fun _ w' hb=>?_) CA
   ·have:=CN w' po pc p q (natL I) hb (Mx.from hx ho) hfin hk
    rw [e1] at this
    exact this
   ·have:=F w' hb
    rw [e1,hk] at this
    refine this.mono ?_
    rintro e w'' ⟨h,hb2⟩
    rcases h with ⟨e,_⟩ | ⟨_,rfl⟩
    ·cases e
    ·exact ⟨_,rfl,fun w3 so sd to' td _ _ _=>told14_no 0 2 false so to' sd td _ _ _ _ _ _ w3 (.inl ⟨rfl,rfl,rfl⟩),hb2⟩
  ·have lq:(facQ p q (natL I)).length = p * p:=qrQ_len _ _ _ _ _
   have lr:(facR p q (natL I)).length = I.length:=(qrR_len p q (natL I) hM.2.1 _).trans (hM.2.1.symm.trans e1)
   refine qrFactors_of p q ao cap I p p p q (facQ p q (natL I)) (facR p q (natL I)) 0 0 w hI hl (.inr rfl) (fun w' po pc hb hx=>?_) C5 (fun e=>absurd rfl e) (fun _ w' hb=>?_) CA
   ·have:=CY w' po pc p q (natL I) hb (Mx.from hx ho) hfin hk
    rw [e1] at this
    exact this
   ·have:=F w' hb
    rw [e1,hk] at this
    refine this.mono ?_
    rintro e w'' ⟨h,hb2⟩
    rcases h with ⟨_,qo,qc,ro,rc,rfl,b1,b2⟩ | ⟨e,_⟩
    ·refine ⟨_,rfl,fun w3 so sd to' td h3 hs ht=>?_,hb2⟩
     have:=told14_yes p p p q so to' qo ro sd td qc rc (facQ p q (natL I)) (facR p q (natL I)) w3 hs ht (b1.below h3) (b2.below h3) (by rw [lq];exact Nat.mul_le_mul hM.2.2.1 hM.2.2.1) (by rw [lr,← e1];exact hM.small)
     rw [lq,lr] at this ⊢
     exact this
    ·cases e
 ·have hw:ckE r c I = 1 ∨ ckE r c I = 4:=by
   unfold ckE at h0 ⊢
   repeat' split
   all_goals first | exact .inl rfl | exact .inr rfl | (exfalso;revert h0;simp_all)
  exact qrFactors_of r c ao cap I 0 0 0 0 [] [] (ckE r c I) (ckE r c I) w hI hl (.inl ⟨h0,hw⟩) (fun w' po pc hb hx=>CE w' po pc hb hx h0) C5 (fun _ w' so sd to' td _ _=>told14_no (ckE r c I) (ckE r c I) false so to' sd td _ _ _ _ _ _ w' (.inr (by rcases hw with e | e;exact .inl ⟨e,e⟩;exact .inr ⟨e,e⟩))) (fun e=>absurd e h0) CA
end Go.Proofs.YtfkndkaneffgdaaGreatDoor
namespace Go.Proofs.YtfkndkaneffgdaaGreatDoor
open Go.RowKit
theorem qrFactors_walk (r c:Int) (ao:Option Addr) (cap:Nat) (I:List Int) (w:World) (hI:BitsAt w ao cap I) (hl:I.length≤17592186043904) (_hr:-9223372036854775808≤r∧r≤9223372036854775807) (_hc:-9223372036854775808≤c∧c≤9223372036854775807) (hT:Tab w) :
  Calls Tryz.prog 3 #[.agg #[.int .i64 r,.int .i64 c,.slice ao I.length cap]] w fun e w'=>e = .returned (.bool true)∧Below w.heap.size w w' :=
 qrFactors_by r c ao cap I w hI hl (fun w' po pc _ hx h=>qFactor_err r c po pc I w' hx hl h) (fun w' ao cap r c S hb h hf hk=>qFactor_no r c cap ao S w' h hf hk (hT.all hb)) (fun w' ao cap r c S hb h hf hk=>qFactor_yes r c cap ao S w' h hf hk (hT.all hb))
end Go.Proofs.YtfkndkaneffgdaaGreatDoor
namespace Go.Proofs.YtfkndkaneffgdaaGreatDoor
open Go.ChangeShapes Go.WideShapes Go.ChangeAt Go.RowKit Go.Joins
theorem Tryz.own:ownKnob Tryz.prog.godebug = none:=by kernel_rfl
theorem Tryz.laidOut:laidOutB Tryz.prog = true:=by kernel_rfl
end Go.Proofs.YtfkndkaneffgdaaGreatDoor
namespace Go.Proofs.YtfkndkaneffgdaaGreatDoor
theorem bounds_of_i64 {x:Int} (h:(Lit.int .i64 x).wf = true):-9223372036854775808≤x∧x≤9223372036854775807:=by
 simp [Lit.wf,IntKind.min,IntKind.max,IntKind.signed,IntKind.bits] at h
 omega
end Go.Proofs.YtfkndkaneffgdaaGreatDoor
