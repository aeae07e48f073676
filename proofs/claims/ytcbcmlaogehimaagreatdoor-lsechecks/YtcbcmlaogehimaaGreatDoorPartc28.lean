/- Part 28 of the texts. -/
import Derived.Test.YtcbcmlaogehimaaGreatDoorPartc27
import Derived.Test.YtcbcmlaogehimaaGreatDoorPartc24
import Derived.Test.YtcbcmlaogehimaaGreatDoorPartc21
import Derived.Test.YtcbcmlaogehimaaGreatDoorPartc22
import Derived.Test.YtcbcmlaogehimaaGreatDoorPartc20
set_option maxHeartbeats 32000000
set_option maxRecDepth 20000
namespace Go.Proofs.YtcbcmlaogehimaaGreatDoor
open Go.RowKit
attribute [local go_sem ↓] Go.wp_at_zero Go.wp_at_succ
theorem lfin_yes (r c:Int) (n cap:Nat) (ao:Option Addr) (w:World)
  (C:∀ w',Below w.heap.size w w'→Calls Tryz.prog 63 #[.agg #[.int .i64 r,.int .i64 c,.slice ao n cap]] w' fun e w''=>e = .returned (.int .i64 0)∧Below w'.heap.size w' w'') :
  Calls Tryz.prog 76 #[.agg #[.int .i64 r,.int .i64 c,.slice ao n cap]] w fun e w'=>e = .returned (.bool true)∧Below w.heap.size w w':=by
 have b0:=below_alloc9 w (.cells #[.int .i64 r,.int .i64 c,.slice ao n cap] 24)
 have HX:=hide (BoxM.new w (.int .i64 r) (.int .i64 c) (.slice ao n cap))
 have HB:=hide b0;have K:=hide C
 clear b0 C
 go_enter Tryz.func76,Tryz.ntmps76
 have y0:=(uH HX).c0;have y1:=(uH HX).c1;have y2:=(uH HX).c2
 go_wp2_with fail
 refine (uH K _ (uH HB)).mono ?_
 rintro e w1 ⟨rfl,hb⟩
 replace HB:=hide ((uH HB).trans (hb.mono (uH HB).size))
 clear hb
 go_wp2_with fail
 go_ret
 exact ⟨rfl,uH HB⟩
theorem lfin_no (r c:Int) (n cap:Nat) (ao:Option Addr) (w:World)
  (C:∀ w',Below w.heap.size w w'→Calls Tryz.prog 63 #[.agg #[.int .i64 r,.int .i64 c,.slice ao n cap]] w' fun e w''=>e = .returned (.int .i64 4)∧Below w'.heap.size w' w'') :
  Calls Tryz.prog 76 #[.agg #[.int .i64 r,.int .i64 c,.slice ao n cap]] w fun e w'=>e = .returned (.bool false)∧Below w.heap.size w w':=by
 have b0:=below_alloc9 w (.cells #[.int .i64 r,.int .i64 c,.slice ao n cap] 24)
 have HX:=hide (BoxM.new w (.int .i64 r) (.int .i64 c) (.slice ao n cap))
 have HB:=hide b0;have K:=hide C
 clear b0 C
 go_enter Tryz.func76,Tryz.ntmps76
 have y0:=(uH HX).c0;have y1:=(uH HX).c1;have y2:=(uH HX).c2
 go_wp2_with fail
 refine (uH K _ (uH HB)).mono ?_
 rintro e w1 ⟨rfl,hb⟩
 replace HB:=hide ((uH HB).trans (hb.mono (uH HB).size))
 clear hb
 go_wp2_with fail
 go_ret
 exact ⟨rfl,uH HB⟩
theorem boxes4_20 (w:World) (x y z x' y' z' x2 y2 z2 x3 y3 z3:Value) (w1:World) (h:Below (w.heap.size+1+1+1+1) ((((w.alloc (.cells #[x,y,z] 24)).alloc (.cells #[x',y',z'] 24)).alloc (.cells #[x2,y2,z2] 24)).alloc (.cells #[x3,y3,z3] 24)) w1) :
  Below w.heap.size w w1∧BoxM w1 w.heap.size x y z∧BoxM w1 (w.heap.size+1) x' y' z'∧BoxM w1 (w.heap.size+1+1) x2 y2 z2∧BoxM w1 (w.heap.size+1+1+1) x3 y3 z3:=by
 have s0:=size_alloc9 w (.cells #[x,y,z] 24)
 have h':Below ((w.alloc (.cells #[x,y,z] 24)).heap.size+1+1+1) ((((w.alloc (.cells #[x,y,z] 24)).alloc (.cells #[x',y',z'] 24)).alloc (.cells #[x2,y2,z2] 24)).alloc (.cells #[x3,y3,z3] 24)) w1:=by rw [s0];exact h
 obtain ⟨h1,h2,h3,h6⟩:=boxes3 _ x' y' z' x2 y2 z2 x3 y3 z3 w1 h'
 rw [s0] at h1 h2 h3 h6
 obtain ⟨h4,h5⟩:=boxes1 w x y z w1 h1
 exact ⟨h4,h5,h2,h3,h6⟩
theorem boxT_20 (T:TypeId) (w:World) (xs:List Value) (w1:World) (h:Below (w.heap.size+1) (w.alloc (.cells xs.toArray T)) w1):Below w.heap.size w w1∧BoxL T w1 w.heap.size xs:=by
 have b0:=below_alloc9 w (.cells xs.toArray T)
 have s0:=size_alloc9 w (.cells xs.toArray T)
 have x0:=BoxL.new T w xs
 rw [← s0] at h
 exact ⟨b0.trans (h.mono b0.size),x0.all h⟩
theorem boxesT1_20 (T:TypeId) (w:World) (xs:List Value) (x y z:Value) (w1:World) (h:Below (w.heap.size+1+1) ((w.alloc (.cells xs.toArray T)).alloc (.cells #[x,y,z] 24)) w1) :
  Below w.heap.size w w1∧BoxL T w1 w.heap.size xs∧BoxM w1 (w.heap.size+1) x y z:=by
 have s0:=size_alloc9 w (.cells xs.toArray T)
 have h':Below ((w.alloc (.cells xs.toArray T)).heap.size+1) ((w.alloc (.cells xs.toArray T)).alloc (.cells #[x,y,z] 24)) w1:=by rw [s0];exact h
 obtain ⟨h1,h2⟩:=boxes1 _ x y z w1 h'
 rw [s0] at h1 h2
 obtain ⟨h4,h5⟩:=boxT_20 T w xs w1 h1
 exact ⟨h4,h5,h2⟩
theorem boxesT3_20 (T:TypeId) (w:World) (xs:List Value) (x y z x' y' z' x2 y2 z2:Value) (w1:World) (h:Below (w.heap.size+1+1+1+1) ((((w.alloc (.cells xs.toArray T)).alloc (.cells #[x,y,z] 24)).alloc (.cells #[x',y',z'] 24)).alloc (.cells #[x2,y2,z2] 24)) w1) :
  Below w.heap.size w w1∧BoxL T w1 w.heap.size xs∧BoxM w1 (w.heap.size+1) x y z∧BoxM w1 (w.heap.size+1+1) x' y' z'∧BoxM w1 (w.heap.size+1+1+1) x2 y2 z2:=by
 have s0:=size_alloc9 w (.cells xs.toArray T)
 have h':Below ((w.alloc (.cells xs.toArray T)).heap.size+1+1+1) ((((w.alloc (.cells xs.toArray T)).alloc (.cells #[x,y,z] 24)).alloc (.cells #[x',y',z'] 24)).alloc (.cells #[x2,y2,z2] 24)) w1:=by rw [s0];exact h
 obtain ⟨h1,h2,h3,h6⟩:=boxes3 _ x y z x' y' z' x2 y2 z2 w1 h'
 rw [s0] at h1 h2 h3 h6
 obtain ⟨h4,h5⟩:=boxT_20 T w xs w1 h1
 exact ⟨h4,h5,h2,h3,h6⟩
theorem two_out20 {w wr:World} {g h:Nat} (bel:Below w.heap.size w wr) (hg:w.heap.size≤g) (hh:g < h) (h4:BoxM wr g (.int .i64 0) (.int .i64 0) (.slice none 0 0)) (h5:BoxM wr h (.int .i64 0) (.int .i64 0) (.slice none 0 0)) (x0 x1 x2 y0 y1 y2:Value) (F:World)
  (hF:F = ((((((wr.setCell ⟨g,0,none⟩ x0).setCell ⟨g,1,none⟩ x1).setCell ⟨g,2,none⟩ x2).setCell ⟨h,0,none⟩ y0).setCell ⟨h,1,none⟩ y1).setCell ⟨h,2,none⟩ y2)) :
  BoxM F g x0 x1 x2∧BoxM F h y0 y1 y2∧Below w.heap.size w F∧(∀ ao c I,BitsAt wr ao c I→BitsAt F ao c I):=by
 subst hF
 have x:=h4.put x0 x1 x2
 have y:=h5.three (g:=g) (by omega) x0 x1 x2
 exact ⟨x.three (by omega) _ _ _,y.put _ _ _,below_putM (b:=h) (below_putM (b:=g) bel hg _ _ _) (by omega) _ _ _,fun ao c I q=>(BitsAt.putM q h4 _ _ _).putM y _ _ _⟩
def LbAns (w':World) (p n nQ nY:Nat) (er:Int) (Q Y:List Nat) (e:Ending):Prop :=
 (er = 0∧∃ qo qc yo yc,e = .returned (.tuple #[.agg #[.int .i64 (n:Nat),.int .i64 (n:Nat),.slice qo nQ qc],.agg #[.int .i64 (p:Nat),.int .i64 1,.slice yo nY yc],.int .i64 0])∧BitsAt w' qo qc (mxL Q)∧BitsAt w' yo yc (mxL Y)) ∨
 (er ≠ 0∧e = .returned (.tuple #[.agg #[.int .i64 0,.int .i64 0,.slice none 0 0],.agg #[.int .i64 0,.int .i64 0,.slice none 0 0],.int .i64 er]))
theorem lbound_of (p n nS cap nD d nU nQ nR nT nS2 nY:Nat) (ao bo:Option Addr) (U Q R T S Y:List Nat) (k fl:Bool) (er ef:Int) (w:World) (hef:ef ≠ 0)
  (C1:∀ w',Below w.heap.size w w'→Calls Tryz.prog 103 #[.agg #[.int .i64 (p:Nat),.int .i64 (n:Nat),.slice ao nS cap]] w' fun e w''=>(∃ uo uc,e = .returned (.tuple #[.agg #[.int .i64 (n:Nat),.int .i64 (p:Nat),.slice uo nU uc],.int .i64 0])∧BitsAt w'' uo uc (mxL U))∧Below w'.heap.size w' w'')
  (C2:∀ w' uo uc,Below w.heap.size w w'→BitsAt w' uo uc (mxL U)→Calls Tryz.prog 94 #[.agg #[.int .i64 (n:Nat),.int .i64 (p:Nat),.slice uo nU uc]] w' fun e w''=>((k = true∧∃ qo qc ro rc,e = .returned (.tuple #[.agg #[.int .i64 (n:Nat),.int .i64 (n:Nat),.slice qo nQ qc],.agg #[.int .i64 (n:Nat),.int .i64 (p:Nat),.slice ro nR rc],.int .i64 0])∧BitsAt w'' qo qc (mxL Q)∧BitsAt w'' ro rc (mxL R)) ∨ (k = false∧∃ (a1 a2 b1 b2:Int) (qo ro:Option Addr) (qn qc rn rc:Nat),e = .returned (.tuple #[.agg #[.int .i64 a1,.int .i64 a2,.slice qo qn qc],.agg #[.int .i64 b1,.int .i64 b2,.slice ro rn rc],.int .i64 ef])))∧Below w'.heap.size w' w'')
  (C3:∀ w' ro rc,Below w.heap.size w w'→BitsAt w' ro rc (mxL R)→Calls Tryz.prog 95 #[.agg #[.int .i64 (n:Nat),.int .i64 (p:Nat),.slice ro nR rc],.int .i64 0,.int .i64 0,.int .i64 (p:Nat),.int .i64 (p:Nat)] w' fun e w''=>(∃ jo jc,e = .returned (.tuple #[.agg #[.int .i64 (p:Nat),.int .i64 (p:Nat),.slice jo nT jc],.int .i64 0])∧BitsAt w'' jo jc (mxL T))∧Below w'.heap.size w' w'')
  (C4:∀ w' jo jc,Below w.heap.size w w'→BitsAt w' jo jc (mxL T)→Calls Tryz.prog 103 #[.agg #[.int .i64 (p:Nat),.int .i64 (p:Nat),.slice jo nT jc]] w' fun e w''=>(∃ so sc,e = .returned (.tuple #[.agg #[.int .i64 (p:Nat),.int .i64 (p:Nat),.slice so nS2 sc],.int .i64 0])∧BitsAt w'' so sc (mxL S))∧Below w'.heap.size w' w'')
  (C5:k = true→∀ w' so sc,Below w.heap.size w w'→BitsAt w' so sc (mxL S)→Calls Tryz.prog 50 #[.agg #[.int .i64 (p:Nat),.int .i64 (p:Nat),.slice so nS2 sc]] w' fun e w''=>e = .returned (.tuple #[.bool fl,.int .i64 0])∧Below w'.heap.size w' w'')
  (C6:k = true→∀ w' so sc,Below w.heap.size w w'→BitsAt w' so sc (mxL S)→Calls Tryz.prog 128 #[.agg #[.int .i64 (p:Nat),.int .i64 (p:Nat),.slice so nS2 sc],.agg #[.int .i64 (p:Nat),.int .i64 1,.slice bo nD d]] w' fun e w''=>((er = 0∧∃ yo yc,e = .returned (.tuple #[.agg #[.int .i64 (p:Nat),.int .i64 1,.slice yo nY yc],.int .i64 0])∧BitsAt w'' yo yc (mxL Y)) ∨ (er ≠ 0∧e = .returned (.tuple #[.agg #[.int .i64 0,.int .i64 0,.slice none 0 0],.int .i64 er])))∧Below w'.heap.size w' w'') :
  Calls Tryz.prog 72 #[.agg #[.int .i64 (p:Nat),.int .i64 (n:Nat),.slice ao nS cap],.agg #[.int .i64 (p:Nat),.int .i64 1,.slice bo nD d]] w fun e w'=>LbAns w' p n nQ nY (if k = true then (if fl = true then 5 else er) else ef) Q Y e∧Below w.heap.size w w':=by
 have b4:=boxes4_20 w (.int .i64 (p:Nat)) (.int .i64 (n:Nat)) (.slice ao nS cap) (.int .i64 (p:Nat)) (.int .i64 1) (.slice bo nD d) (.int .i64 0) (.int .i64 0) (.slice none 0 0) (.int .i64 0) (.int .i64 0) (.slice none 0 0) ((((w.alloc (.cells #[.int .i64 (p:Nat),.int .i64 (n:Nat),.slice ao nS cap] 24)).alloc (.cells #[.int .i64 (p:Nat),.int .i64 1,.slice bo nD d] 24)).alloc (.cells #[.int .i64 0,.int .i64 0,.slice none 0 0] 24)).alloc (.cells #[.int .i64 0,.int .i64 0,.slice none 0 0] 24)) (by have:=Below.refl ((((w.alloc (.cells #[.int .i64 (p:Nat),.int .i64 (n:Nat),.slice ao nS cap] 24)).alloc (.cells #[.int .i64 (p:Nat),.int .i64 1,.slice bo nD d] 24)).alloc (.cells #[.int .i64 0,.int .i64 0,.slice none 0 0] 24)).alloc (.cells #[.int .i64 0,.int .i64 0,.slice none 0 0] 24)).heap.size ((((w.alloc (.cells #[.int .i64 (p:Nat),.int .i64 (n:Nat),.slice ao nS cap] 24)).alloc (.cells #[.int .i64 (p:Nat),.int .i64 1,.slice bo nD d] 24)).alloc (.cells #[.int .i64 0,.int .i64 0,.slice none 0 0] 24)).alloc (.cells #[.int .i64 0,.int .i64 0,.slice none 0 0] 24));simpa only [size_alloc9] using this)
 obtain ⟨b0,x0,x1,x2,x3⟩:=b4
 have HA:=hide x0;have HD:=hide x1;have H1:=hide x2;have H2:=hide x3;have HB:=hide b0
 have KC1:=hide C1
 have KC2:=hide C2
 have KC3:=hide C3
 have KC4:=hide C4
 have KC5:=hide C5
 have KC6:=hide C6
 clear b0 x0 x1 x2 x3 C1 C2 C3 C4 C5 C6
 generalize hE:(if k = true then (if fl = true then 5 else er) else ef) = E
 have HE:=hide hE
 clear hE
 go_enter Tryz.func72,Tryz.ntmps72
 have p0:=(uH HA).c0
 have p1:=(uH HA).c1
 have p2:=(uH HA).c2
 go_wp2_with fail
 clear p0 p1 p2
 refine (uH KC1 _ (uH HB)).mono ?_
 rintro e w1 ⟨⟨uo,uc,rfl,hu⟩,hb⟩
 replace HA:=hide ((uH HA).all hb)
 replace HD:=hide ((uH HD).all hb)
 replace H1:=hide ((uH H1).all hb)
 replace H2:=hide ((uH H2).all hb)
 replace HB:=hide ((uH HB).trans (hb.mono (uH HB).size))
 clear hb
 have LU:=hide hu
 clear hu
 generalize hr2:w.heap.size+1+1+1 = r2 at *
 generalize hr1:w.heap.size+1+1 = r1 at *
 have hlt:w.heap.size≤r1∧r1 < r2:=by omega
 clear hr1 hr2
 have ba:=below_alloc9 w1 (.cells #[.int .i64 (n:Nat),.int .i64 (p:Nat),.slice uo nU uc] 24)
 have HU:=BoxM.new w1 (.int .i64 (n:Nat)) (.int .i64 (p:Nat)) (.slice uo nU uc)
 replace HU:=hide HU
 replace HA:=hide ((uH HA).all ba)
 replace HD:=hide ((uH HD).all ba)
 replace H1:=hide ((uH H1).all ba)
 replace H2:=hide ((uH H2).all ba)
 replace LU:=hide ((uH LU).below ba)
 replace HB:=hide ((uH HB).trans (ba.mono (uH HB).size))
 clear ba
 have p0:=(uH HU).c0
 have p1:=(uH HU).c1
 have p2:=(uH HU).c2
 go_wp2_with fail
 clear p0 p1 p2
 refine (uH KC2 _ _ _ (uH HB) (uH LU)).mono ?_
 rintro e w2 ⟨⟨rfl,qo,qc,ro,rc,rfl,hq,hr⟩ | ⟨rfl,a1,a2,b1,b2,qo,ro,qn,qc,rn,rc,rfl⟩,hb⟩
 rotate_left
 ·replace HA:=hide ((uH HA).all hb)
  replace HD:=hide ((uH HD).all hb)
  replace H1:=hide ((uH H1).all hb)
  replace H2:=hide ((uH H2).all hb)
  replace HU:=hide ((uH HU).all hb)
  replace LU:=hide ((uH LU).below hb)
  replace HB:=hide ((uH HB).trans (hb.mono (uH HB).size))
  clear hb
  have ba:=below_alloc9 w2 (.cells #[.int .i64 a1,.int .i64 a2,.slice qo qn qc] 24)
  have HQ:=BoxM.new w2 (.int .i64 a1) (.int .i64 a2) (.slice qo qn qc)
  replace HQ:=hide HQ
  replace HA:=hide ((uH HA).all ba)
  replace HD:=hide ((uH HD).all ba)
  replace H1:=hide ((uH H1).all ba)
  replace H2:=hide ((uH H2).all ba)
  replace HU:=hide ((uH HU).all ba)
  replace LU:=hide ((uH LU).below ba)
  replace HB:=hide ((uH HB).trans (ba.mono (uH HB).size))
  clear ba
  have ba:=below_alloc9 (w2.alloc (.cells #[.int .i64 a1,.int .i64 a2,.slice qo qn qc] 24)) (.cells #[.int .i64 b1,.int .i64 b2,.slice ro rn rc] 24)
  have HR:=BoxM.new (w2.alloc (.cells #[.int .i64 a1,.int .i64 a2,.slice qo qn qc] 24)) (.int .i64 b1) (.int .i64 b2) (.slice ro rn rc)
  rw [size_alloc9] at HR
  replace HR:=hide HR
  replace HA:=hide ((uH HA).all ba)
  replace HD:=hide ((uH HD).all ba)
  replace H1:=hide ((uH H1).all ba)
  replace H2:=hide ((uH H2).all ba)
  replace HU:=hide ((uH HU).all ba)
  replace HQ:=hide ((uH HQ).all ba)
  replace LU:=hide ((uH LU).below ba)
  replace HB:=hide ((uH HB).trans (ba.mono (uH HB).size))
  clear ba
  have hne:(ef != 0) = true:=by simp [hef]
  have hv:E = ef:=by rw [← uH HE];simp
  have hz:(ef:Int) ≠ 0:=by simp [hef]
  have s0:=(uH H1).c0;have s1:=(uH H1).c1;have s2:=(uH H1).c2;have f0:=(uH H1).free 0;have f1:=(uH H1).free 1;have f2:=(uH H1).free 2
  have X7:=(uH H2).three (g:=r1) (by omega) (.int .i64 0) (.int .i64 0) (.slice none 0 0)
  have t0:=X7.c0;have t1:=X7.c1;have t2:=X7.c2;have g0:=X7.free 0;have g1:=X7.free 1;have g2:=X7.free 2
  have FIN:=hide (two_out20 (g:=r1) (h:=r2) (uH HB) (by omega) (by omega) (uH H1) (uH H2) (.int .i64 0) (.int .i64 0) (.slice none 0 0) (.int .i64 0) (.int .i64 0) (.slice none 0 0) _ rfl)
  have a0:=(uH FIN).1.c0;have a1:=(uH FIN).1.c1;have a2:=(uH FIN).1.c2;have b0:=(uH FIN).2.1.c0;have b1:=(uH FIN).2.1.c1;have b2:=(uH FIN).2.1.c2
  clear X7 hlt
  go_wp2_with fail
  exact bodyPost_ret (v:=.tuple #[.agg #[.int .i64 0,.int .i64 0,.slice none 0 0],.agg #[.int .i64 0,.int .i64 0,.slice none 0 0],.int .i64 ef]) (by simp [results,Tryz.results72,go_sem,a0,a1,a2,b0,b1,b2]) rfl ⟨.inr ⟨hv ▸ hz,by rw [hv]⟩,(uH FIN).2.2.1⟩
 replace HA:=hide ((uH HA).all hb)
 replace HD:=hide ((uH HD).all hb)
 replace H1:=hide ((uH H1).all hb)
 replace H2:=hide ((uH H2).all hb)
 replace HU:=hide ((uH HU).all hb)
 replace LU:=hide ((uH LU).below hb)
 replace HB:=hide ((uH HB).trans (hb.mono (uH HB).size))
 clear hb
 have LQ:=hide hq
 have LR:=hide hr
 clear hq hr
 have lq:=(uH H2).lt
 have ba:=below_alloc9 w2 (.cells #[.int .i64 (n:Nat),.int .i64 (n:Nat),.slice qo nQ qc] 24)
 have HQ:=BoxM.new w2 (.int .i64 (n:Nat)) (.int .i64 (n:Nat)) (.slice qo nQ qc)
 replace HQ:=hide HQ
 replace HA:=hide ((uH HA).all ba)
 replace HD:=hide ((uH HD).all ba)
 replace H1:=hide ((uH H1).all ba)
 replace H2:=hide ((uH H2).all ba)
 replace HU:=hide ((uH HU).all ba)
 replace LU:=hide ((uH LU).below ba)
 replace LQ:=hide ((uH LQ).below ba)
 replace LR:=hide ((uH LR).below ba)
 replace HB:=hide ((uH HB).trans (ba.mono (uH HB).size))
 clear ba
 have ba:=below_alloc9 (w2.alloc (.cells #[.int .i64 (n:Nat),.int .i64 (n:Nat),.slice qo nQ qc] 24)) (.cells #[.int .i64 (n:Nat),.int .i64 (p:Nat),.slice ro nR rc] 24)
 have HR:=BoxM.new (w2.alloc (.cells #[.int .i64 (n:Nat),.int .i64 (n:Nat),.slice qo nQ qc] 24)) (.int .i64 (n:Nat)) (.int .i64 (p:Nat)) (.slice ro nR rc)
 rw [size_alloc9] at HR
 replace HR:=hide HR
 replace HA:=hide ((uH HA).all ba)
 replace HD:=hide ((uH HD).all ba)
 replace H1:=hide ((uH H1).all ba)
 replace H2:=hide ((uH H2).all ba)
 replace HU:=hide ((uH HU).all ba)
 replace HQ:=hide ((uH HQ).all ba)
 replace LU:=hide ((uH LU).below ba)
 replace LQ:=hide ((uH LQ).below ba)
 replace LR:=hide ((uH LR).below ba)
 replace HB:=hide ((uH HB).trans (ba.mono (uH HB).size))
 clear ba
 have p0:=(uH HR).c0
 have p1:=(uH HR).c1
 have p2:=(uH HR).c2
 have q0:=(uH HA).c0
 have q1:=(uH HA).c1
 have q2:=(uH HA).c2
 go_wp2_with fail
 clear p0 p1 p2 q0 q1 q2
 refine (uH KC3 _ _ _ (uH HB) (uH LR)).mono ?_
 rintro e w3 ⟨⟨jo,jc,rfl,ht⟩,hb⟩
 replace HA:=hide ((uH HA).all hb)
 replace HD:=hide ((uH HD).all hb)
 replace H1:=hide ((uH H1).all hb)
 replace H2:=hide ((uH H2).all hb)
 replace HU:=hide ((uH HU).all hb)
 replace HQ:=hide ((uH HQ).all hb)
 replace HR:=hide ((uH HR).all hb)
 replace LU:=hide ((uH LU).below hb)
 replace LQ:=hide ((uH LQ).below hb)
 replace LR:=hide ((uH LR).below hb)
 replace HB:=hide ((uH HB).trans (hb.mono (uH HB).size))
 clear hb
 have LT:=hide ht
 clear ht
 have ba:=below_alloc9 w3 (.cells #[.int .i64 (p:Nat),.int .i64 (p:Nat),.slice jo nT jc] 24)
 have HT:=BoxM.new w3 (.int .i64 (p:Nat)) (.int .i64 (p:Nat)) (.slice jo nT jc)
 replace HT:=hide HT
 replace HA:=hide ((uH HA).all ba)
 replace HD:=hide ((uH HD).all ba)
 replace H1:=hide ((uH H1).all ba)
 replace H2:=hide ((uH H2).all ba)
 replace HU:=hide ((uH HU).all ba)
 replace HQ:=hide ((uH HQ).all ba)
 replace HR:=hide ((uH HR).all ba)
 replace LU:=hide ((uH LU).below ba)
 replace LQ:=hide ((uH LQ).below ba)
 replace LR:=hide ((uH LR).below ba)
 replace LT:=hide ((uH LT).below ba)
 replace HB:=hide ((uH HB).trans (ba.mono (uH HB).size))
 clear ba
 have p0:=(uH HT).c0
 have p1:=(uH HT).c1
 have p2:=(uH HT).c2
 go_wp2_with fail
 clear p0 p1 p2
 refine (uH KC4 _ _ _ (uH HB) (uH LT)).mono ?_
 rintro e w4 ⟨⟨so,sc,rfl,hs⟩,hb⟩
 replace HA:=hide ((uH HA).all hb)
 replace HD:=hide ((uH HD).all hb)
 replace H1:=hide ((uH H1).all hb)
 replace H2:=hide ((uH H2).all hb)
 replace HU:=hide ((uH HU).all hb)
 replace HQ:=hide ((uH HQ).all hb)
 replace HR:=hide ((uH HR).all hb)
 replace HT:=hide ((uH HT).all hb)
 replace LU:=hide ((uH LU).below hb)
 replace LQ:=hide ((uH LQ).below hb)
 replace LR:=hide ((uH LR).below hb)
 replace LT:=hide ((uH LT).below hb)
 replace HB:=hide ((uH HB).trans (hb.mono (uH HB).size))
 clear hb
 have LS:=hide hs
 clear hs
 have ba:=below_alloc9 w4 (.cells #[.int .i64 (p:Nat),.int .i64 (p:Nat),.slice so nS2 sc] 24)
 have HS:=BoxM.new w4 (.int .i64 (p:Nat)) (.int .i64 (p:Nat)) (.slice so nS2 sc)
 replace HS:=hide HS
 replace HA:=hide ((uH HA).all ba)
 replace HD:=hide ((uH HD).all ba)
 replace H1:=hide ((uH H1).all ba)
 replace H2:=hide ((uH H2).all ba)
 replace HU:=hide ((uH HU).all ba)
 replace HQ:=hide ((uH HQ).all ba)
 replace HR:=hide ((uH HR).all ba)
 replace HT:=hide ((uH HT).all ba)
 replace LU:=hide ((uH LU).below ba)
 replace LQ:=hide ((uH LQ).below ba)
 replace LR:=hide ((uH LR).below ba)
 replace LT:=hide ((uH LT).below ba)
 replace LS:=hide ((uH LS).below ba)
 replace HB:=hide ((uH HB).trans (ba.mono (uH HB).size))
 clear ba
 have p0:=(uH HS).c0
 have p1:=(uH HS).c1
 have p2:=(uH HS).c2
 go_wp2_with fail
 clear p0 p1 p2
 refine (uH KC5 (by simp) _ _ _ (uH HB) (uH LS)).mono ?_
 rintro e w5 ⟨rfl,hb⟩
 replace HA:=hide ((uH HA).all hb)
 replace HD:=hide ((uH HD).all hb)
 replace H1:=hide ((uH H1).all hb)
 replace H2:=hide ((uH H2).all hb)
 replace HU:=hide ((uH HU).all hb)
 replace HQ:=hide ((uH HQ).all hb)
 replace HR:=hide ((uH HR).all hb)
 replace HT:=hide ((uH HT).all hb)
 replace HS:=hide ((uH HS).all hb)
 replace LU:=hide ((uH LU).below hb)
 replace LQ:=hide ((uH LQ).below hb)
 replace LR:=hide ((uH LR).below hb)
 replace LT:=hide ((uH LT).below hb)
 replace LS:=hide ((uH LS).below hb)
 replace HB:=hide ((uH HB).trans (hb.mono (uH HB).size))
 clear hb
 cases fl
 rotate_left
 ·have hv:E = 5:=by rw [← uH HE];simp
  have hz:(5:Int) ≠ 0:=by simp
  have s0:=(uH H1).c0;have s1:=(uH H1).c1;have s2:=(uH H1).c2;have f0:=(uH H1).free 0;have f1:=(uH H1).free 1;have f2:=(uH H1).free 2
  have X7:=(uH H2).three (g:=r1) (by omega) (.int .i64 0) (.int .i64 0) (.slice none 0 0)
  have t0:=X7.c0;have t1:=X7.c1;have t2:=X7.c2;have g0:=X7.free 0;have g1:=X7.free 1;have g2:=X7.free 2
  have FIN:=hide (two_out20 (g:=r1) (h:=r2) (uH HB) (by omega) (by omega) (uH H1) (uH H2) (.int .i64 0) (.int .i64 0) (.slice none 0 0) (.int .i64 0) (.int .i64 0) (.slice none 0 0) _ rfl)
  have a0:=(uH FIN).1.c0;have a1:=(uH FIN).1.c1;have a2:=(uH FIN).1.c2;have b0:=(uH FIN).2.1.c0;have b1:=(uH FIN).2.1.c1;have b2:=(uH FIN).2.1.c2
  clear X7 hlt
  go_wp2_with fail
  exact bodyPost_ret (v:=.tuple #[.agg #[.int .i64 0,.int .i64 0,.slice none 0 0],.agg #[.int .i64 0,.int .i64 0,.slice none 0 0],.int .i64 5]) (by simp [results,Tryz.results72,go_sem,a0,a1,a2,b0,b1,b2]) rfl ⟨.inr ⟨hv ▸ hz,by rw [hv]⟩,(uH FIN).2.2.1⟩
 have p0:=(uH HS).c0
 have p1:=(uH HS).c1
 have p2:=(uH HS).c2
 have q0:=(uH HD).c0
 have q1:=(uH HD).c1
 have q2:=(uH HD).c2
 go_wp2_with fail
 clear p0 p1 p2 q0 q1 q2
 refine (uH KC6 (by simp) _ _ _ (uH HB) (uH LS)).mono ?_
 rintro e w6 ⟨⟨rfl,yo,yc,rfl,hy⟩ | ⟨her,rfl⟩,hb⟩
 rotate_left
 ·replace HA:=hide ((uH HA).all hb)
  replace HD:=hide ((uH HD).all hb)
  replace H1:=hide ((uH H1).all hb)
  replace H2:=hide ((uH H2).all hb)
  replace HU:=hide ((uH HU).all hb)
  replace HQ:=hide ((uH HQ).all hb)
  replace HR:=hide ((uH HR).all hb)
  replace HT:=hide ((uH HT).all hb)
  replace HS:=hide ((uH HS).all hb)
  replace LU:=hide ((uH LU).below hb)
  replace LQ:=hide ((uH LQ).below hb)
  replace LR:=hide ((uH LR).below hb)
  replace LT:=hide ((uH LT).below hb)
  replace LS:=hide ((uH LS).below hb)
  replace HB:=hide ((uH HB).trans (hb.mono (uH HB).size))
  clear hb
  have ba:=below_alloc9 w6 (.cells #[.int .i64 0,.int .i64 0,.slice none 0 0] 24)
  have HY:=BoxM.new w6 (.int .i64 0) (.int .i64 0) (.slice none 0 0)
  replace HY:=hide HY
  replace HA:=hide ((uH HA).all ba)
  replace HD:=hide ((uH HD).all ba)
  replace H1:=hide ((uH H1).all ba)
  replace H2:=hide ((uH H2).all ba)
  replace HU:=hide ((uH HU).all ba)
  replace HQ:=hide ((uH HQ).all ba)
  replace HR:=hide ((uH HR).all ba)
  replace HT:=hide ((uH HT).all ba)
  replace HS:=hide ((uH HS).all ba)
  replace LU:=hide ((uH LU).below ba)
  replace LQ:=hide ((uH LQ).below ba)
  replace LR:=hide ((uH LR).below ba)
  replace LT:=hide ((uH LT).below ba)
  replace LS:=hide ((uH LS).below ba)
  replace HB:=hide ((uH HB).trans (ba.mono (uH HB).size))
  clear ba
  have hne:(er != 0) = true:=by simp [her]
  have hv:E = er:=by rw [← uH HE];simp
  have hz:(er:Int) ≠ 0:=by simp [her]
  have s0:=(uH H1).c0;have s1:=(uH H1).c1;have s2:=(uH H1).c2;have f0:=(uH H1).free 0;have f1:=(uH H1).free 1;have f2:=(uH H1).free 2
  have X7:=(uH H2).three (g:=r1) (by omega) (.int .i64 0) (.int .i64 0) (.slice none 0 0)
  have t0:=X7.c0;have t1:=X7.c1;have t2:=X7.c2;have g0:=X7.free 0;have g1:=X7.free 1;have g2:=X7.free 2
  have FIN:=hide (two_out20 (g:=r1) (h:=r2) (uH HB) (by omega) (by omega) (uH H1) (uH H2) (.int .i64 0) (.int .i64 0) (.slice none 0 0) (.int .i64 0) (.int .i64 0) (.slice none 0 0) _ rfl)
  have a0:=(uH FIN).1.c0;have a1:=(uH FIN).1.c1;have a2:=(uH FIN).1.c2;have b0:=(uH FIN).2.1.c0;have b1:=(uH FIN).2.1.c1;have b2:=(uH FIN).2.1.c2
  clear X7 hlt
  go_wp2_with fail
  exact bodyPost_ret (v:=.tuple #[.agg #[.int .i64 0,.int .i64 0,.slice none 0 0],.agg #[.int .i64 0,.int .i64 0,.slice none 0 0],.int .i64 er]) (by simp [results,Tryz.results72,go_sem,a0,a1,a2,b0,b1,b2]) rfl ⟨.inr ⟨hv ▸ hz,by rw [hv]⟩,(uH FIN).2.2.1⟩
 replace HA:=hide ((uH HA).all hb)
 replace HD:=hide ((uH HD).all hb)
 replace H1:=hide ((uH H1).all hb)
 replace H2:=hide ((uH H2).all hb)
 replace HU:=hide ((uH HU).all hb)
 replace HQ:=hide ((uH HQ).all hb)
 replace HR:=hide ((uH HR).all hb)
 replace HT:=hide ((uH HT).all hb)
 replace HS:=hide ((uH HS).all hb)
 replace LU:=hide ((uH LU).below hb)
 replace LQ:=hide ((uH LQ).below hb)
 replace LR:=hide ((uH LR).below hb)
 replace LT:=hide ((uH LT).below hb)
 replace LS:=hide ((uH LS).below hb)
 replace HB:=hide ((uH HB).trans (hb.mono (uH HB).size))
 clear hb
 have LY:=hide hy
 clear hy
 have ly:=(uH H2).lt
 have ba:=below_alloc9 w6 (.cells #[.int .i64 (p:Nat),.int .i64 1,.slice yo nY yc] 24)
 have HY:=BoxM.new w6 (.int .i64 (p:Nat)) (.int .i64 1) (.slice yo nY yc)
 replace HY:=hide HY
 replace HA:=hide ((uH HA).all ba)
 replace HD:=hide ((uH HD).all ba)
 replace H1:=hide ((uH H1).all ba)
 replace H2:=hide ((uH H2).all ba)
 replace HU:=hide ((uH HU).all ba)
 replace HQ:=hide ((uH HQ).all ba)
 replace HR:=hide ((uH HR).all ba)
 replace HT:=hide ((uH HT).all ba)
 replace HS:=hide ((uH HS).all ba)
 replace LU:=hide ((uH LU).below ba)
 replace LQ:=hide ((uH LQ).below ba)
 replace LR:=hide ((uH LR).below ba)
 replace LT:=hide ((uH LT).below ba)
 replace LS:=hide ((uH LS).below ba)
 replace LY:=hide ((uH LY).below ba)
 replace HB:=hide ((uH HB).trans (ba.mono (uH HB).size))
 clear ba
 have hd:=(Below.refl (w6.alloc (.cells #[.int .i64 (p:Nat),.int .i64 1,.slice yo nY yc] 24)).heap.size (w6.alloc (.cells #[.int .i64 (p:Nat),.int .i64 1,.slice yo nY yc] 24))).drew
 replace HA:=hide ((uH HA).all hd)
 replace HD:=hide ((uH HD).all hd)
 replace H1:=hide ((uH H1).all hd)
 replace H2:=hide ((uH H2).all hd)
 replace HU:=hide ((uH HU).all hd)
 replace HQ:=hide ((uH HQ).all hd)
 replace HR:=hide ((uH HR).all hd)
 replace HT:=hide ((uH HT).all hd)
 replace HS:=hide ((uH HS).all hd)
 replace HY:=hide ((uH HY).all hd)
 replace LU:=hide ((uH LU).below hd)
 replace LQ:=hide ((uH LQ).below hd)
 replace LR:=hide ((uH LR).below hd)
 replace LT:=hide ((uH LT).below hd)
 replace LS:=hide ((uH LS).below hd)
 replace LY:=hide ((uH LY).below hd)
 replace HB:=hide ((uH HB).trans (hd.mono (uH HB).size))
 clear hd
 have H0:=hide (And.intro (uH HQ).c0 (And.intro (uH HQ).c1 (And.intro (uH HQ).c2 (And.intro (uH HY).c0 (And.intro (uH HY).c1 (uH HY).c2)))))
 have s0:=(uH H1).c0;have s1:=(uH H1).c1;have s2:=(uH H1).c2;have f0:=(uH H1).free 0;have f1:=(uH H1).free 1;have f2:=(uH H1).free 2
 have X7:=(uH H2).three (g:=r1) (by omega) (.int .i64 (n:Nat)) (.int .i64 (n:Nat)) (.slice qo nQ qc)
 have t0:=X7.c0;have t1:=X7.c1;have t2:=X7.c2;have g0:=X7.free 0;have g1:=X7.free 1;have g2:=X7.free 2
 have FIN:=hide (two_out20 (g:=r1) (h:=r2) (uH HB) (by omega) (by omega) (uH H1) (uH H2) (.int .i64 (n:Nat)) (.int .i64 (n:Nat)) (.slice qo nQ qc) (.int .i64 (p:Nat)) (.int .i64 1) (.slice yo nY yc) _ rfl)
 have a0:=(uH FIN).1.c0;have a1:=(uH FIN).1.c1;have a2:=(uH FIN).1.c2;have b0:=(uH FIN).2.1.c0;have b1:=(uH FIN).2.1.c1;have b2:=(uH FIN).2.1.c2
 have LQ2:=hide ((uH FIN).2.2.2 _ _ _ (uH LQ));have LY2:=hide ((uH FIN).2.2.2 _ _ _ (uH LY))
 have YY:=(uH HQ).three (g:=r1) (by omega) (.int .i64 (n:Nat)) (.int .i64 (n:Nat)) (.slice qo nQ qc);have UU:=(uH HY).three (g:=r1) (by omega) (.int .i64 (n:Nat)) (.int .i64 (n:Nat)) (.slice qo nQ qc)
 have H3:=hide (And.intro YY.c0 (And.intro YY.c1 (And.intro YY.c2 (And.intro UU.c0 (And.intro UU.c1 UU.c2)))))
 have Y2:=YY.three (g:=r2) (by omega) (.int .i64 (p:Nat)) (.int .i64 1) (.slice yo nY yc);have U2:=UU.three (g:=r2) (by omega) (.int .i64 (p:Nat)) (.int .i64 1) (.slice yo nY yc)
 have H4:=hide (And.intro Y2.c0 (And.intro Y2.c1 (And.intro Y2.c2 (And.intro U2.c0 (And.intro U2.c1 U2.c2)))))
 clear X7 YY UU Y2 U2
 go_wp2_with fail
 refine wp_region_held_drew (S:=fun w'=>w'.cell? ⟨w2.heap.size,0,none⟩ = some (.int .i64 (n:Nat))∧w'.cell? ⟨w2.heap.size,1,none⟩ = some (.int .i64 (n:Nat))∧w'.cell? ⟨w2.heap.size,2,none⟩ = some (.slice qo nQ qc)∧w'.cell? ⟨w6.heap.size,0,none⟩ = some (.int .i64 (p:Nat))∧w'.cell? ⟨w6.heap.size,1,none⟩ = some (.int .i64 1)∧w'.cell? ⟨w6.heap.size,2,none⟩ = some (.slice yo nY yc)) (by kernel_rfl) ?_ (fun hHeld=>?_)
 ·exact uH H0
 generalize (w6.alloc (.cells #[.int .i64 (p:Nat),.int .i64 1,.slice yo nY yc] 24)).drew = V at *
 refine wpAnyH_take (i:=0) (oi:={ dst:=some 68,op:=Op.load 24 (Operand.tmp 9),type:=24,pos := "lse.go:71",after:=#[],guard:=none }) (v:=.agg #[.int .i64 (n:Nat),.int .i64 (n:Nat),.slice qo nQ qc]) rfl (by kernel_rfl) (by kernel_rfl) (by kernel_rfl) (fun _ _ _ h=>h) (Or.inl ⟨by rfl,?_⟩) (by assumption) ?_
 ·(intro w hSw;(try dsimp only at hSw);go_simp)
 simp only [Act.put,List.setIfInBounds_toArray,List.set_cons_zero,List.set_cons_succ]
 refine wpAnyH_take (i:=1) (oi:={ dst:=some 69,op:=Op.load 24 (Operand.tmp 18),type:=24,pos := "lse.go:71",after:=#[{ on:=2,ground:=Ground.gcOnly Departure.lateStores }],guard:=none }) (v:=.agg #[.int .i64 (p:Nat),.int .i64 1,.slice yo nY yc]) rfl (by kernel_rfl) (by kernel_rfl) (by kernel_rfl) (fun _ _ _ h=>h) (Or.inl ⟨by rfl,?_⟩) (by assumption) ?_
 ·(intro w hSw;(try dsimp only at hSw);go_simp)
 simp only [Act.put,List.setIfInBounds_toArray,List.set_cons_zero,List.set_cons_succ]
 refine wpAnyH_ready (rs:=[2]) (by kernel_rfl) (by simp) ?_
 refine AllReadyH.cons (o:={ dst:=none,op:=Op.store 24 (Operand.tmp 4) (Operand.tmp 68),type:=0,pos := "lse.go:71",after:=#[{ on:=0,ground:=Ground.data },{ on:=0,ground:=Ground.phase },{ on:=1,ground:=Ground.textOnly Departure.lateStores }],guard:=none }) rfl (fun K hK=>?_) AllReadyH.nil
 go_simp
 refine hK.out _ _ ?_ (fun hHeld=>?_)
 ·exact uH H3
 clear hK K
 refine wpAnyH_ready (rs:=[3]) (by kernel_rfl) (by simp) ?_
 refine AllReadyH.cons (o:={ dst:=none,op:=Op.store 24 (Operand.tmp 5) (Operand.tmp 69),type:=0,pos := "lse.go:71",after:=#[{ on:=1,ground:=Ground.data },{ on:=2,ground:=Ground.chain },{ on:=0,ground:=Ground.phase },{ on:=1,ground:=Ground.phase },{ on:=2,ground:=Ground.phase }],guard:=none }) rfl (fun K hK=>?_) AllReadyH.nil
 go_simp
 refine hK.out _ _ ?_ (fun hHeld=>?_)
 ·exact uH H4
 clear hK K
 refine wpAnyH_take (i:=4) (oi:={ dst:=some 6,op:=Op.assign (Operand.const (Value.int IntKind.i64 0)),type:=27,pos := "lse.go:71",after:=#[{ on:=3,ground:=Ground.chain },{ on:=0,ground:=Ground.phase },{ on:=1,ground:=Ground.phase },{ on:=2,ground:=Ground.phase },{ on:=3,ground:=Ground.phase }],guard:=none }) (v:=.int .i64 0) rfl (by kernel_rfl) (by kernel_rfl) (by kernel_rfl) (fun _ _ _ h=>h) (Or.inl ⟨by rfl,?_⟩) (by assumption) ?_
 ·(intro w hSw;(try dsimp only at hSw);go_simp)
 simp only [Act.put,List.setIfInBounds_toArray,List.set_cons_zero,List.set_cons_succ]
 refine wpAnyH_done (by kernel_rfl) ?_ _
 skip
 go_wp2_with fail
 exact bodyPost_ret (v:=.tuple #[.agg #[.int .i64 (n:Nat),.int .i64 (n:Nat),.slice qo nQ qc],.agg #[.int .i64 (p:Nat),.int .i64 1,.slice yo nY yc],.int .i64 0]) (by simp [results,Tryz.results72,go_sem,a0,a1,a2,b0,b1,b2]) rfl ⟨.inl ⟨by rw [← uH HE];simp,qo,qc,yo,yc,rfl,uH LQ2,uH LY2⟩,(uH FIN).2.2.1⟩
end Go.Proofs.YtcbcmlaogehimaaGreatDoor
namespace Go.Proofs.YtcbcmlaogehimaaGreatDoor
open Go.RowKit
attribute [local go_sem ↓] Go.wp_at_zero Go.wp_at_succ
theorem lopen_of (m n p s nA ac nB bc nC cc nE ec nQ qc nY yc nH nI nJ nK nL nZ:Nat) (ao bo co eo qo yo:Option Addr) (E E1 E2 TK FF Z:List Nat) (fE fF:Bool) (er:Int) (w:World) (hs:(n:Int) - (p:Int) = (s:Int)) (hs6:s≤6)
  (C1:∀ w',Below w.heap.size w w'→Calls Tryz.prog 75 #[.agg #[.int .i64 (m:Nat),.int .i64 (n:Nat),.slice ao nA ac],.agg #[.int .i64 (n:Nat),.int .i64 (n:Nat),.slice qo nQ qc]] w' fun e w''=>(∃ ho hc,e = .returned (.tuple #[.agg #[.int .i64 (m:Nat),.int .i64 (n:Nat),.slice ho nH hc],.int .i64 0])∧BitsAt w'' ho hc (mxL E))∧Below w'.heap.size w' w'')
  (C2:∀ w' ho hc,Below w.heap.size w w'→BitsAt w' ho hc (mxL E)→Calls Tryz.prog 76 #[.agg #[.int .i64 (m:Nat),.int .i64 (n:Nat),.slice ho nH hc]] w' fun e w''=>e = .returned (.bool fE)∧Below w'.heap.size w' w'')
  (C3:∀ w' ho hc,Below w.heap.size w w'→BitsAt w' ho hc (mxL E)→Calls Tryz.prog 95 #[.agg #[.int .i64 (m:Nat),.int .i64 (n:Nat),.slice ho nH hc],.int .i64 0,.int .i64 0,.int .i64 (m:Nat),.int .i64 (p:Nat)] w' fun e w''=>(∃ io ic,e = .returned (.tuple #[.agg #[.int .i64 (m:Nat),.int .i64 (p:Nat),.slice io nI ic],.int .i64 0])∧BitsAt w'' io ic (mxL E1))∧Below w'.heap.size w' w'')
  (C4:∀ w' ho hc,Below w.heap.size w w'→BitsAt w' ho hc (mxL E)→Calls Tryz.prog 95 #[.agg #[.int .i64 (m:Nat),.int .i64 (n:Nat),.slice ho nH hc],.int .i64 0,.int .i64 (p:Nat),.int .i64 (m:Nat),.int .i64 (s:Nat)] w' fun e w''=>(∃ jo jc,e = .returned (.tuple #[.agg #[.int .i64 (m:Nat),.int .i64 (s:Nat),.slice jo nJ jc],.int .i64 0])∧BitsAt w'' jo jc (mxL E2))∧Below w'.heap.size w' w'')
  (C5:∀ w' io ic,Below w.heap.size w w'→BitsAt w' io ic (mxL E1)→Calls Tryz.prog 75 #[.agg #[.int .i64 (m:Nat),.int .i64 (p:Nat),.slice io nI ic],.agg #[.int .i64 (p:Nat),.int .i64 1,.slice yo nY yc]] w' fun e w''=>(∃ ko kc,e = .returned (.tuple #[.agg #[.int .i64 (m:Nat),.int .i64 1,.slice ko nK kc],.int .i64 0])∧BitsAt w'' ko kc (mxL TK))∧Below w'.heap.size w' w'')
  (C6:∀ w' ko kc,Below w.heap.size w w'→BitsAt w' ko kc (mxL TK)→Calls Tryz.prog 129 #[.agg #[.int .i64 (m:Nat),.int .i64 1,.slice co nC cc],.agg #[.int .i64 (m:Nat),.int .i64 1,.slice ko nK kc]] w' fun e w''=>(∃ lo lc,e = .returned (.tuple #[.agg #[.int .i64 (m:Nat),.int .i64 1,.slice lo nL lc],.int .i64 0])∧BitsAt w'' lo lc (mxL FF))∧Below w'.heap.size w' w'')
  (C7:∀ w' lo lc,Below w.heap.size w w'→BitsAt w' lo lc (mxL FF)→Calls Tryz.prog 76 #[.agg #[.int .i64 (m:Nat),.int .i64 1,.slice lo nL lc]] w' fun e w''=>e = .returned (.bool fF)∧Below w'.heap.size w' w'')
  (C8:fE = true→fF = true→∀ w' jo jc lo lc,Below w.heap.size w w'→BitsAt w' jo jc (mxL E2)→BitsAt w' lo lc (mxL FF)→Calls Tryz.prog 15 #[.agg #[.int .i64 (m:Nat),.int .i64 (s:Nat),.slice jo nJ jc],.agg #[.int .i64 (m:Nat),.int .i64 1,.slice lo nL lc]] w' fun e w''=>((er = 0∧∃ zo zc,e = .returned (.tuple #[.agg #[.int .i64 (s:Nat),.int .i64 1,.slice zo nZ zc],.int .i64 0])∧BitsAt w'' zo zc (mxL Z)) ∨ (er ≠ 0∧e = .returned (.tuple #[.agg #[.int .i64 0,.int .i64 0,.slice none 0 0],.int .i64 er])))∧Below w'.heap.size w' w'') :
  Calls Tryz.prog 73 #[.agg #[.int .i64 (m:Nat),.int .i64 (n:Nat),.slice ao nA ac,.int .i64 (p:Nat),.int .i64 (n:Nat),.slice bo nB bc,.int .i64 (m:Nat),.int .i64 1,.slice co nC cc,.int .i64 (p:Nat),.int .i64 1,.slice eo nE ec],.agg #[.int .i64 (n:Nat),.int .i64 (n:Nat),.slice qo nQ qc],.agg #[.int .i64 (p:Nat),.int .i64 1,.slice yo nY yc]] w fun e w'=>(((if fE = true then (if fF = true then er else 2) else 2) = 0∧∃ zo zc,e = .returned (.tuple #[.agg #[.int .i64 (s:Nat),.int .i64 1,.slice zo nZ zc],.int .i64 0])∧BitsAt w' zo zc (mxL Z)) ∨ ((if fE = true then (if fF = true then er else 2) else 2) ≠ 0∧e = .returned (.tuple #[.agg #[.int .i64 0,.int .i64 0,.slice none 0 0],.int .i64 (if fE = true then (if fF = true then er else 2) else 2)])))∧Below w.heap.size w w':=by
 have b4:=boxesT3_20 53 w [.int .i64 (m:Nat),.int .i64 (n:Nat),.slice ao nA ac,.int .i64 (p:Nat),.int .i64 (n:Nat),.slice bo nB bc,.int .i64 (m:Nat),.int .i64 1,.slice co nC cc,.int .i64 (p:Nat),.int .i64 1,.slice eo nE ec] (.int .i64 (n:Nat)) (.int .i64 (n:Nat)) (.slice qo nQ qc) (.int .i64 (p:Nat)) (.int .i64 1) (.slice yo nY yc) (.int .i64 0) (.int .i64 0) (.slice none 0 0) ((((w.alloc (.cells #[.int .i64 (m:Nat),.int .i64 (n:Nat),.slice ao nA ac,.int .i64 (p:Nat),.int .i64 (n:Nat),.slice bo nB bc,.int .i64 (m:Nat),.int .i64 1,.slice co nC cc,.int .i64 (p:Nat),.int .i64 1,.slice eo nE ec] 53)).alloc (.cells #[.int .i64 (n:Nat),.int .i64 (n:Nat),.slice qo nQ qc] 24)).alloc (.cells #[.int .i64 (p:Nat),.int .i64 1,.slice yo nY yc] 24)).alloc (.cells #[.int .i64 0,.int .i64 0,.slice none 0 0] 24)) (by have:=Below.refl ((((w.alloc (.cells #[.int .i64 (m:Nat),.int .i64 (n:Nat),.slice ao nA ac,.int .i64 (p:Nat),.int .i64 (n:Nat),.slice bo nB bc,.int .i64 (m:Nat),.int .i64 1,.slice co nC cc,.int .i64 (p:Nat),.int .i64 1,.slice eo nE ec] 53)).alloc (.cells #[.int .i64 (n:Nat),.int .i64 (n:Nat),.slice qo nQ qc] 24)).alloc (.cells #[.int .i64 (p:Nat),.int .i64 1,.slice yo nY yc] 24)).alloc (.cells #[.int .i64 0,.int .i64 0,.slice none 0 0] 24)).heap.size ((((w.alloc (.cells #[.int .i64 (m:Nat),.int .i64 (n:Nat),.slice ao nA ac,.int .i64 (p:Nat),.int .i64 (n:Nat),.slice bo nB bc,.int .i64 (m:Nat),.int .i64 1,.slice co nC cc,.int .i64 (p:Nat),.int .i64 1,.slice eo nE ec] 53)).alloc (.cells #[.int .i64 (n:Nat),.int .i64 (n:Nat),.slice qo nQ qc] 24)).alloc (.cells #[.int .i64 (p:Nat),.int .i64 1,.slice yo nY yc] 24)).alloc (.cells #[.int .i64 0,.int .i64 0,.slice none 0 0] 24));simpa only [size_alloc9] using this)
 obtain ⟨b0,x0,x1,x2,x3⟩:=b4
 have HX:=hide x0;have HQ:=hide x1;have HF:=hide x2;have HR:=hide x3;have HB:=hide b0
 have KC1:=hide C1
 have KC2:=hide C2
 have KC3:=hide C3
 have KC4:=hide C4
 have KC5:=hide C5
 have KC6:=hide C6
 have KC7:=hide C7
 have KC8:=hide C8
 clear b0 x0 x1 x2 x3 C1 C2 C3 C4 C5 C6 C7 C8
 have HS:=hide hs;have HS6:=hide hs6
 clear hs hs6
 generalize hE0:(if fE = true then (if fF = true then er else 2) else 2) = E0
 have HE0:=hide hE0
 clear hE0
 go_enter Tryz.func73,Tryz.ntmps73
 have t0:=(uH HX).c 0 rfl
 have t1:=(uH HX).c 1 rfl
 have t2:=(uH HX).c 2 rfl
 have q0:=(uH HQ).c0
 have q1:=(uH HQ).c1
 have q2:=(uH HQ).c2
 go_wp2_with fail
 clear t0 t1 t2 q0 q1 q2
 refine (uH KC1 _ (uH HB)).mono ?_
 rintro e w1 ⟨⟨ho,hc,rfl,hh⟩,hb⟩
 replace HX:=hide ((uH HX).all hb)
 replace HQ:=hide ((uH HQ).all hb)
 replace HF:=hide ((uH HF).all hb)
 replace HR:=hide ((uH HR).all hb)
 replace HB:=hide ((uH HB).trans (hb.mono (uH HB).size))
 clear hb
 have LE:=hide hh
 clear hh
 have ba:=below_alloc9 w1 (.cells #[.int .i64 (m:Nat),.int .i64 (n:Nat),.slice ho nH hc] 24)
 have HE:=BoxM.new w1 (.int .i64 (m:Nat)) (.int .i64 (n:Nat)) (.slice ho nH hc)
 replace HE:=hide HE
 replace HX:=hide ((uH HX).all ba)
 replace HQ:=hide ((uH HQ).all ba)
 replace HF:=hide ((uH HF).all ba)
 replace HR:=hide ((uH HR).all ba)
 replace LE:=hide ((uH LE).below ba)
 replace HB:=hide ((uH HB).trans (ba.mono (uH HB).size))
 clear ba
 have p0:=(uH HE).c0
 have p1:=(uH HE).c1
 have p2:=(uH HE).c2
 go_wp2_with fail
 clear p0 p1 p2
 refine (uH KC2 _ _ _ (uH HB) (uH LE)).mono ?_
 rintro e w2 ⟨rfl,hb⟩
 replace HX:=hide ((uH HX).all hb)
 replace HQ:=hide ((uH HQ).all hb)
 replace HF:=hide ((uH HF).all hb)
 replace HR:=hide ((uH HR).all hb)
 replace HE:=hide ((uH HE).all hb)
 replace LE:=hide ((uH LE).below hb)
 replace HB:=hide ((uH HB).trans (hb.mono (uH HB).size))
 clear hb
 cases fE
 ·have hv:E0 = 2:=by rw [← uH HE0];simp
  have hz:(2:Int) ≠ 0:=by simp
  have s0:=(uH HR).c0;have s1:=(uH HR).c1;have s2:=(uH HR).c2;have f0:=(uH HR).free 0;have f1:=(uH HR).free 1;have f2:=(uH HR).free 2
  have XP:=(uH HR).put (.int .i64 0) (.int .i64 0) (.slice none 0 0)
  have z0:=XP.c0;have z1:=XP.c1;have z2:=XP.c2
  have BP:=hide (below_putM (uH HB) (b:=w.heap.size+1+1+1) (by omega) (.int .i64 0) (.int .i64 0) (.slice none 0 0))
  clear XP
  go_wp2_with fail
  exact bodyPost_ret (v:=.tuple #[.agg #[.int .i64 0,.int .i64 0,.slice none 0 0],.int .i64 2]) (by simp [results,Tryz.results73,go_sem,z0,z1,z2]) rfl ⟨.inr ⟨hv ▸ hz,by rw [hv]⟩,uH BP⟩
 have hd:=(Below.refl w2.heap.size w2).drew
 replace HX:=hide ((uH HX).all hd)
 replace HQ:=hide ((uH HQ).all hd)
 replace HF:=hide ((uH HF).all hd)
 replace HR:=hide ((uH HR).all hd)
 replace HE:=hide ((uH HE).all hd)
 replace LE:=hide ((uH LE).below hd)
 replace HB:=hide ((uH HB).trans (hd.mono (uH HB).size))
 clear hd
 go_wp2_with fail
 refine wp_region_held_drew (S:=fun w'=>w'.cell? ⟨w.heap.size,0,none⟩ = some (.int .i64 (m:Nat))∧w'.cell? ⟨w.heap.size,1,none⟩ = some (.int .i64 (n:Nat))∧w'.cell? ⟨w.heap.size,3,none⟩ = some (.int .i64 (p:Nat))) (by kernel_rfl) ?_ (fun hHeld=>?_)
 ·exact ⟨(uH HX).c 0 rfl,(uH HX).c 1 rfl,(uH HX).c 3 rfl⟩
 refine wpAnyH_take (i:=0) (oi:={ dst:=some 32,op:=Op.fieldAddr 53 (Operand.tmp 3) 0,type:=0,pos := "lse.go:80",after:=#[],guard:=none }) (v:=(Value.pointer (some ⟨w.heap.size,0,none⟩))) rfl (by kernel_rfl) (by kernel_rfl) (by kernel_rfl) (fun _ _ _ h=>h) (Or.inl ⟨by rfl,?_⟩) (by assumption) ?_
 ·(intro w hSw;(try dsimp only at hSw);go_simp)
 simp only [Act.put,List.setIfInBounds_toArray,List.set_cons_zero,List.set_cons_succ]
 refine wpAnyH_take (i:=1) (oi:={ dst:=some 33,op:=Op.fieldAddr 24 (Operand.tmp 32) 0,type:=0,pos := "lse.go:80",after:=#[{ on:=0,ground:=Ground.data }],guard:=none }) (v:=(Value.pointer (some ⟨w.heap.size,0,none⟩))) rfl (by kernel_rfl) (by kernel_rfl) (by kernel_rfl) (fun _ _ _ h=>h) (Or.inl ⟨by rfl,?_⟩) (by assumption) ?_
 ·(intro w hSw;(try dsimp only at hSw);go_simp)
 simp only [Act.put,List.setIfInBounds_toArray,List.set_cons_zero,List.set_cons_succ]
 refine wpAnyH_take (i:=2) (oi:={ dst:=some 34,op:=Op.load 3 (Operand.tmp 33),type:=3,pos := "lse.go:80",after:=#[{ on:=1,ground:=Ground.data }],guard:=none }) (v:=(Value.int .i64 (m:Nat))) rfl (by kernel_rfl) (by kernel_rfl) (by kernel_rfl) (fun _ _ _ h=>h) (Or.inl ⟨by rfl,?_⟩) (by assumption) ?_
 ·(intro w hSw;(try dsimp only at hSw);go_simp)
 simp only [Act.put,List.setIfInBounds_toArray,List.set_cons_zero,List.set_cons_succ]
 refine wpAnyH_take (i:=3) (oi:={ dst:=some 35,op:=Op.fieldAddr 53 (Operand.tmp 3) 0,type:=0,pos := "lse.go:80",after:=#[{ on:=9,ground:=Ground.gcOnly Departure.lateStores }],guard:=none }) (v:=(Value.pointer (some ⟨w.heap.size,0,none⟩))) rfl (by kernel_rfl) (by kernel_rfl) (by kernel_rfl) (fun _ _ _ h=>h) (Or.inl ⟨by rfl,?_⟩) (by assumption) ?_
 ·(intro w hSw;(try dsimp only at hSw);go_simp)
 simp only [Act.put,List.setIfInBounds_toArray,List.set_cons_zero,List.set_cons_succ]
 refine wpAnyH_take (i:=4) (oi:={ dst:=some 36,op:=Op.fieldAddr 24 (Operand.tmp 35) 1,type:=0,pos := "lse.go:80",after:=#[{ on:=3,ground:=Ground.data },{ on:=9,ground:=Ground.gcOnly Departure.lateStores }],guard:=none }) (v:=(Value.pointer (some ⟨w.heap.size,1,none⟩))) rfl (by kernel_rfl) (by kernel_rfl) (by kernel_rfl) (fun _ _ _ h=>h) (Or.inl ⟨by rfl,?_⟩) (by assumption) ?_
 ·(intro w hSw;(try dsimp only at hSw);go_simp)
 simp only [Act.put,List.setIfInBounds_toArray,List.set_cons_zero,List.set_cons_succ]
 refine wpAnyH_take (i:=5) (oi:={ dst:=some 37,op:=Op.load 3 (Operand.tmp 36),type:=3,pos := "lse.go:80",after:=#[{ on:=4,ground:=Ground.data },{ on:=9,ground:=Ground.gcOnly Departure.lateStores }],guard:=none }) (v:=(Value.int .i64 (n:Nat))) rfl (by kernel_rfl) (by kernel_rfl) (by kernel_rfl) (fun _ _ _ h=>h) (Or.inl ⟨by rfl,?_⟩) (by assumption) ?_
 ·(intro w hSw;(try dsimp only at hSw);go_simp)
 simp only [Act.put,List.setIfInBounds_toArray,List.set_cons_zero,List.set_cons_succ]
 refine wpAnyH_take (i:=6) (oi:={ dst:=some 38,op:=Op.fieldAddr 53 (Operand.tmp 3) 1,type:=0,pos := "lse.go:80",after:=#[{ on:=10,ground:=Ground.gcOnly Departure.lateStores }],guard:=none }) (v:=(Value.pointer (some ⟨w.heap.size,3,none⟩))) rfl (by kernel_rfl) (by kernel_rfl) (by kernel_rfl) (fun _ _ _ h=>h) (Or.inl ⟨by rfl,?_⟩) (by assumption) ?_
 ·(intro w hSw;(try dsimp only at hSw);go_simp)
 simp only [Act.put,List.setIfInBounds_toArray,List.set_cons_zero,List.set_cons_succ]
 refine wpAnyH_take (i:=7) (oi:={ dst:=some 39,op:=Op.fieldAddr 24 (Operand.tmp 38) 0,type:=0,pos := "lse.go:80",after:=#[{ on:=6,ground:=Ground.data },{ on:=10,ground:=Ground.gcOnly Departure.lateStores }],guard:=none }) (v:=(Value.pointer (some ⟨w.heap.size,3,none⟩))) rfl (by kernel_rfl) (by kernel_rfl) (by kernel_rfl) (fun _ _ _ h=>h) (Or.inl ⟨by rfl,?_⟩) (by assumption) ?_
 ·(intro w hSw;(try dsimp only at hSw);go_simp)
 simp only [Act.put,List.setIfInBounds_toArray,List.set_cons_zero,List.set_cons_succ]
 refine wpAnyH_take (i:=8) (oi:={ dst:=some 40,op:=Op.load 3 (Operand.tmp 39),type:=3,pos := "lse.go:80",after:=#[{ on:=7,ground:=Ground.data },{ on:=10,ground:=Ground.gcOnly Departure.lateStores }],guard:=none }) (v:=(Value.int .i64 (p:Nat))) rfl (by kernel_rfl) (by kernel_rfl) (by kernel_rfl) (fun _ _ _ h=>h) (Or.inl ⟨by rfl,?_⟩) (by assumption) ?_
 ·(intro w hSw;(try dsimp only at hSw);go_simp)
 simp only [Act.put,List.setIfInBounds_toArray,List.set_cons_zero,List.set_cons_succ]
 refine wpAnyH_take (i:=9) (oi:={ dst:=some 10,op:=Op.assign (Operand.tmp 34),type:=3,pos := "lse.go:80",after:=#[{ on:=2,ground:=Ground.data },{ on:=0,ground:=Ground.phase },{ on:=1,ground:=Ground.phase },{ on:=2,ground:=Ground.phase },{ on:=3,ground:=Ground.textOnly Departure.lateStores },{ on:=4,ground:=Ground.textOnly Departure.lateStores },{ on:=5,ground:=Ground.textOnly Departure.lateStores },{ on:=6,ground:=Ground.textOnly Departure.lateStores },{ on:=7,ground:=Ground.textOnly Departure.lateStores },{ on:=8,ground:=Ground.textOnly Departure.lateStores }],guard:=none }) (v:=(Value.int .i64 (m:Nat))) rfl (by kernel_rfl) (by kernel_rfl) (by kernel_rfl) (fun _ _ _ h=>h) (Or.inl ⟨by rfl,?_⟩) (by assumption) ?_
 ·(intro w hSw;(try dsimp only at hSw);go_simp)
 simp only [Act.put,List.setIfInBounds_toArray,List.set_cons_zero,List.set_cons_succ]
 refine wpAnyH_take (i:=10) (oi:={ dst:=some 11,op:=Op.assign (Operand.tmp 37),type:=3,pos := "lse.go:80",after:=#[{ on:=5,ground:=Ground.data },{ on:=9,ground:=Ground.chain },{ on:=0,ground:=Ground.phase },{ on:=1,ground:=Ground.phase },{ on:=2,ground:=Ground.phase },{ on:=3,ground:=Ground.phase },{ on:=4,ground:=Ground.phase },{ on:=5,ground:=Ground.phase },{ on:=6,ground:=Ground.textOnly Departure.lateStores },{ on:=7,ground:=Ground.textOnly Departure.lateStores },{ on:=8,ground:=Ground.textOnly Departure.lateStores },{ on:=9,ground:=Ground.phase }],guard:=none }) (v:=(Value.int .i64 (n:Nat))) rfl (by kernel_rfl) (by kernel_rfl) (by kernel_rfl) (fun _ _ _ h=>h) (Or.inl ⟨by rfl,?_⟩) (by assumption) ?_
 ·(intro w hSw;(try dsimp only at hSw);go_simp)
 simp only [Act.put,List.setIfInBounds_toArray,List.set_cons_zero,List.set_cons_succ]
 refine wpAnyH_take (i:=11) (oi:={ dst:=some 12,op:=Op.assign (Operand.tmp 40),type:=3,pos := "lse.go:80",after:=#[{ on:=8,ground:=Ground.data },{ on:=10,ground:=Ground.chain },{ on:=0,ground:=Ground.phase },{ on:=1,ground:=Ground.phase },{ on:=2,ground:=Ground.phase },{ on:=3,ground:=Ground.phase },{ on:=4,ground:=Ground.phase },{ on:=5,ground:=Ground.phase },{ on:=6,ground:=Ground.phase },{ on:=7,ground:=Ground.phase },{ on:=8,ground:=Ground.phase },{ on:=9,ground:=Ground.phase },{ on:=10,ground:=Ground.phase }],guard:=none }) (v:=(Value.int .i64 (p:Nat))) rfl (by kernel_rfl) (by kernel_rfl) (by kernel_rfl) (fun _ _ _ h=>h) (Or.inl ⟨by rfl,?_⟩) (by assumption) ?_
 ·(intro w hSw;(try dsimp only at hSw);go_simp)
 simp only [Act.put,List.setIfInBounds_toArray,List.set_cons_zero,List.set_cons_succ]
 refine wpAnyH_done (by kernel_rfl) ?_ _
 skip
 have p0:=(uH HE).c0
 have p1:=(uH HE).c1
 have p2:=(uH HE).c2
 go_wp2_with fail
 clear p0 p1 p2
 refine (uH KC3 _ _ _ (uH HB) (uH LE)).mono ?_
 rintro e w3 ⟨⟨io,ic,rfl,hi⟩,hb⟩
 replace HX:=hide ((uH HX).all hb)
 replace HQ:=hide ((uH HQ).all hb)
 replace HF:=hide ((uH HF).all hb)
 replace HR:=hide ((uH HR).all hb)
 replace HE:=hide ((uH HE).all hb)
 replace LE:=hide ((uH LE).below hb)
 replace HB:=hide ((uH HB).trans (hb.mono (uH HB).size))
 clear hb
 have LI:=hide hi
 clear hi
 have ba:=below_alloc9 w3 (.cells #[.int .i64 (m:Nat),.int .i64 (p:Nat),.slice io nI ic] 24)
 have HI:=BoxM.new w3 (.int .i64 (m:Nat)) (.int .i64 (p:Nat)) (.slice io nI ic)
 replace HI:=hide HI
 replace HX:=hide ((uH HX).all ba)
 replace HQ:=hide ((uH HQ).all ba)
 replace HF:=hide ((uH HF).all ba)
 replace HR:=hide ((uH HR).all ba)
 replace HE:=hide ((uH HE).all ba)
 replace LE:=hide ((uH LE).below ba)
 replace LI:=hide ((uH LI).below ba)
 replace HB:=hide ((uH HB).trans (ba.mono (uH HB).size))
 clear ba
 have hw:IntKind.i64.wrap ((n:Int) - (p:Int)) = (s:Int):=by rw [uH HS];exact wrap_in _ (by have:=uH HS6;omega)
 have p0:=(uH HE).c0
 have p1:=(uH HE).c1
 have p2:=(uH HE).c2
 go_wp2_with fail
 clear p0 p1 p2
 clear hw
 refine (uH KC4 _ _ _ (uH HB) (uH LE)).mono ?_
 rintro e w4 ⟨⟨jo,jc,rfl,hj⟩,hb⟩
 replace HX:=hide ((uH HX).all hb)
 replace HQ:=hide ((uH HQ).all hb)
 replace HF:=hide ((uH HF).all hb)
 replace HR:=hide ((uH HR).all hb)
 replace HE:=hide ((uH HE).all hb)
 replace HI:=hide ((uH HI).all hb)
 replace LE:=hide ((uH LE).below hb)
 replace LI:=hide ((uH LI).below hb)
 replace HB:=hide ((uH HB).trans (hb.mono (uH HB).size))
 clear hb
 have LJ:=hide hj
 clear hj
 have ba:=below_alloc9 w4 (.cells #[.int .i64 (m:Nat),.int .i64 (s:Nat),.slice jo nJ jc] 24)
 have HJ:=BoxM.new w4 (.int .i64 (m:Nat)) (.int .i64 (s:Nat)) (.slice jo nJ jc)
 replace HJ:=hide HJ
 replace HX:=hide ((uH HX).all ba)
 replace HQ:=hide ((uH HQ).all ba)
 replace HF:=hide ((uH HF).all ba)
 replace HR:=hide ((uH HR).all ba)
 replace HE:=hide ((uH HE).all ba)
 replace HI:=hide ((uH HI).all ba)
 replace LE:=hide ((uH LE).below ba)
 replace LI:=hide ((uH LI).below ba)
 replace LJ:=hide ((uH LJ).below ba)
 replace HB:=hide ((uH HB).trans (ba.mono (uH HB).size))
 clear ba
 have p0:=(uH HI).c0
 have p1:=(uH HI).c1
 have p2:=(uH HI).c2
 have q0:=(uH HF).c0
 have q1:=(uH HF).c1
 have q2:=(uH HF).c2
 go_wp2_with fail
 clear p0 p1 p2 q0 q1 q2
 refine (uH KC5 _ _ _ (uH HB) (uH LI)).mono ?_
 rintro e w5 ⟨⟨ko,kc,rfl,hk⟩,hb⟩
 replace HX:=hide ((uH HX).all hb)
 replace HQ:=hide ((uH HQ).all hb)
 replace HF:=hide ((uH HF).all hb)
 replace HR:=hide ((uH HR).all hb)
 replace HE:=hide ((uH HE).all hb)
 replace HI:=hide ((uH HI).all hb)
 replace HJ:=hide ((uH HJ).all hb)
 replace LE:=hide ((uH LE).below hb)
 replace LI:=hide ((uH LI).below hb)
 replace LJ:=hide ((uH LJ).below hb)
 replace HB:=hide ((uH HB).trans (hb.mono (uH HB).size))
 clear hb
 have LK:=hide hk
 clear hk
 have ba:=below_alloc9 w5 (.cells #[.int .i64 (m:Nat),.int .i64 1,.slice ko nK kc] 24)
 have HK:=BoxM.new w5 (.int .i64 (m:Nat)) (.int .i64 1) (.slice ko nK kc)
 replace HK:=hide HK
 replace HX:=hide ((uH HX).all ba)
 replace HQ:=hide ((uH HQ).all ba)
 replace HF:=hide ((uH HF).all ba)
 replace HR:=hide ((uH HR).all ba)
 replace HE:=hide ((uH HE).all ba)
 replace HI:=hide ((uH HI).all ba)
 replace HJ:=hide ((uH HJ).all ba)
 replace LE:=hide ((uH LE).below ba)
 replace LI:=hide ((uH LI).below ba)
 replace LJ:=hide ((uH LJ).below ba)
 replace LK:=hide ((uH LK).below ba)
 replace HB:=hide ((uH HB).trans (ba.mono (uH HB).size))
 clear ba
 have t6:=(uH HX).c 6 rfl
 have t7:=(uH HX).c 7 rfl
 have t8:=(uH HX).c 8 rfl
 have q0:=(uH HK).c0
 have q1:=(uH HK).c1
 have q2:=(uH HK).c2
 go_wp2_with fail
 clear t6 t7 t8 q0 q1 q2
 refine (uH KC6 _ _ _ (uH HB) (uH LK)).mono ?_
 rintro e w6 ⟨⟨lo,lc,rfl,hl⟩,hb⟩
 replace HX:=hide ((uH HX).all hb)
 replace HQ:=hide ((uH HQ).all hb)
 replace HF:=hide ((uH HF).all hb)
 replace HR:=hide ((uH HR).all hb)
 replace HE:=hide ((uH HE).all hb)
 replace HI:=hide ((uH HI).all hb)
 replace HJ:=hide ((uH HJ).all hb)
 replace HK:=hide ((uH HK).all hb)
 replace LE:=hide ((uH LE).below hb)
 replace LI:=hide ((uH LI).below hb)
 replace LJ:=hide ((uH LJ).below hb)
 replace LK:=hide ((uH LK).below hb)
 replace HB:=hide ((uH HB).trans (hb.mono (uH HB).size))
 clear hb
 have LL:=hide hl
 clear hl
 have ba:=below_alloc9 w6 (.cells #[.int .i64 (m:Nat),.int .i64 1,.slice lo nL lc] 24)
 have HL:=BoxM.new w6 (.int .i64 (m:Nat)) (.int .i64 1) (.slice lo nL lc)
 replace HL:=hide HL
 replace HX:=hide ((uH HX).all ba)
 replace HQ:=hide ((uH HQ).all ba)
 replace HF:=hide ((uH HF).all ba)
 replace HR:=hide ((uH HR).all ba)
 replace HE:=hide ((uH HE).all ba)
 replace HI:=hide ((uH HI).all ba)
 replace HJ:=hide ((uH HJ).all ba)
 replace HK:=hide ((uH HK).all ba)
 replace LE:=hide ((uH LE).below ba)
 replace LI:=hide ((uH LI).below ba)
 replace LJ:=hide ((uH LJ).below ba)
 replace LK:=hide ((uH LK).below ba)
 replace LL:=hide ((uH LL).below ba)
 replace HB:=hide ((uH HB).trans (ba.mono (uH HB).size))
 clear ba
 have p0:=(uH HL).c0
 have p1:=(uH HL).c1
 have p2:=(uH HL).c2
 go_wp2_with fail
 clear p0 p1 p2
 refine (uH KC7 _ _ _ (uH HB) (uH LL)).mono ?_
 rintro e w7 ⟨rfl,hb⟩
 replace HX:=hide ((uH HX).all hb)
 replace HQ:=hide ((uH HQ).all hb)
 replace HF:=hide ((uH HF).all hb)
 replace HR:=hide ((uH HR).all hb)
 replace HE:=hide ((uH HE).all hb)
 replace HI:=hide ((uH HI).all hb)
 replace HJ:=hide ((uH HJ).all hb)
 replace HK:=hide ((uH HK).all hb)
 replace HL:=hide ((uH HL).all hb)
 replace LE:=hide ((uH LE).below hb)
 replace LI:=hide ((uH LI).below hb)
 replace LJ:=hide ((uH LJ).below hb)
 replace LK:=hide ((uH LK).below hb)
 replace LL:=hide ((uH LL).below hb)
 replace HB:=hide ((uH HB).trans (hb.mono (uH HB).size))
 clear hb
 cases fF
 ·have hv:E0 = 2:=by rw [← uH HE0];simp
  have hz:(2:Int) ≠ 0:=by simp
  have s0:=(uH HR).c0;have s1:=(uH HR).c1;have s2:=(uH HR).c2;have f0:=(uH HR).free 0;have f1:=(uH HR).free 1;have f2:=(uH HR).free 2
  have XP:=(uH HR).put (.int .i64 0) (.int .i64 0) (.slice none 0 0)
  have z0:=XP.c0;have z1:=XP.c1;have z2:=XP.c2
  have BP:=hide (below_putM (uH HB) (b:=w.heap.size+1+1+1) (by omega) (.int .i64 0) (.int .i64 0) (.slice none 0 0))
  clear XP
  go_wp2_with fail
  exact bodyPost_ret (v:=.tuple #[.agg #[.int .i64 0,.int .i64 0,.slice none 0 0],.int .i64 2]) (by simp [results,Tryz.results73,go_sem,z0,z1,z2]) rfl ⟨.inr ⟨hv ▸ hz,by rw [hv]⟩,uH BP⟩
 have p0:=(uH HJ).c0
 have p1:=(uH HJ).c1
 have p2:=(uH HJ).c2
 have q0:=(uH HL).c0
 have q1:=(uH HL).c1
 have q2:=(uH HL).c2
 go_wp2_with fail
 clear p0 p1 p2 q0 q1 q2
 refine (uH KC8 (by simp) (by simp) _ _ _ _ _ (uH HB) (uH LJ) (uH LL)).mono ?_
 rintro e w8 ⟨⟨rfl,zo,zc,rfl,hz⟩ | ⟨her,rfl⟩,hb⟩
 ·replace HX:=hide ((uH HX).all hb)
  replace HQ:=hide ((uH HQ).all hb)
  replace HF:=hide ((uH HF).all hb)
  replace HR:=hide ((uH HR).all hb)
  replace HE:=hide ((uH HE).all hb)
  replace HI:=hide ((uH HI).all hb)
  replace HJ:=hide ((uH HJ).all hb)
  replace HK:=hide ((uH HK).all hb)
  replace HL:=hide ((uH HL).all hb)
  replace LE:=hide ((uH LE).below hb)
  replace LI:=hide ((uH LI).below hb)
  replace LJ:=hide ((uH LJ).below hb)
  replace LK:=hide ((uH LK).below hb)
  replace LL:=hide ((uH LL).below hb)
  replace HB:=hide ((uH HB).trans (hb.mono (uH HB).size))
  clear hb
  have LZ:=hide hz
  clear hz
  have hv:E0 = 0:=by rw [← uH HE0];simp
  have s0:=(uH HR).c0;have s1:=(uH HR).c1;have s2:=(uH HR).c2;have f0:=(uH HR).free 0;have f1:=(uH HR).free 1;have f2:=(uH HR).free 2
  have XP:=(uH HR).put (.int .i64 (s:Nat)) (.int .i64 1) (.slice zo nZ zc)
  have z0:=XP.c0;have z1:=XP.c1;have z2:=XP.c2
  have BP:=hide (below_putM (uH HB) (b:=w.heap.size+1+1+1) (by omega) (.int .i64 (s:Nat)) (.int .i64 1) (.slice zo nZ zc))
  have LF2:=hide (BitsAt.putM (uH LZ) (uH HR) (.int .i64 (s:Nat)) (.int .i64 1) (.slice zo nZ zc))
  clear XP
  go_wp2_with fail
  exact bodyPost_ret (v:=.tuple #[.agg #[.int .i64 (s:Nat),.int .i64 1,.slice zo nZ zc],.int .i64 0]) (by simp [results,Tryz.results73,go_sem,z0,z1,z2]) rfl ⟨.inl ⟨hv,zo,zc,rfl,uH LF2⟩,uH BP⟩
 ·replace HX:=hide ((uH HX).all hb)
  replace HQ:=hide ((uH HQ).all hb)
  replace HF:=hide ((uH HF).all hb)
  replace HR:=hide ((uH HR).all hb)
  replace HE:=hide ((uH HE).all hb)
  replace HI:=hide ((uH HI).all hb)
  replace HJ:=hide ((uH HJ).all hb)
  replace HK:=hide ((uH HK).all hb)
  replace HL:=hide ((uH HL).all hb)
  replace LE:=hide ((uH LE).below hb)
  replace LI:=hide ((uH LI).below hb)
  replace LJ:=hide ((uH LJ).below hb)
  replace LK:=hide ((uH LK).below hb)
  replace LL:=hide ((uH LL).below hb)
  replace HB:=hide ((uH HB).trans (hb.mono (uH HB).size))
  clear hb
  have hv:E0 = er:=by rw [← uH HE0];first | (simp;done) | simp [her]
  have hz:(er:Int) ≠ 0:=by simp [her]
  have s0:=(uH HR).c0;have s1:=(uH HR).c1;have s2:=(uH HR).c2;have f0:=(uH HR).free 0;have f1:=(uH HR).free 1;have f2:=(uH HR).free 2
  have XP:=(uH HR).put (.int .i64 0) (.int .i64 0) (.slice none 0 0)
  have z0:=XP.c0;have z1:=XP.c1;have z2:=XP.c2
  have BP:=hide (below_putM (uH HB) (b:=w.heap.size+1+1+1) (by omega) (.int .i64 0) (.int .i64 0) (.slice none 0 0))
  clear XP
  go_wp2_with fail
  exact bodyPost_ret (v:=.tuple #[.agg #[.int .i64 0,.int .i64 0,.slice none 0 0],.int .i64 er]) (by simp [results,Tryz.results73,go_sem,z0,z1,z2]) rfl ⟨.inr ⟨hv ▸ hz,by rw [hv]⟩,uH BP⟩
theorem lsolve_of (m n p s nA ac nB bc nC cc nE ec nQ nY nZ nV nX:Nat) (ao bo co eo:Option Addr) (Q Y Z V X:List Nat) (e0 e1 e2:Int) (fX:Bool) (w:World)
  (C1:∀ w',Below w.heap.size w w'→Calls Tryz.prog 34 #[.agg #[.int .i64 (m:Nat),.int .i64 (n:Nat),.slice ao nA ac,.int .i64 (p:Nat),.int .i64 (n:Nat),.slice bo nB bc,.int .i64 (m:Nat),.int .i64 1,.slice co nC cc,.int .i64 (p:Nat),.int .i64 1,.slice eo nE ec]] w' fun e w''=>e = .returned (.int .i64 e0)∧Below w'.heap.size w' w'')
  (C2:e0 = 0→∀ w',Below w.heap.size w w'→Calls Tryz.prog 72 #[.agg #[.int .i64 (p:Nat),.int .i64 (n:Nat),.slice bo nB bc],.agg #[.int .i64 (p:Nat),.int .i64 1,.slice eo nE ec]] w' fun e w''=>LbAns w'' p n nQ nY e1 Q Y e∧Below w'.heap.size w' w'')
  (C3:e0 = 0→e1 = 0→∀ w' qo qc yo yc,Below w.heap.size w w'→BitsAt w' qo qc (mxL Q)→BitsAt w' yo yc (mxL Y)→Calls Tryz.prog 73 #[.agg #[.int .i64 (m:Nat),.int .i64 (n:Nat),.slice ao nA ac,.int .i64 (p:Nat),.int .i64 (n:Nat),.slice bo nB bc,.int .i64 (m:Nat),.int .i64 1,.slice co nC cc,.int .i64 (p:Nat),.int .i64 1,.slice eo nE ec],.agg #[.int .i64 (n:Nat),.int .i64 (n:Nat),.slice qo nQ qc],.agg #[.int .i64 (p:Nat),.int .i64 1,.slice yo nY yc]] w' fun e w''=>((e2 = 0∧∃ zo zc,e = .returned (.tuple #[.agg #[.int .i64 (s:Nat),.int .i64 1,.slice zo nZ zc],.int .i64 0])∧BitsAt w'' zo zc (mxL Z)) ∨ (e2 ≠ 0∧e = .returned (.tuple #[.agg #[.int .i64 0,.int .i64 0,.slice none 0 0],.int .i64 e2])))∧Below w'.heap.size w' w'')
  (C4:e0 = 0→e1 = 0→e2 = 0→∀ w' yo yc zo zc,Below w.heap.size w w'→BitsAt w' yo yc (mxL Y)→BitsAt w' zo zc (mxL Z)→Calls Tryz.prog 74 #[.agg #[.int .i64 (p:Nat),.int .i64 1,.slice yo nY yc],.agg #[.int .i64 (s:Nat),.int .i64 1,.slice zo nZ zc]] w' fun e w''=>(∃ vo vc,e = .returned (.tuple #[.agg #[.int .i64 (n:Nat),.int .i64 1,.slice vo nV vc],.int .i64 0])∧BitsAt w'' vo vc (mxL V))∧Below w'.heap.size w' w'')
  (C5:e0 = 0→e1 = 0→e2 = 0→∀ w' qo qc vo vc,Below w.heap.size w w'→BitsAt w' qo qc (mxL Q)→BitsAt w' vo vc (mxL V)→Calls Tryz.prog 75 #[.agg #[.int .i64 (n:Nat),.int .i64 (n:Nat),.slice qo nQ qc],.agg #[.int .i64 (n:Nat),.int .i64 1,.slice vo nV vc]] w' fun e w''=>(∃ xo xc,e = .returned (.tuple #[.agg #[.int .i64 (n:Nat),.int .i64 1,.slice xo nX xc],.int .i64 0])∧BitsAt w'' xo xc (mxL X))∧Below w'.heap.size w' w'')
  (C6:e0 = 0→e1 = 0→e2 = 0→∀ w' xo xc,Below w.heap.size w w'→BitsAt w' xo xc (mxL X)→Calls Tryz.prog 76 #[.agg #[.int .i64 (n:Nat),.int .i64 1,.slice xo nX xc]] w' fun e w''=>e = .returned (.bool fX)∧Below w'.heap.size w' w'') :
  Calls Tryz.prog 39 #[.agg #[.int .i64 (m:Nat),.int .i64 (n:Nat),.slice ao nA ac,.int .i64 (p:Nat),.int .i64 (n:Nat),.slice bo nB bc,.int .i64 (m:Nat),.int .i64 1,.slice co nC cc,.int .i64 (p:Nat),.int .i64 1,.slice eo nE ec]] w fun e w'=>(((if e0 = 0 then (if e1 = 0 then (if e2 = 0 then (if fX = true then 0 else 2) else e2) else e1) else e0) = 0∧∃ xo xc,e = .returned (.tuple #[.agg #[.int .i64 (n:Nat),.int .i64 1,.slice xo nX xc],.int .i64 0])∧BitsAt w' xo xc (mxL X)) ∨ ((if e0 = 0 then (if e1 = 0 then (if e2 = 0 then (if fX = true then 0 else 2) else e2) else e1) else e0) ≠ 0∧e = .returned (.tuple #[.agg #[.int .i64 0,.int .i64 0,.slice none 0 0],.int .i64 (if e0 = 0 then (if e1 = 0 then (if e2 = 0 then (if fX = true then 0 else 2) else e2) else e1) else e0)])))∧Below w.heap.size w w':=by
 have b4:=boxesT1_20 53 w [.int .i64 (m:Nat),.int .i64 (n:Nat),.slice ao nA ac,.int .i64 (p:Nat),.int .i64 (n:Nat),.slice bo nB bc,.int .i64 (m:Nat),.int .i64 1,.slice co nC cc,.int .i64 (p:Nat),.int .i64 1,.slice eo nE ec] (.int .i64 0) (.int .i64 0) (.slice none 0 0) ((w.alloc (.cells #[.int .i64 (m:Nat),.int .i64 (n:Nat),.slice ao nA ac,.int .i64 (p:Nat),.int .i64 (n:Nat),.slice bo nB bc,.int .i64 (m:Nat),.int .i64 1,.slice co nC cc,.int .i64 (p:Nat),.int .i64 1,.slice eo nE ec] 53)).alloc (.cells #[.int .i64 0,.int .i64 0,.slice none 0 0] 24)) (by have:=Below.refl ((w.alloc (.cells #[.int .i64 (m:Nat),.int .i64 (n:Nat),.slice ao nA ac,.int .i64 (p:Nat),.int .i64 (n:Nat),.slice bo nB bc,.int .i64 (m:Nat),.int .i64 1,.slice co nC cc,.int .i64 (p:Nat),.int .i64 1,.slice eo nE ec] 53)).alloc (.cells #[.int .i64 0,.int .i64 0,.slice none 0 0] 24)).heap.size ((w.alloc (.cells #[.int .i64 (m:Nat),.int .i64 (n:Nat),.slice ao nA ac,.int .i64 (p:Nat),.int .i64 (n:Nat),.slice bo nB bc,.int .i64 (m:Nat),.int .i64 1,.slice co nC cc,.int .i64 (p:Nat),.int .i64 1,.slice eo nE ec] 53)).alloc (.cells #[.int .i64 0,.int .i64 0,.slice none 0 0] 24));simpa only [size_alloc9] using this)
 obtain ⟨b0,x0,x1⟩:=b4
 have HX:=hide x0;have HR:=hide x1;have HB:=hide b0
 have KC1:=hide C1
 have KC2:=hide C2
 have KC3:=hide C3
 have KC4:=hide C4
 have KC5:=hide C5
 have KC6:=hide C6
 clear b0 x0 x1 C1 C2 C3 C4 C5 C6
 generalize hE0:(if e0 = 0 then (if e1 = 0 then (if e2 = 0 then (if fX = true then 0 else 2) else e2) else e1) else e0) = E0
 have HE0:=hide hE0
 clear hE0
 go_enter Tryz.func39,Tryz.ntmps39
 have t0:=(uH HX).c 0 rfl
 have t1:=(uH HX).c 1 rfl
 have t2:=(uH HX).c 2 rfl
 have t3:=(uH HX).c 3 rfl
 have t4:=(uH HX).c 4 rfl
 have t5:=(uH HX).c 5 rfl
 have t6:=(uH HX).c 6 rfl
 have t7:=(uH HX).c 7 rfl
 have t8:=(uH HX).c 8 rfl
 have t9:=(uH HX).c 9 rfl
 have t10:=(uH HX).c 10 rfl
 have t11:=(uH HX).c 11 rfl
 go_wp2_with fail
 clear t0 t1 t2 t3 t4 t5 t6 t7 t8 t9 t10 t11
 refine (uH KC1 _ (uH HB)).mono ?_
 rintro e w1 ⟨rfl,hb⟩
 replace HX:=hide ((uH HX).all hb)
 replace HR:=hide ((uH HR).all hb)
 replace HB:=hide ((uH HB).trans (hb.mono (uH HB).size))
 clear hb
 by_cases he0:e0 = 0
 rotate_left
 ·have ne0:(e0 != 0) = true:=by simp [he0]
  have hv:E0 = e0:=by rw [← uH HE0];first | (simp;done) | simp [he0]
  have hz:(e0:Int) ≠ 0:=by simp [he0]
  have s0:=(uH HR).c0;have s1:=(uH HR).c1;have s2:=(uH HR).c2;have f0:=(uH HR).free 0;have f1:=(uH HR).free 1;have f2:=(uH HR).free 2
  have XP:=(uH HR).put (.int .i64 0) (.int .i64 0) (.slice none 0 0)
  have z0:=XP.c0;have z1:=XP.c1;have z2:=XP.c2
  have BP:=hide (below_putM (uH HB) (b:=w.heap.size+1) (by omega) (.int .i64 0) (.int .i64 0) (.slice none 0 0))
  clear XP
  go_wp2_with fail
  exact bodyPost_ret (v:=.tuple #[.agg #[.int .i64 0,.int .i64 0,.slice none 0 0],.int .i64 e0]) (by simp [results,Tryz.results39,go_sem,z0,z1,z2]) rfl ⟨.inr ⟨hv ▸ hz,by rw [hv]⟩,uH BP⟩
 subst he0
 have t3:=(uH HX).c 3 rfl
 have t4:=(uH HX).c 4 rfl
 have t5:=(uH HX).c 5 rfl
 have t9:=(uH HX).c 9 rfl
 have t10:=(uH HX).c 10 rfl
 have t11:=(uH HX).c 11 rfl
 go_wp2_with fail
 clear t3 t4 t5 t9 t10 t11
 refine (uH KC2 (by simp) _ (uH HB)).mono ?_
 rintro e w2 ⟨⟨rfl,qo,qc,yo,yc,rfl,hq,hy⟩ | ⟨her,rfl⟩,hb⟩
 rotate_left
 ·replace HX:=hide ((uH HX).all hb)
  replace HR:=hide ((uH HR).all hb)
  replace HB:=hide ((uH HB).trans (hb.mono (uH HB).size))
  clear hb
  have ba:=below_alloc9 w2 (.cells #[.int .i64 0,.int .i64 0,.slice none 0 0] 24)
  have HQ:=BoxM.new w2 (.int .i64 0) (.int .i64 0) (.slice none 0 0)
  replace HQ:=hide HQ
  replace HX:=hide ((uH HX).all ba)
  replace HR:=hide ((uH HR).all ba)
  replace HB:=hide ((uH HB).trans (ba.mono (uH HB).size))
  clear ba
  have ba:=below_alloc9 (w2.alloc (.cells #[.int .i64 0,.int .i64 0,.slice none 0 0] 24)) (.cells #[.int .i64 0,.int .i64 0,.slice none 0 0] 24)
  have HY:=BoxM.new (w2.alloc (.cells #[.int .i64 0,.int .i64 0,.slice none 0 0] 24)) (.int .i64 0) (.int .i64 0) (.slice none 0 0)
  rw [size_alloc9] at HY
  replace HY:=hide HY
  replace HX:=hide ((uH HX).all ba)
  replace HR:=hide ((uH HR).all ba)
  replace HQ:=hide ((uH HQ).all ba)
  replace HB:=hide ((uH HB).trans (ba.mono (uH HB).size))
  clear ba
  have hne:(e1 != 0) = true:=by simp [her]
  have hv:E0 = e1:=by rw [← uH HE0];first | (simp;done) | simp [her]
  have hz:(e1:Int) ≠ 0:=by simp [her]
  have s0:=(uH HR).c0;have s1:=(uH HR).c1;have s2:=(uH HR).c2;have f0:=(uH HR).free 0;have f1:=(uH HR).free 1;have f2:=(uH HR).free 2
  have XP:=(uH HR).put (.int .i64 0) (.int .i64 0) (.slice none 0 0)
  have z0:=XP.c0;have z1:=XP.c1;have z2:=XP.c2
  have BP:=hide (below_putM (uH HB) (b:=w.heap.size+1) (by omega) (.int .i64 0) (.int .i64 0) (.slice none 0 0))
  clear XP
  go_wp2_with fail
  exact bodyPost_ret (v:=.tuple #[.agg #[.int .i64 0,.int .i64 0,.slice none 0 0],.int .i64 e1]) (by simp [results,Tryz.results39,go_sem,z0,z1,z2]) rfl ⟨.inr ⟨hv ▸ hz,by rw [hv]⟩,uH BP⟩
 replace HX:=hide ((uH HX).all hb)
 replace HR:=hide ((uH HR).all hb)
 replace HB:=hide ((uH HB).trans (hb.mono (uH HB).size))
 clear hb
 have LQ:=hide hq
 have LY:=hide hy
 clear hq hy
 have ba:=below_alloc9 w2 (.cells #[.int .i64 (n:Nat),.int .i64 (n:Nat),.slice qo nQ qc] 24)
 have HQ:=BoxM.new w2 (.int .i64 (n:Nat)) (.int .i64 (n:Nat)) (.slice qo nQ qc)
 replace HQ:=hide HQ
 replace HX:=hide ((uH HX).all ba)
 replace HR:=hide ((uH HR).all ba)
 replace LQ:=hide ((uH LQ).below ba)
 replace LY:=hide ((uH LY).below ba)
 replace HB:=hide ((uH HB).trans (ba.mono (uH HB).size))
 clear ba
 have ba:=below_alloc9 (w2.alloc (.cells #[.int .i64 (n:Nat),.int .i64 (n:Nat),.slice qo nQ qc] 24)) (.cells #[.int .i64 (p:Nat),.int .i64 1,.slice yo nY yc] 24)
 have HY:=BoxM.new (w2.alloc (.cells #[.int .i64 (n:Nat),.int .i64 (n:Nat),.slice qo nQ qc] 24)) (.int .i64 (p:Nat)) (.int .i64 1) (.slice yo nY yc)
 rw [size_alloc9] at HY
 replace HY:=hide HY
 replace HX:=hide ((uH HX).all ba)
 replace HR:=hide ((uH HR).all ba)
 replace HQ:=hide ((uH HQ).all ba)
 replace LQ:=hide ((uH LQ).below ba)
 replace LY:=hide ((uH LY).below ba)
 replace HB:=hide ((uH HB).trans (ba.mono (uH HB).size))
 clear ba
 have t0:=(uH HX).c 0 rfl
 have t1:=(uH HX).c 1 rfl
 have t2:=(uH HX).c 2 rfl
 have t3:=(uH HX).c 3 rfl
 have t4:=(uH HX).c 4 rfl
 have t5:=(uH HX).c 5 rfl
 have t6:=(uH HX).c 6 rfl
 have t7:=(uH HX).c 7 rfl
 have t8:=(uH HX).c 8 rfl
 have t9:=(uH HX).c 9 rfl
 have t10:=(uH HX).c 10 rfl
 have t11:=(uH HX).c 11 rfl
 have q0:=(uH HQ).c0
 have q1:=(uH HQ).c1
 have q2:=(uH HQ).c2
 have r0:=(uH HY).c0
 have r1:=(uH HY).c1
 have r2:=(uH HY).c2
 go_wp2_with fail
 clear t0 t1 t2 t3 t4 t5 t6 t7 t8 t9 t10 t11 q0 q1 q2 r0 r1 r2
 refine (uH KC3 (by simp) (by simp) _ _ _ _ _ (uH HB) (uH LQ) (uH LY)).mono ?_
 rintro e w3 ⟨⟨rfl,zo,zc,rfl,hz⟩ | ⟨her,rfl⟩,hb⟩
 rotate_left
 ·replace HX:=hide ((uH HX).all hb)
  replace HR:=hide ((uH HR).all hb)
  replace HQ:=hide ((uH HQ).all hb)
  replace HY:=hide ((uH HY).all hb)
  replace LQ:=hide ((uH LQ).below hb)
  replace LY:=hide ((uH LY).below hb)
  replace HB:=hide ((uH HB).trans (hb.mono (uH HB).size))
  clear hb
  have ba:=below_alloc9 w3 (.cells #[.int .i64 0,.int .i64 0,.slice none 0 0] 24)
  have HZ:=BoxM.new w3 (.int .i64 0) (.int .i64 0) (.slice none 0 0)
  replace HZ:=hide HZ
  replace HX:=hide ((uH HX).all ba)
  replace HR:=hide ((uH HR).all ba)
  replace HQ:=hide ((uH HQ).all ba)
  replace HY:=hide ((uH HY).all ba)
  replace LQ:=hide ((uH LQ).below ba)
  replace LY:=hide ((uH LY).below ba)
  replace HB:=hide ((uH HB).trans (ba.mono (uH HB).size))
  clear ba
  have hne:(e2 != 0) = true:=by simp [her]
  have hv:E0 = e2:=by rw [← uH HE0];first | (simp;done) | simp [her]
  have hz:(e2:Int) ≠ 0:=by simp [her]
  have s0:=(uH HR).c0;have s1:=(uH HR).c1;have s2:=(uH HR).c2;have f0:=(uH HR).free 0;have f1:=(uH HR).free 1;have f2:=(uH HR).free 2
  have XP:=(uH HR).put (.int .i64 0) (.int .i64 0) (.slice none 0 0)
  have z0:=XP.c0;have z1:=XP.c1;have z2:=XP.c2
  have BP:=hide (below_putM (uH HB) (b:=w.heap.size+1) (by omega) (.int .i64 0) (.int .i64 0) (.slice none 0 0))
  clear XP
  go_wp2_with fail
  exact bodyPost_ret (v:=.tuple #[.agg #[.int .i64 0,.int .i64 0,.slice none 0 0],.int .i64 e2]) (by simp [results,Tryz.results39,go_sem,z0,z1,z2]) rfl ⟨.inr ⟨hv ▸ hz,by rw [hv]⟩,uH BP⟩
 replace HX:=hide ((uH HX).all hb)
 replace HR:=hide ((uH HR).all hb)
 replace HQ:=hide ((uH HQ).all hb)
 replace HY:=hide ((uH HY).all hb)
 replace LQ:=hide ((uH LQ).below hb)
 replace LY:=hide ((uH LY).below hb)
 replace HB:=hide ((uH HB).trans (hb.mono (uH HB).size))
 clear hb
 have LZ:=hide hz
 clear hz
 have ba:=below_alloc9 w3 (.cells #[.int .i64 (s:Nat),.int .i64 1,.slice zo nZ zc] 24)
 have HZ:=BoxM.new w3 (.int .i64 (s:Nat)) (.int .i64 1) (.slice zo nZ zc)
 replace HZ:=hide HZ
 replace HX:=hide ((uH HX).all ba)
 replace HR:=hide ((uH HR).all ba)
 replace HQ:=hide ((uH HQ).all ba)
 replace HY:=hide ((uH HY).all ba)
 replace LQ:=hide ((uH LQ).below ba)
 replace LY:=hide ((uH LY).below ba)
 replace LZ:=hide ((uH LZ).below ba)
 replace HB:=hide ((uH HB).trans (ba.mono (uH HB).size))
 clear ba
 have p0:=(uH HY).c0
 have p1:=(uH HY).c1
 have p2:=(uH HY).c2
 have q0:=(uH HZ).c0
 have q1:=(uH HZ).c1
 have q2:=(uH HZ).c2
 go_wp2_with fail
 clear p0 p1 p2 q0 q1 q2
 refine (uH KC4 (by simp) (by simp) (by simp) _ _ _ _ _ (uH HB) (uH LY) (uH LZ)).mono ?_
 rintro e w4 ⟨⟨vo,vc,rfl,hv⟩,hb⟩
 replace HX:=hide ((uH HX).all hb)
 replace HR:=hide ((uH HR).all hb)
 replace HQ:=hide ((uH HQ).all hb)
 replace HY:=hide ((uH HY).all hb)
 replace HZ:=hide ((uH HZ).all hb)
 replace LQ:=hide ((uH LQ).below hb)
 replace LY:=hide ((uH LY).below hb)
 replace LZ:=hide ((uH LZ).below hb)
 replace HB:=hide ((uH HB).trans (hb.mono (uH HB).size))
 clear hb
 have LV:=hide hv
 clear hv
 have ba:=below_alloc9 w4 (.cells #[.int .i64 (n:Nat),.int .i64 1,.slice vo nV vc] 24)
 have HV:=BoxM.new w4 (.int .i64 (n:Nat)) (.int .i64 1) (.slice vo nV vc)
 replace HV:=hide HV
 replace HX:=hide ((uH HX).all ba)
 replace HR:=hide ((uH HR).all ba)
 replace HQ:=hide ((uH HQ).all ba)
 replace HY:=hide ((uH HY).all ba)
 replace HZ:=hide ((uH HZ).all ba)
 replace LQ:=hide ((uH LQ).below ba)
 replace LY:=hide ((uH LY).below ba)
 replace LZ:=hide ((uH LZ).below ba)
 replace LV:=hide ((uH LV).below ba)
 replace HB:=hide ((uH HB).trans (ba.mono (uH HB).size))
 clear ba
 have p0:=(uH HQ).c0
 have p1:=(uH HQ).c1
 have p2:=(uH HQ).c2
 have q0:=(uH HV).c0
 have q1:=(uH HV).c1
 have q2:=(uH HV).c2
 go_wp2_with fail
 clear p0 p1 p2 q0 q1 q2
 refine (uH KC5 (by simp) (by simp) (by simp) _ _ _ _ _ (uH HB) (uH LQ) (uH LV)).mono ?_
 rintro e w5 ⟨⟨xo,xc,rfl,hx⟩,hb⟩
 replace HX:=hide ((uH HX).all hb)
 replace HR:=hide ((uH HR).all hb)
 replace HQ:=hide ((uH HQ).all hb)
 replace HY:=hide ((uH HY).all hb)
 replace HZ:=hide ((uH HZ).all hb)
 replace HV:=hide ((uH HV).all hb)
 replace LQ:=hide ((uH LQ).below hb)
 replace LY:=hide ((uH LY).below hb)
 replace LZ:=hide ((uH LZ).below hb)
 replace LV:=hide ((uH LV).below hb)
 replace HB:=hide ((uH HB).trans (hb.mono (uH HB).size))
 clear hb
 have LX:=hide hx
 clear hx
 have ba:=below_alloc9 w5 (.cells #[.int .i64 (n:Nat),.int .i64 1,.slice xo nX xc] 24)
 have HXX:=BoxM.new w5 (.int .i64 (n:Nat)) (.int .i64 1) (.slice xo nX xc)
 replace HXX:=hide HXX
 replace HX:=hide ((uH HX).all ba)
 replace HR:=hide ((uH HR).all ba)
 replace HQ:=hide ((uH HQ).all ba)
 replace HY:=hide ((uH HY).all ba)
 replace HZ:=hide ((uH HZ).all ba)
 replace HV:=hide ((uH HV).all ba)
 replace LQ:=hide ((uH LQ).below ba)
 replace LY:=hide ((uH LY).below ba)
 replace LZ:=hide ((uH LZ).below ba)
 replace LV:=hide ((uH LV).below ba)
 replace LX:=hide ((uH LX).below ba)
 replace HB:=hide ((uH HB).trans (ba.mono (uH HB).size))
 clear ba
 have p0:=(uH HXX).c0
 have p1:=(uH HXX).c1
 have p2:=(uH HXX).c2
 go_wp2_with fail
 clear p0 p1 p2
 refine (uH KC6 (by simp) (by simp) (by simp) _ _ _ (uH HB) (uH LX)).mono ?_
 rintro e w6 ⟨rfl,hb⟩
 replace HX:=hide ((uH HX).all hb)
 replace HR:=hide ((uH HR).all hb)
 replace HQ:=hide ((uH HQ).all hb)
 replace HY:=hide ((uH HY).all hb)
 replace HZ:=hide ((uH HZ).all hb)
 replace HV:=hide ((uH HV).all hb)
 replace HXX:=hide ((uH HXX).all hb)
 replace LQ:=hide ((uH LQ).below hb)
 replace LY:=hide ((uH LY).below hb)
 replace LZ:=hide ((uH LZ).below hb)
 replace LV:=hide ((uH LV).below hb)
 replace LX:=hide ((uH LX).below hb)
 replace HB:=hide ((uH HB).trans (hb.mono (uH HB).size))
 clear hb
 cases fX
 ·have hv:E0 = 2:=by rw [← uH HE0];simp
  have hz:(2:Int) ≠ 0:=by simp
  have s0:=(uH HR).c0;have s1:=(uH HR).c1;have s2:=(uH HR).c2;have f0:=(uH HR).free 0;have f1:=(uH HR).free 1;have f2:=(uH HR).free 2
  have XP:=(uH HR).put (.int .i64 0) (.int .i64 0) (.slice none 0 0)
  have z0:=XP.c0;have z1:=XP.c1;have z2:=XP.c2
  have BP:=hide (below_putM (uH HB) (b:=w.heap.size+1) (by omega) (.int .i64 0) (.int .i64 0) (.slice none 0 0))
  clear XP
  go_wp2_with fail
  exact bodyPost_ret (v:=.tuple #[.agg #[.int .i64 0,.int .i64 0,.slice none 0 0],.int .i64 2]) (by simp [results,Tryz.results39,go_sem,z0,z1,z2]) rfl ⟨.inr ⟨hv ▸ hz,by rw [hv]⟩,uH BP⟩
 have p0:=(uH HXX).c0
 have p1:=(uH HXX).c1
 have p2:=(uH HXX).c2
 have hv:E0 = 0:=by rw [← uH HE0];simp
 have s0:=(uH HR).c0;have s1:=(uH HR).c1;have s2:=(uH HR).c2;have f0:=(uH HR).free 0;have f1:=(uH HR).free 1;have f2:=(uH HR).free 2
 have XP:=(uH HR).put (.int .i64 (n:Nat)) (.int .i64 1) (.slice xo nX xc)
 have z0:=XP.c0;have z1:=XP.c1;have z2:=XP.c2
 have BP:=hide (below_putM (uH HB) (b:=w.heap.size+1) (by omega) (.int .i64 (n:Nat)) (.int .i64 1) (.slice xo nX xc))
 have LF2:=hide (BitsAt.putM (uH LX) (uH HR) (.int .i64 (n:Nat)) (.int .i64 1) (.slice xo nX xc))
 clear XP
 go_wp2_with fail
 exact bodyPost_ret (v:=.tuple #[.agg #[.int .i64 (n:Nat),.int .i64 1,.slice xo nX xc],.int .i64 0]) (by simp [results,Tryz.results39,go_sem,z0,z1,z2]) rfl ⟨.inl ⟨hv,xo,xc,rfl,uH LF2⟩,uH BP⟩
end Go.Proofs.YtcbcmlaogehimaaGreatDoor
namespace Go.Proofs.YtcbcmlaogehimaaGreatDoor
open Go.RowKit
def trS (T:Nat→Nat→Nat) (X:Nat→Nat) (dn:Nat→Nat→Bool) (i s:Nat):Nat→Nat
 | 0=>s
 | k+1=>if dn i k = true then aV (trS T X dn i s k) (fN (mV (T i k) (X k))) else trS T X dn i s k
def trU (X:Nat→Nat) (i x:Nat):Nat→Nat:=fun k=>if k = i then x else X k
def trX (n:Nat) (T:Nat→Nat→Nat) (b:Nat→Nat) (o:Nat→Nat) (dn:Nat→Nat→Bool):Nat→Nat→Nat
 | 0=>fun _=>0
 | m+1=>trU (trX n T b o dn m) (o m) (dV (trS T (trX n T b o dn m) dn (o m) (b (o m)) n) (T (o m) (o m)))
def trN (n:Nat) (T:Nat→Nat→Nat) (b:Nat→Nat) (o:Nat→Nat) (dn:Nat→Nat→Bool) (m:Nat):Nat:=dV (trS T (trX n T b o dn m) dn (o m) (b (o m)) n) (T (o m) (o m))
theorem trS_lt (T:Nat→Nat→Nat) (X:Nat→Nat) (dn:Nat→Nat→Bool) (i s:Nat) (hs:s < 18446744073709551616):∀ k,trS T X dn i s k < 18446744073709551616
 | 0=>hs
 | k+1=>by
  show (if _ then _ else _) < _
  split
  ·exact aV_lt _ _ (trS_lt T X dn i s hs k) (fN_lt _ (mV_lt _ _))
  ·exact trS_lt T X dn i s hs k
theorem trX_lt (n:Nat) (T:Nat→Nat→Nat) (b o:Nat→Nat) (dn:Nat→Nat→Bool):∀ m i,trX n T b o dn m i < 18446744073709551616
 | 0,_=>by show (0:Nat) < _;decide
 | m+1,i=>by
  show (if _ then _ else _) < _
  split
  ·exact dV_lt _ _
  ·exact trX_lt n T b o dn m i
structure Ordr (n:Nat) (o:Nat→Nat):Prop where
 lt:∀ m,m < n→o m < n
 inj:∀ m t,m < n→t < n→o m = o t→m = t
 all:∀ i,i < n→∃ m,m < n∧o m = i
theorem ord_last (n:Nat):Ordr n (fun m=>n - 1 - m):=⟨fun m hm=>by show n - 1 - m < n;omega,fun m t hm ht h=>by have h2:n - 1 - m = n - 1 - t:=h;omega,fun i hi=>⟨n - 1 - i,by omega,by show n - 1 - (n - 1 - i) = i;omega⟩⟩
theorem ord_first (n:Nat):Ordr n (fun m=>m):=⟨fun _ h=>h,fun _ _ _ _ h=>h,fun i hi=>⟨i,hi,rfl⟩⟩
theorem trX_at {n:Nat} {T:Nat→Nat→Nat} {b o:Nat→Nat} {dn:Nat→Nat→Bool} (h:Ordr n o) {m:Nat}:∀ t,m < t→t≤n→trX n T b o dn t (o m) = trN n T b o dn m:=by
 intro t
 induction t with
 | zero=>intro g _;omega
 | succ t ih =>
  intro h1 h2
  show (if o m = o t then _ else _) = _
  rcases Nat.lt_or_ge m t with g | g
  ·rw [if_neg (fun e=>by have:=h.inj m t (by omega) (by omega) e;omega)]
   exact ih g (by omega)
  ·have e:m = t:=by omega
   subst e
   rw [if_pos rfl]
   rfl
def trM (n q:Nat) (T B:Nat→Nat→Nat) (o:Nat→Nat) (dn:Nat→Nat→Bool):List Nat:=mkM n q (fun i k=>trX n T (fun p=>B p k) o dn n i)
def trJ (n q:Nat) (T B:Nat→Nat→Nat) (o:Nat→Nat) (dn:Nat→Nat→Bool) (c m:Nat):List Nat:=mkM n q (fun i k=>if k < c then trX n T (fun p=>B p k) o dn n i else if k = c then trX n T (fun p=>B p k) o dn m i else 0)
theorem trM_len (n q:Nat) (T B:Nat→Nat→Nat) (o:Nat→Nat) (dn:Nat→Nat→Bool):(trM n q T B o dn).length = n * q:=mkM_len _ _ _
theorem trJ_len (n q:Nat) (T B:Nat→Nat→Nat) (o:Nat→Nat) (dn:Nat→Nat→Bool) (c m:Nat):(trJ n q T B o dn c m).length = n * q:=mkM_len _ _ _
theorem trJ_start (n q:Nat) (T B:Nat→Nat→Nat) (o:Nat→Nat) (dn:Nat→Nat→Bool):mkM n q (fun _ _=>0) = trJ n q T B o dn 0 0:=mkM_congr (fun i k _ _=>by
 rw [if_neg (by omega)]
 by_cases h:k = 0
 ·rw [if_pos h];rfl
 ·rw [if_neg h])
theorem trJ_col (n q:Nat) (T B:Nat→Nat→Nat) (o:Nat→Nat) (dn:Nat→Nat→Bool) (c:Nat):trJ n q T B o dn c n = trJ n q T B o dn (c+1) 0:=mkM_congr (fun i k _ _=>by
 by_cases h:k < c
 ·rw [if_pos h,if_pos (by omega)]
 ·by_cases h2:k = c
  ·rw [if_neg h,if_pos h2,if_pos (by omega)]
  ·rw [if_neg h,if_neg h2,if_neg (by omega)]
   by_cases h3:k = c+1
   ·rw [if_pos h3];rfl
   ·rw [if_neg h3])
theorem trJ_end (n q:Nat) (T B:Nat→Nat→Nat) (o:Nat→Nat) (dn:Nat→Nat→Bool):trJ n q T B o dn q 0 = trM n q T B o dn:=mkM_congr (fun i k _ hk=>by rw [if_pos hk])
theorem trJ_at {n q:Nat} (T B:Nat→Nat→Nat) (o:Nat→Nat) (dn:Nat→Nat→Bool) {c m k:Nat} (hk:k < n) (hc:c < q):elM q (trJ n q T B o dn c m) k c = trX n T (fun p=>B p c) o dn m k:=by
 unfold trJ
 rw [el_mk n q _ hk hc,if_neg (Nat.lt_irrefl c),if_pos rfl]
theorem trJ_set {n q:Nat} (T B:Nat→Nat→Nat) {o:Nat→Nat} (dn:Nat→Nat→Bool) (h:Ordr n o) {c m:Nat} (hm:m < n) (hc:c < q):(trJ n q T B o dn c m).set (o m * q+c) (trN n T (fun p=>B p c) o dn m) = trJ n q T B o dn c (m+1):=by
 unfold trJ
 rw [mkM_set n q _ _ (h.lt m hm) hc]
 refine mkM_congr (fun i k _ _=>?_)
 by_cases hk:k = c
 ·subst hk
  rw [if_neg (Nat.lt_irrefl k),if_pos rfl,if_neg (Nat.lt_irrefl k),if_pos rfl]
  show _ = if i = o m then _ else _
  by_cases hi:i = o m
  ·rw [if_pos ⟨hi,rfl⟩,if_pos hi];rfl
  ·rw [if_neg (fun e=>hi e.1),if_neg hi]
 ·rw [if_neg (fun e=>hk e.2)]
  by_cases h2:k < c
  ·rw [if_pos h2,if_pos h2]
  ·rw [if_neg h2,if_neg hk,if_neg h2,if_neg hk]
theorem trM_fin {n q:Nat} {T B:Nat→Nat→Nat} {o:Nat→Nat} {dn:Nat→Nat→Bool} (h:Ordr n o):finL (trM n q T B o dn) = true ↔ ∀ c m,c < q→m < n→fFin (trN n T (fun p=>B p c) o dn m) = true:=by
 rw [finL_all,trM_len]
 constructor
 ·intro g c m hc hm
  have:=g (o m * q+c) (place_lt (h.lt m hm) hc)
  unfold trM at this
  rw [mkM_atD _ _ _ (h.lt m hm) hc,trX_at h n hm (Nat.le_refl n)] at this
  exact this
 ·intro g p hp
  obtain ⟨h1,h2,h3⟩:=place_in hp
  obtain ⟨m,hm,e⟩:=h.all _ h1
  unfold trM
  rw [← h3,mkM_atD _ _ _ h1 h2,← e,trX_at h n hm (Nat.le_refl n)]
  exact g _ m h2 hm
def dnU (i k:Nat):Bool:=decide (i < k)
def dnL (i k:Nat):Bool:=decide (k < i)
def upM (n q:Nat) (R B:List Nat):List Nat:=trM n q (elM n R) (elM q B) (fun m=>n - 1 - m) dnU
def loM (n q:Nat) (R B:List Nat):List Nat:=trM n q (elM n R) (elM q B) (fun m=>m) dnL
def dgL (r c:Nat) (S:List Nat):List Nat:=(List.range (min r c)).map (fun i=>elM c S i i)
theorem dgL_len (r c:Nat) (S:List Nat):(dgL r c S).length = min r c:=by unfold dgL;rw [List.length_map,List.length_range]
def zdB (xs:List Nat):Bool:=xs.any (fun x=>decide (fK x = 0))
def ltB (a b:Nat):Bool:=decide (cO a b < 0)
def ftB (r c:Nat) (S:List Nat):Bool:=(dgL r c S).any (fun x=>!ltB (xV (bgF 0 (dgL r c S)) (-40)) (fR x))
end Go.Proofs.YtcbcmlaogehimaaGreatDoor
namespace Go.Proofs.YtcbcmlaogehimaaGreatDoor
open Go.RowKit
attribute [local go_sem ↓] Go.wp_at_zero Go.wp_at_succ
theorem build_own (fn:Nat) (caps:Array Value) (r c:Nat) (f:Nat→Nat→Nat) (w:World)
  (hcf:∀ args w,(callFunc fn args).run Tryz.prog w = .ok (.enter fn args) w) (hr:r≤6) (hc:c≤6) (hf:∀ i k,i < r→k < c→f i k < 18446744073709551616)
  (hstep:∀ w' i k,Below w.heap.size w w'→i < r→k < c→Calls Tryz.prog fn (#[.int .i64 (i:Nat),.int .i64 (k:Nat)] ++ caps) w' fun e w''=>e = .returned (.int .u64 (f i k:Nat))∧Below w'.heap.size w' w'') :
  Calls Tryz.prog 131 #[.int .i64 r,.int .i64 c,.func (.func fn) #[] caps] w fun e w'=>∃ ao cap,e = .returned (.agg #[.int .i64 r,.int .i64 c,.slice ao (r * c) cap])∧OwnB w.heap.size w' (.slice ao (r * c) cap) (mkM r c f)∧Below w.heap.size w w':=by
 obtain ⟨i0,hi0,hz0,hz1,hz2⟩:=info_parts infoBits
 have HS:=hide hstep;have HF:=hide hf
 have hm:(r:Int) * (c:Int) = ((r * c:Nat):Int):=cast_mul10 r c
 have h36:r * c≤36:=Nat.mul_le_mul hr hc
 have X0:=hide (BoxM.new w (.int .i64 0) (.int .i64 0) (.slice none 0 0))
 have B0:=hide (below_alloc9 w (.cells #[.int .i64 0,.int .i64 0,.slice none 0 0] 24))
 obtain ⟨w1,hmk,own1,gr1⟩:=run_make_own (P:=Tryz.prog) (w.alloc (.cells #[.int .i64 0,.int .i64 0,.slice none 0 0] 24)) (w.heap.size+1) 22 69 i0 (.int .u64 0) 1 Tryz.underlying22 hi0 hz0 hz1 .i64 .i64 (r * c) (by rw [hz2];omega) (by unfold maxLen;omega) (by simp)
 have B1:=hide ((uH B0).grown gr1 (by simp) (fun g hg=>by cases hg))
 have X1:BoxM w1 w.heap.size (.int .i64 0) (.int .i64 0) (.slice none 0 0):=(uH X0).grown gr1 (by simp)
 have O1:=hide (show OwnB (w.heap.size+1) w1 (.slice (some ⟨w.heap.size+1,0,none⟩) 0 (r * c)) (fsL (fun p=>f (p / c) (p % c)) (0 * c)) from ⟨by rw [Nat.zero_mul];simpa [fsL] using own1,by rw [Nat.zero_mul];intro x hx;cases hx⟩)
 have HX1:=hide X1
 clear own1 gr1 X0 B0 X1
 obtain ⟨F,hF⟩:∃ F:Nat→Nat,F = fun p=>f (p / c) (p % c):=⟨_,rfl⟩
 rw [← hF] at O1
 have FV:=hide (show ∀ j k,k < c→F (j * c+k) = f j k from fun j k hk=>by rw [hF];show f ((j * c+k) / c) ((j * c+k) % c) = _;rw [place_div hk,place_mod hk])
 have FM:=hide (show mkM r c f = fsL F (r * c) from by rw [hF];rfl)
 rw [uH FM]
 generalize hrc:r * c = n at *
 have HRC:=hide hrc
 clear hrc hstep hf hF
 go_enter Tryz.func131,Tryz.ntmps131
 go_wp2_with fail
 clear hmk
 go_loopw [7,15] (fun v i wr=>∃ j:Nat,j≤r∧i = .int .i64 j∧Hid (OwnB (w.heap.size+1) wr v (fsL F (j * c)))∧Hid (BoxM wr w.heap.size (.int .i64 0) (.int .i64 0) (.slice none 0 0))∧Hid (Below w.heap.size w wr)) (fun _ i _=>r - (intOf i).toNat)
 case atStart=>exact ⟨0,Nat.zero_le _,rfl,O1,HX1,B1⟩
 case round =>
  clear O1 HX1 B1
  obtain ⟨j,hj,rfl,hO,hX,hB⟩:=hrel
  by_cases hlt:j < r
  ·have hjI:(j:Int) < (r:Int):=by omega
   have hO':=hide (show OwnB (w.heap.size+1) wr _ (fsL F (j * c+0)) from uH hO)
   clear hO
   go_wp2_with fail
   go_loopw [7,19] (fun v i wr=>∃ k:Nat,k≤c∧i = .int .i64 k∧Hid (OwnB (w.heap.size+1) wr v (fsL F (j * c+k)))∧Hid (BoxM wr w.heap.size (.int .i64 0) (.int .i64 0) (.slice none 0 0))∧Hid (Below w.heap.size w wr)) (fun _ i _=>c - (intOf i).toNat)
   case atStart=>exact ⟨0,Nat.zero_le _,rfl,hO',hX,hB⟩
   case round =>
    clear hO' hX hB
    obtain ⟨k,hk,rfl,hO,hX,hB⟩:=hrel
    by_cases hkc:k < c
    ·have hkI:(k:Int) < (c:Int):=by omega
     have C:=hide (fun w' h=>uH HS w' j k h hlt hkc)
     have ho:=hide (uH HF j k hlt hkc)
     have eo:=hide (uH FV j k hkc)
     have hlen:=hide (show (fsL F (j * c+k)).length≤1000000 from by
      rw [fsL_len]
      have:=place_lt hlt hkc
      rw [uH HRC] at this
      omega)
     generalize f j k = o at *
     go_wp2_with fail
     refine (uH C _ hB.out).mono ?_
     rintro e w2 ⟨rfl,hb2⟩
     have own2:=(uH hO).below hb2
     have box2:=(uH hX).all hb2
     have B2:=hB.out.trans (hb2.mono hB.out.size)
     obtain ⟨v3,w3,run3,own3,bel3,_,_⟩:=own2.push o (uH ho) (uH hlen) (by have:=box2.lt;omega) 22
     have RUN:=hide run3
     have O3:=hide (show OwnB (w.heap.size+1) w3 v3 (fsL F (j * c+(k+1))) from by
      rw [← Nat.add_assoc,fsL_succ,uH eo];exact own3)
     have X3:=hide (box2.below bel3 (by omega))
     have B3:=hide (B2.trans (bel3.mono (by omega)))
     clear hb2 C hO hX hB own2 box2 B2 run3 own3 bel3 ho eo hlen
     go_wp2_with (at_builtin;refine wpList_append_ran _ rfl _ _ 22 rfl _ _ _ _ rfl rfl (uH RUN) ?_;clear RUN)
     go_round
     case rel=>exact ⟨k+1,by omega,by go_num,O3,X3,B3⟩
     case measure=>simp [intOf];omega
    ·have hkk:k = c:=by omega
     subst hkk
     have hO':=hide (show OwnB (w.heap.size+1) _ _ (fsL F ((j+1) * k)) from by rw [Nat.add_mul,Nat.one_mul];exact uH hO)
     clear hO
     go_wp2_with fail
     go_round
     case rel=>exact ⟨j+1,by omega,by go_num,hO',hX,hB⟩
     case measure=>simp [intOf];omega
  ·have hjj:j = r:=by omega
   subst hjj
   rw [uH HRC] at hO
   obtain ⟨b1,d1,e1,q1⟩:=(uH hO).bits
   have QO:=hide (((uH hO).putM (uH hX) (Nat.lt_succ_self _) (.int .i64 j) (.int .i64 c) u7).least (Nat.le_succ _))
   rw [fsL_len] at e1
   rw [e1] at QO
   subst e1
   have s0:=(uH hX).c0;have s1:=(uH hX).c1;have s2:=(uH hX).c2
   have f0:=(uH hX).free 0;have f1:=(uH hX).free 1;have f2:=(uH hX).free 2
   have XP:=(uH hX).put (.int .i64 j) (.int .i64 c) (.slice b1 n d1)
   have z0:=XP.c0;have z1:=XP.c1;have z2:=XP.c2
   have BP:=hide (below_putM (uH hB) (Nat.le_refl _) (.int .i64 j) (.int .i64 c) (.slice b1 n d1))
   clear q1 hO hX hB XP
   go_wp2
   exact bodyPost_ret (v:=.agg #[.int .i64 j,.int .i64 c,.slice b1 n d1]) (by simp [results,Tryz.results131,go_sem,z0,z1,z2]) rfl ⟨b1,d1,rfl,uH QO,uH BP⟩
theorem mzeros_own (r c:Nat) (w:World) (hr:r≤6) (hc:c≤6) :
  Calls Tryz.prog 201 #[.int .i64 r,.int .i64 c] w fun e w'=>∃ ao cap,e = .returned (.tuple #[.agg #[.int .i64 r,.int .i64 c,.slice ao (r * c) cap],.int .i64 0])∧OwnB w.heap.size w' (.slice ao (r * c) cap) (mkM r c (fun _ _=>0))∧Below w.heap.size w w':=by
 have K:=hide (fun w'=>inRange_any r c w')
 rw [show rgB (r:Int) (c:Int) = true from decide_eq_true (by omega)] at K
 have s0:=size_alloc9 w (.cells #[.int .i64 0,.int .i64 0,.slice none 0 0] 24)
 have KT:=hide ((build_own 231 #[] r c (fun _ _=>0) (w.alloc (.cells #[.int .i64 0,.int .i64 0,.slice none 0 0] 24)) cfZeros1 hr hc (fun _ _ _ _=>by decide) (fun w' i k _ _ _=>zeros1_any i k w')).mono (R':=fun e w''=>∃ ao cap,e = .returned (.agg #[.int .i64 r,.int .i64 c,.slice ao (r * c) cap])∧OwnB (w.heap.size+1) w'' (.slice ao (r * c) cap) (mkM r c (fun _ _=>0))∧Below w.heap.size w w''∧BoxM w'' w.heap.size (.int .i64 0) (.int .i64 0) (.slice none 0 0)) (by
  rintro e w'' ⟨ao,cap,rfl,h1,h2⟩
  have b:=below_alloc9 w (.cells #[.int .i64 0,.int .i64 0,.slice none 0 0] 24)
  rw [s0] at h1
  exact ⟨ao,cap,rfl,h1,b.trans (h2.mono b.size),(BoxM.new w (.int .i64 0) (.int .i64 0) (.slice none 0 0)).all h2⟩))
 generalize r * c = n at *
 clear s0
 go_enter Tryz.func201,Tryz.ntmps201
 go_wp2_with fail
 refine (uH K _).mono ?_
 rintro e w1 ⟨rfl,rfl⟩
 clear K
 go_wp2_with fail
 refine Calls.mono (uH KT) ?_
 clear KT
 rintro e w2 ⟨ro,rd,rfl,ho,hb2,hX⟩
 have f0:=hX.free 0;have f1:=hX.free 1;have f2:=hX.free 2
 have XP:=hX.put (.int .i64 r) (.int .i64 c) (.slice ro n rd)
 have z0:=XP.c0;have z1:=XP.c1;have z2:=XP.c2
 have s0:=hX.c0;have s1:=hX.c1;have s2:=hX.c2
 have Q:=hide ((ho.putM hX (Nat.lt_succ_self _) (.int .i64 r) (.int .i64 c) (.slice ro n rd)).least (Nat.le_succ _))
 have BP:=hide (below_putM hb2 (b:=w.heap.size) (by omega) (.int .i64 r) (.int .i64 c) (.slice ro n rd))
 clear XP ho hb2 hX
 go_wp2
 exact bodyPost_ret (v:=.tuple #[.agg #[.int .i64 r,.int .i64 c,.slice ro n rd],.int .i64 0]) (by simp [results,Tryz.results201,go_sem,z0,z1,z2]) rfl ⟨_,_,rfl,uH Q,uH BP⟩
theorem cfLast (args:Array Value) (w:World):(callFunc 105 args).run Tryz.prog w = .ok (.enter 105 args) w:=by
 simp only [callFunc,go_sem]
 rfl
theorem cfFirst (args:Array Value) (w:World):(callFunc 178 args).run Tryz.prog w = .ok (.enter 178 args) w:=by
 simp only [callFunc,go_sem]
 rfl
theorem cfUp1 (args:Array Value) (w:World):(callFunc 106 args).run Tryz.prog w = .ok (.enter 106 args) w:=by
 simp only [callFunc,go_sem]
 rfl
theorem cfLo1 (args:Array Value) (w:World):(callFunc 179 args).run Tryz.prog w = .ok (.enter 179 args) w:=by
 simp only [callFunc,go_sem]
 rfl
theorem fromLast_any (n m:Nat) (w:World) (hn:n≤6) (hm:m < n) :
  Calls Tryz.prog 105 #[.int .i64 n,.int .i64 m] w fun e w'=>e = .returned (.int .i64 ((n - 1 - m:Nat):Int))∧Below w.heap.size w w':=by
 obtain ⟨p,hp⟩:∃ p,n - 1 - m = p:=⟨_,rfl⟩
 have e1:IntKind.i64.wrap ((n:Int) - 1) = (n:Int) - 1:=wrap_in _ (by omega)
 have e2:IntKind.i64.wrap ((n:Int) - 1 - (m:Int)) = (p:Int):=(wrap_in _ (by omega)).trans (by omega)
 rw [hp]
 go_enter Tryz.func105,Tryz.ntmps105
 go_wp2
 go_ret
 exact ⟨rfl,Below.refl _ _⟩
theorem fromFirst_any (n m:Nat) (w:World) :
  Calls Tryz.prog 178 #[.int .i64 n,.int .i64 m] w fun e w'=>e = .returned (.int .i64 m)∧Below w.heap.size w w':=by
 go_enter Tryz.func178,Tryz.ntmps178
 go_wp2
 go_ret
 exact ⟨rfl,Below.refl _ _⟩
theorem up1_any (i k:Nat) (w:World) :
  Calls Tryz.prog 106 #[.int .i64 i,.int .i64 k] w fun e w'=>e = .returned (.bool (dnU i k))∧Below w.heap.size w w':=by
 go_enter Tryz.func106,Tryz.ntmps106
 go_wp2
 go_ret
 exact ⟨rfl,Below.refl _ _⟩
theorem lo1_any (i k:Nat) (w:World) :
  Calls Tryz.prog 179 #[.int .i64 i,.int .i64 k] w fun e w'=>e = .returned (.bool (dnL i k))∧Below w.heap.size w w':=by
 go_enter Tryz.func179,Tryz.ntmps179
 go_wp2
 go_ret
 exact ⟨rfl,Below.refl _ _⟩
end Go.Proofs.YtcbcmlaogehimaaGreatDoor
namespace Go.Proofs.YtcbcmlaogehimaaGreatDoor
open Go.RowKit
attribute [local go_sem ↓] Go.wp_at_zero Go.wp_at_succ
theorem own_off17 {base:Nat} {w:World} {v:Value} {S:List Nat} (h:OwnB base w v S) {b:Nat} {x y z:Value} (hx:BoxM w b x y z):v.ownBlock ≠ some b:=by
 rcases h.1.2 with ⟨e,_⟩ | ⟨g,cap,cur,hv,hg,hh,_⟩
 ·rw [e];intro q;cases q
 ·rw [hv]
  intro q
  have e:g = b:=by
   have q':some g = some b:=q
   simpa using q'
  subst e
  unfold BoxM at hx
  rw [hh] at hx
  simp at hx
theorem plc17 (i c k n:Nat) (hi:i < n) (hn:n≤6) (hc:c≤6) (hk:k < c):∃ q p:Nat,i * c = q∧q+k = p∧p < n * c∧IntKind.i64.wrap ((i:Int) * (c:Int)) = (q:Int)∧IntKind.i64.wrap ((q:Int)+(k:Int)) = (p:Int)∧(i:Int) * (c:Int) = (q:Int)∧(q:Int)+(k:Int) = (p:Int)∧IntKind.i64.wrap (q:Int) = (q:Int)∧IntKind.i64.wrap (p:Int) = (p:Int):=by
 have hp:=place_lt hi hk
 have h36:n * c≤36:=Nat.mul_le_mul hn hc
 refine ⟨i * c,i * c+k,rfl,rfl,hp,?_,?_,cast_mul10 i c,by omega,wrap_in _ (by omega),wrap_in _ (by omega)⟩
 ·rw [cast_mul10 i c];exact wrap_in _ (by omega)
 ·exact (wrap_in _ (by omega)).trans (by omega)
structure TzSt (w wr:World) (h n q tn tc bn bc L xc:Nat) (tq bo xo:Option Addr) (X:List Nat):Prop where
 bel:Below w.heap.size w wr
 hh:w.heap.size+3≤h
 t:BoxM wr w.heap.size (.int .i64 n) (.int .i64 n) (.slice tq tn tc)
 b:BoxM wr (w.heap.size+1) (.int .i64 n) (.int .i64 q) (.slice bo bn bc)
 res:BoxM wr (w.heap.size+1+1) (.int .i64 0) (.int .i64 0) (.slice none 0 0)
 x:BoxM wr h (.int .i64 n) (.int .i64 q) (.slice xo L xc)
 own:OwnB (w.heap.size+1+1+1) wr (.slice xo L xc) X
 len:X.length = L
theorem TzSt.all {w wr w':World} {h n q tn tc bn bc L xc:Nat} {tq bo xo:Option Addr} {X:List Nat} (s:TzSt w wr h n q tn tc bn bc L xc tq bo xo X) (hb:Below wr.heap.size wr w'):TzSt w w' h n q tn tc bn bc L xc tq bo xo X :=
 ⟨s.bel.trans (hb.mono s.bel.size),s.hh,s.t.all hb,s.b.all hb,s.res.all hb,s.x.all hb,s.own.below hb,s.len⟩
theorem TzSt.at {w wr:World} {h n q tn tc bn bc L xc:Nat} {tq bo xo:Option Addr} {X:List Nat} (s:TzSt w wr h n q tn tc bn bc L xc tq bo xo X) {p:Nat} (hp:p < L) :
  ∃ g,xo = some ⟨g,0,none⟩∧wr.cell? ⟨g,p,none⟩ = some (.int .u64 (X.getD p 0:Nat))∧wr.frozen? ⟨g,p,none⟩ = false ∧
   ∀ x,x < 18446744073709551616→TzSt w (wr.setCell ⟨g,p,none⟩ (.int .u64 (x:Nat))) h n q tn tc bn bc L xc tq bo xo (X.set p x):=by
 obtain ⟨g,e,hg,hlt,hc,hf,hs⟩:=s.own.at (j:=p) (by rw [s.len];exact hp)
 refine ⟨g,e,hc,hf,fun x hx=>?_⟩
 have hne:g ≠ h:=by
  have:=own_off17 s.own s.x
  rw [e] at this
  intro e2
  exact this (by rw [e2];rfl)
 have hh:=s.hh
 refine ⟨s.bel.setCell (p:=⟨g,p,none⟩) (by show w.heap.size≤g;omega) _,hh,s.t.other (p:=⟨g,p,none⟩) (by show w.heap.size ≠ g;omega) _,s.b.other (p:=⟨g,p,none⟩) (by show w.heap.size+1 ≠ g;omega) _,s.res.other (p:=⟨g,p,none⟩) (by show w.heap.size+1+1 ≠ g;omega) _,s.x.other (p:=⟨g,p,none⟩) (by exact fun e=>hne e.symm) _,hs x hx,by rw [List.length_set];exact s.len⟩
theorem boxes3_17 (w:World) (x y z x' y' z' x2 y2 z2:Value) (w1:World) (h:Below (w.heap.size+1+1+1) (((w.alloc (.cells #[x,y,z] 24)).alloc (.cells #[x',y',z'] 24)).alloc (.cells #[x2,y2,z2] 24)) w1) :
  Below w.heap.size w w1∧BoxM w1 w.heap.size x y z∧BoxM w1 (w.heap.size+1) x' y' z'∧BoxM w1 (w.heap.size+1+1) x2 y2 z2:=by
 have b0:=below_alloc9 w (.cells #[x,y,z] 24)
 have s0:=size_alloc9 w (.cells #[x,y,z] 24)
 have x0:=BoxM.new w x y z
 generalize w.alloc (.cells #[x,y,z] 24) = wa at *
 have b1:=below_alloc9 wa (.cells #[x',y',z'] 24)
 have s1:=size_alloc9 wa (.cells #[x',y',z'] 24)
 have x1:=BoxM.new wa x' y' z'
 have x01:=x0.all b1
 generalize wa.alloc (.cells #[x',y',z'] 24) = wb at *
 have b2:=below_alloc9 wb (.cells #[x2,y2,z2] 24)
 have s2:=size_alloc9 wb (.cells #[x2,y2,z2] 24)
 have xc2:=BoxM.new wb x2 y2 z2
 have x11:=x1.all b2
 have x02:=x01.all b2
 generalize wb.alloc (.cells #[x2,y2,z2] 24) = wc at *
 rw [s0] at s1 x11
 rw [s1] at s2 xc2
 rw [← s2] at h
 have b3:=b0.trans (b1.mono b0.size)
 have b4:=b3.trans (b2.mono b3.size)
 exact ⟨b4.trans (h.mono b4.size),x02.all h,x11.all h,xc2.all h⟩
theorem TzSt.out {w wr:World} {h n q tn tc bn bc L xc:Nat} {tq bo xo:Option Addr} {X:List Nat} (s:TzSt w wr h n q tn tc bn bc L xc tq bo xo X) :
  NewB w.heap.size xo (mxL X)∧BitsAt (((wr.setCell ⟨w.heap.size+1+1,0,none⟩ (.int .i64 n)).setCell ⟨w.heap.size+1+1,1,none⟩ (.int .i64 q)).setCell ⟨w.heap.size+1+1,2,none⟩ (.slice xo L xc)) xo xc (mxL X)∧Below w.heap.size w (((wr.setCell ⟨w.heap.size+1+1,0,none⟩ (.int .i64 n)).setCell ⟨w.heap.size+1+1,1,none⟩ (.int .i64 q)).setCell ⟨w.heap.size+1+1,2,none⟩ (.slice xo L xc)):=by
 obtain ⟨ao,cap,e,hb⟩:=s.own.bits
 simp only [Value.slice.injEq] at e
 obtain ⟨rfl,_,rfl⟩:=e
 have hb2:BitsAt wr xo xc (mxL X):=hb
 have hx:=s.own.newB
 exact ⟨hx.least (by omega),hb2.putM s.res _ _ _,below_putM s.bel (by omega) _ _ _⟩
theorem through_of (n q tc bc tn bn L fo fd:Nat) (tq bo:Option Addr) (T B:List Nat) (o:Nat→Nat) (dn:Nat→Nat→Bool) (w:World) (hT:Mx w tq tc n n T) (hB:Mx w bo bc n q B) (ltn:T.length = tn) (lbn:B.length = bn) (hL:n * q = L) (hO:Ordr n o)
  (hfo:∀ args w,(callFunc fo args).run Tryz.prog w = .ok (.enter fo args) w) (hfd:∀ args w,(callFunc fd args).run Tryz.prog w = .ok (.enter fd args) w)
  (CO:∀ w' m,m < n→Calls Tryz.prog fo #[.int .i64 n,.int .i64 (m:Nat)] w' fun e w''=>e = .returned (.int .i64 (o m:Nat))∧Below w'.heap.size w' w'')
  (CD:∀ w' i k,i < n→k < n→Calls Tryz.prog fd #[.int .i64 (i:Nat),.int .i64 (k:Nat)] w' fun e w''=>e = .returned (.bool (dn i k))∧Below w'.heap.size w' w'') (hTab:Tab w) :
  Calls Tryz.prog 165 #[.agg #[.int .i64 n,.int .i64 n,.slice tq tn tc],.agg #[.int .i64 n,.int .i64 q,.slice bo bn bc],.func (.func fo) #[.int .i64 n] #[],.func (.func fd) #[] #[]] w fun e w' =>
   ∃ S xo xc,e = .returned (.tuple #[.agg #[.int .i64 n,.int .i64 q,.slice xo L xc],.bool (finL (trM n q (elM n T) (elM q B) o dn))])∧(finL (trM n q (elM n T) (elM q B) o dn) = true→S = trM n q (elM n T) (elM q B) o dn)∧S.length = L∧NewB w.heap.size xo (mxL S)∧BitsAt w' xo xc (mxL S)∧Below w.heap.size w w':=by
 have n6:=hT.2.2.1
 have q6:=hB.2.2.2
 have KB:=hide (boxes3_17 w (.int .i64 n) (.int .i64 n) (.slice tq tn tc) (.int .i64 n) (.int .i64 q) (.slice bo bn bc) (.int .i64 0) (.int .i64 0) (.slice none 0 0))
 have K0:=hide (mzeros_own n q (((w.alloc (.cells #[.int .i64 n,.int .i64 n,.slice tq tn tc] 24)).alloc (.cells #[.int .i64 n,.int .i64 q,.slice bo bn bc] 24)).alloc (.cells #[.int .i64 0,.int .i64 0,.slice none 0 0] 24)) n6 q6)
 simp only [size_alloc9] at K0
 rw [hL] at K0
 obtain ⟨_,y0t,y0b,_⟩:=uH KB _ (by have:=Below.refl (((w.alloc (.cells #[.int .i64 n,.int .i64 n,.slice tq tn tc] 24)).alloc (.cells #[.int .i64 n,.int .i64 q,.slice bo bn bc] 24)).alloc (.cells #[.int .i64 0,.int .i64 0,.slice none 0 0] 24)).heap.size (((w.alloc (.cells #[.int .i64 n,.int .i64 n,.slice tq tn tc] 24)).alloc (.cells #[.int .i64 n,.int .i64 q,.slice bo bn bc] 24)).alloc (.cells #[.int .i64 0,.int .i64 0,.slice none 0 0] 24));simpa only [size_alloc9] using this)
 have y0:=y0b.c0;have y1:=y0b.c1
 have HT:=hide hT;have HBB:=hide hB;have HL:=hide hL;have HO:=hide hO;have KO:=hide CO;have KD:=hide CD;have HTAB:=hide hTab;have LT:=hide ltn;have LB:=hide lbn
 obtain ⟨XJ,hXJ⟩:∃ XJ:Nat→Nat→List Nat,trJ n q (elM n T) (elM q B) o dn = XJ:=⟨_,rfl⟩
 obtain ⟨NN,hNN⟩:∃ NN:Nat→Nat→Nat,(fun c m=>trN n (elM n T) (fun p=>elM q B p c) o dn m) = NN:=⟨_,rfl⟩
 obtain ⟨XX,hXX⟩:∃ XX:Nat→Nat→Nat→Nat,(fun c m k=>trX n (elM n T) (fun p=>elM q B p c) o dn m k) = XX:=⟨_,rfl⟩
 obtain ⟨SG,hSG⟩:∃ SG:Nat→Nat→Nat→Nat,(fun c m k=>trS (elM n T) (trX n (elM n T) (fun p=>elM q B p c) o dn m) dn (o m) (elM q B (o m) c) k) = SG:=⟨_,rfl⟩
 obtain ⟨fin,hfin⟩:∃ fin,finL (trM n q (elM n T) (elM q B) o dn) = fin:=⟨_,rfl⟩
 have FF:Hid (fin = true ↔ ∀ c m,c < q→m < n→fFin (NN c m) = true):=hide (by rw [← hfin,← hNN];exact trM_fin hO)
 have EM:=hide (show XJ q 0 = trM n q (elM n T) (elM q B) o dn from by rw [← hXJ];exact trJ_end _ _ _ _ _ _)
 have E0:=hide (show mkM n q (fun _ _=>0) = XJ 0 0 from by rw [← hXJ];exact trJ_start _ _ _ _ _ _)
 have EC:=hide (show ∀ c,XJ c n = XJ (c+1) 0 from fun c=>by rw [← hXJ];exact trJ_col _ _ _ _ _ _ c)
 have ES:=hide (show ∀ c m,m < n→c < q→(XJ c m).set (o m * q+c) (NN c m) = XJ c (m+1) from fun c m hm hc=>by rw [← hXJ,← hNN];exact trJ_set _ _ _ hO hm hc)
 have EL:=hide (show ∀ c m,(XJ c m).length = L from fun c m=>by rw [← hXJ,trJ_len,hL])
 have EA:=hide (show ∀ c m k,k < n→c < q→(XJ c m).getD (k * q+c) 0 = XX c m k from fun c m k hk hc=>by rw [← hXJ,← hXX];exact trJ_at _ _ _ _ hk hc)
 have S0:=hide (show ∀ c m,SG c m 0 = elM q B (o m) c from fun c m=>by rw [← hSG];rfl)
 have SY:=hide (show ∀ c m k,dn (o m) k = true→SG c m (k+1) = aV (SG c m k) (fN (mV (elM n T (o m) k) (XX c m k))) from fun c m k hd=>by rw [← hSG,← hXX];exact if_pos hd)
 have SN:=hide (show ∀ c m k,dn (o m) k = false→SG c m (k+1) = SG c m k from fun c m k hd=>by rw [← hSG];exact if_neg (by rw [hd];decide))
 have SE:=hide (show ∀ c m,NN c m = dV (SG c m n) (elM n T (o m) (o m)) from fun c m=>by rw [← hSG,← hNN];rfl)
 have SL:=hide (show ∀ c m k,SG c m k < 18446744073709551616 from fun c m k=>by rw [← hSG];exact trS_lt _ _ _ _ _ (hB.el_lt _ _) k)
 have XL:=hide (show ∀ c m k,XX c m k < 18446744073709551616 from fun c m k=>by rw [← hXX];exact trX_lt _ _ _ _ _ m k)
 have NL:=hide (show ∀ c m,NN c m < 18446744073709551616 from fun c m=>by rw [← hNN];exact dV_lt _ _)
 have TL:=hide (show ∀ i k,elM n T i k < 18446744073709551616 from fun i k=>hT.el_lt i k)
 rw [hfin]
 generalize hTRM:trM n q (elM n T) (elM q B) o dn = TRM at *
 clear hT hB ltn lbn hL hO CO CD hTab hXJ hfin hNN hXX hSG y0t y0b
 go_enter Tryz.func165,Tryz.ntmps165
 go_wp2_with fail
 go_step3
 go_wp2_with fail
 refine (uH K0).mono ?_
 rintro e w1 ⟨xo,xc,rfl,own,hb⟩
 obtain ⟨bw,bt,bb,br⟩:=uH KB w1 hb
 have ba:=below_alloc9 w1 (.cells #[.int .i64 n,.int .i64 q,.slice xo L xc] 24)
 have ST:Hid (TzSt w (w1.alloc (.cells #[.int .i64 n,.int .i64 q,.slice xo L xc] 24)) w1.heap.size n q tn tc bn bc L xc tq bo xo (XJ 0 0)):=hide ⟨bw.trans (ba.mono bw.size),by have:=hb.size;simp only [size_alloc9] at this;omega,bt.all ba,bb.all ba,br.all ba,BoxM.new w1 _ _ _,by rw [← uH E0];exact own.below ba,uH EL 0 0⟩
 clear y0 y1 K0 KB own hb bw bt bb br ba E0
 have y1:=(uH ST).b.c1
 go_wp2_with fail
 go_step3
 go_wp2_with fail
 clear y1
 generalize w1.heap.size = h at *
 go_loopg [12,29] q (fun g fv a wr=>∃ c:Nat,c+g = q∧fv = .bool true∧a = .int .i64 c∧Hid (∀ c' m,c' < c→m < n→fFin (NN c' m) = true)∧Hid (TzSt w wr h n q tn tc bn bc L xc tq bo xo (XJ c 0)))
 case atStart=>exact ⟨0,by omega,rfl,rfl,fun c' m hc=>absurd hc (Nat.not_lt_zero _),ST⟩
 case round =>
  clear ST
  obtain ⟨c,hcg,rfl,rfl,hF,hS⟩:=hrel
  cases gk with
  | zero =>
   have hlt:¬ ((c:Int) < (q:Int)):=by omega
   have hyes:Hid (fin = true):=hide ((uH FF).2 (fun c' m h1 h2=>uH hF c' m (by omega) h2))
   have hend:Hid (XJ c 0 = TRM):=hide (by rw [show c = q by omega];exact uH EM)
   have S3:=uH hS
   have s0:=S3.res.c0;have s1:=S3.res.c1;have s2:=S3.res.c2
   have f0:=S3.res.free 0;have f1:=S3.res.free 1;have f2:=S3.res.free 2
   have q0:=S3.x.c0;have q1:=S3.x.c1;have q2:=S3.x.c2
   have XP:=S3.res.put (.int .i64 n) (.int .i64 q) (.slice xo L xc)
   have z0:=XP.c0;have z1:=XP.c1;have z2:=XP.c2
   have OUT:=hide S3.out
   have LEN:=hide S3.len
   clear XP S3
   go_wp2_with fail
   try rw [Exit.noGoto_ret]
   exact bodyPost_ret (v:=.tuple #[.agg #[.int .i64 n,.int .i64 q,.slice xo L xc],.bool true]) (by simp [results,Tryz.results165,go_sem,z0,z1,z2]) rfl ⟨XJ c 0,xo,xc,by rw [uH hyes],fun _=>uH hend,uH LEN,(uH OUT).1,(uH OUT).2.1,(uH OUT).2.2⟩
  | succ g =>
   have hcq:(c:Int) < (q:Int):=by omega
   have HCQ:=hide (show c < q by omega)
   have y0:=(uH hS).t.c0
   go_wp2_with fail
   clear y0
   go_loopg [12,34] n (fun g2 fv a wr=>∃ m:Nat,m+g2 = n∧fv = .bool true∧a = .int .i64 m∧Hid (∀ m',m' < m→fFin (NN c m') = true)∧Hid (TzSt w wr h n q tn tc bn bc L xc tq bo xo (XJ c m)))
   case atStart=>exact ⟨0,by omega,rfl,rfl,fun m' hm=>absurd hm (Nat.not_lt_zero _),hS⟩
   case round =>
    clear hS
    obtain ⟨m,hmg,rfl,rfl,hG,hS⟩:=hrel
    cases gk with
    | zero =>
     have hmn:¬ ((m:Int) < (n:Int)):=by omega
     go_wp2_with fail
     go_roundg g
     case measure=>omega
     case rel =>
      have hend:Hid (XJ c m = XJ (c+1) 0):=hide (by rw [← uH EC c,show m = n by omega])
      refine ⟨c+1,by omega,rfl,by go_num,?_,by rw [← uH hend];exact hS⟩
      show ∀ c' m',c' < c+1→m' < n→_
      intro c' m' h1 h2
      by_cases e:c' = c
      ·subst e;exact uH hG m' (by omega)
      ·exact uH hF c' m' (by omega) h2
    | succ g2 =>
     have hmn:(m:Int) < (n:Int):=by omega
     have HMN:=hide (show m < n by omega)
     obtain ⟨i,hi⟩:∃ i,o m = i:=⟨_,rfl⟩
     have HIN:=hide (show i < n by rw [← hi];exact (uH HO).lt m (uH HMN))
     have KO1:=hide (fun w'=>uH KO w' m (uH HMN))
     rw [hi] at KO1
     have HI:=hide hi
     clear hi
     obtain ⟨tb,to5,rfl,htl,_,_⟩:=(uH HT).cells (uH HIN) (uH HIN)
     obtain ⟨bb,bo5,rfl,hbl,cb,hbp⟩:=(uH HBB).cells (uH HIN) (uH HCQ)
     obtain ⟨p0,p,hp0,hp,hpl,e1,e2,e3,e4,e5,e6⟩:=plc17 i q c n (uH HIN) n6 q6 (uH HCQ)
     have hp':i * q+c = p:=by rw [hp0];exact hp
     rw [hp'] at cb hbp
     rw [uH LB] at hbp
     have hpI:(p:Int) < (bn:Int):=by omega
     have B0:=hide (uH S0 c m)
     rw [uH HI] at B0
     rw [← uH B0] at cb
     have CB:=hide cb
     have HPP:=hide hp'
     clear hp0 hp hpl hp' hbp cb htl hbl B0
     have SY1:=hide (show ∀ k,dn i k = true→SG c m (k+1) = aV (SG c m k) (fN (mV (elM n T i k) (XX c m k))) from fun k hd=>by have:=uH SY c m k (by rw [uH HI];exact hd);rwa [uH HI] at this)
     have SN1:=hide (show ∀ k,dn i k = false→SG c m (k+1) = SG c m k from fun k hd=>uH SN c m k (by rw [uH HI];exact hd))
     have SE1:=hide (uH SE c m)
     have ES1:=hide (uH ES c m (uH HMN) (uH HCQ))
     rw [uH HI] at SE1 ES1
     have EA1:=hide (fun k hk=>uH EA c m k hk (uH HCQ))
     have SL1:=hide (uH SL c m);have XL1:=hide (uH XL c m);have NL1:=hide (uH NL c m)
     have KD1:=hide (fun w' k (hk:k < n)=>uH KD w' i k (uH HIN) hk)
     generalize SG c m = SS at *
     generalize XX c m = XK at *
     have y1:=(uH hS).b.c1
     go_wp2_with fail
     clear y1
     refine (uH KO1 _).mono ?_
     rintro e w2 ⟨rfl,hb⟩
     replace hS:=hide ((uH hS).all hb)
     clear hb KO1
     have cb:=cell_keep (uH CB) (uH hS).bel
     have y0:=(uH hS).t.c0;have y1:=(uH hS).b.c1;have y2:=(uH hS).b.c2
     go_wp2_with fail
     clear cb y0 y1 y2 hpI e1 e2 e3 e4 e5 e6
     go_loopg [16,52] n (fun g3 sv a wr=>∃ k:Nat,k+g3 = n∧sv = .int .u64 (SS k:Nat)∧a = .int .i64 k∧Hid (TzSt w wr h n q tn tc bn bc L xc (some ⟨tb,to5,none⟩) (some ⟨bb,bo5,none⟩) xo (XJ c m)))
     case atStart=>exact ⟨0,by omega,rfl,rfl,hS⟩
     case round =>
      clear hS
      obtain ⟨k,hkg,rfl,rfl,hS⟩:=hrel
      cases gk with
      | zero =>
       have hkI:¬ ((k:Int) < (n:Int)):=by omega
       have HKN:=hide (show k = n by omega)
       obtain ⟨_,_,hteq,_,ct,htp⟩:=((uH HT).below (uH hS).bel).cells (uH HIN) (uH HIN)
       simp only [Option.some.injEq,Addr.mk.injEq] at hteq
       obtain ⟨rfl,rfl,_⟩:=hteq
       obtain ⟨t0,pt,ht0,hpt,_,e1,e2,e3,e4,e5,e6⟩:=plc17 i n i n (uH HIN) n6 n6 (uH HIN)
       obtain ⟨x0,px,hx0,hpx,hpxl,d1,d2,d3,d4,d5,d6⟩:=plc17 i q c n (uH HIN) n6 q6 (uH HCQ)
       rw [show i * n+i = pt by rw [ht0];exact hpt] at ct htp
       rw [uH LT] at htp
       have htI:(pt:Int) < (tn:Int):=by omega
       have hxI:(px:Int) < (L:Int):=by have:=uH HL;omega
       have HPX:=hide (show px < L by have:=uH HL;omega)
       have EPX:=hide (show i * q+c = px by rw [hx0];exact hpx)
       have KV:=hide (fun w' (hb:Below w.heap.size w w')=>pdiv_any (SS n) (elM n T i i) w' (uH SL1 n) (uH TL i i) ((uH HTAB).all hb))
       rw [← uH SE1] at KV
       have NV:=hide (uH NL1)
       have KF:=hide (fun w'=>sfinite_any (NN c m) w' (uH NL1))
       rw [uH EPX] at ES1
       have HSN:=hide (show SS k = SS n by rw [uH HKN])
       rw [uH HSN]
       generalize elM n T i i = tv at *
       generalize hnv:NN c m = nv at *
       have HNV:=hide hnv
       generalize SS n = sv at *
       clear ht0 hpt hx0 hpx hpxl htp hnv
       have y1:=(uH hS).t.c1;have y2:=(uH hS).t.c2
       go_wp2_with fail
       clear y1 y2 ct htI
       refine (uH KV _ (uH hS).bel).mono ?_
       rintro e w3 ⟨rfl,hb⟩
       replace hS:=hide ((uH hS).all hb)
       clear hb KV
       obtain ⟨gx,rfl,cx,fx,put⟩:=(uH hS).at (uH HPX)
       have S5:=hide (put nv (uH NV))
       have OLD:=hide (show True from trivial)
       generalize (XJ c m).getD px 0 = old at *
       rw [uH ES1] at S5
       have y1:=(uH hS).b.c1;have y2:=(uH hS).x.c2
       clear put OLD
       go_wp2_with fail
       clear y1 y2 cx fx hS e1 e2 e3 e4 e5 e6 d1 d2 d3 d4 d5 d6 hxI
       refine (uH KF _).mono ?_
       rintro e w4 ⟨rfl,hb⟩
       have S6:=hide ((uH S5).all hb)
       clear hb S5 KF
       cases hfx:fFin nv with
       | true =>
        go_wp2_with fail
        go_roundg g2
        case measure=>omega
        case rel =>
         refine ⟨m+1,by omega,rfl,by go_num,?_,S6⟩
         show ∀ m',m' < m+1→_
         intro m' h1
         by_cases e:m' = m
         ·subst e;rw [uH HNV];exact hfx
         ·exact uH hG m' (by omega)
       | false =>
        have hno:Hid (fin = false):=hide (by
         cases hk:fin with
         | false=>rfl
         | true =>
          have:=(uH FF).1 hk c m (uH HCQ) (uH HMN)
          rw [uH HNV,hfx] at this
          cases this)
        have S3:=uH S6
        have s0:=S3.res.c0;have s1:=S3.res.c1;have s2:=S3.res.c2
        have f0:=S3.res.free 0;have f1:=S3.res.free 1;have f2:=S3.res.free 2
        have q0:=S3.x.c0;have q1:=S3.x.c1;have q2:=S3.x.c2
        have XP:=S3.res.put (.int .i64 n) (.int .i64 q) (.slice (some ⟨gx,0,none⟩) L xc)
        have z0:=XP.c0;have z1:=XP.c1;have z2:=XP.c2
        have OUT:=hide S3.out
        have LEN:=hide S3.len
        clear XP S3
        go_wp2_with fail
        try rw [Exit.noGoto_ret]
        exact bodyPost_ret (v:=.tuple #[.agg #[.int .i64 n,.int .i64 q,.slice (some ⟨gx,0,none⟩) L xc],.bool false]) (by simp [results,Tryz.results165,go_sem,z0,z1,z2]) rfl ⟨XJ c (m+1),some ⟨gx,0,none⟩,xc,by rw [uH hno],(fun e=>by rw [uH hno] at e;cases e),uH LEN,(uH OUT).1,(uH OUT).2.1,(uH OUT).2.2⟩
      | succ g3 =>
       have hkI:(k:Int) < (n:Int):=by omega
       have HKN:=hide (show k < n by omega)
       have KD2:=hide (fun w'=>uH KD1 w' k (uH HKN))
       cases hd:dn i k with
       | false =>
        rw [hd] at KD2
        have E1:=hide (uH SN1 k hd)
        clear hd
        go_wp2_with fail
        refine (uH KD2 _).mono ?_
        rintro e w3 ⟨rfl,hb⟩
        replace hS:=hide ((uH hS).all hb)
        clear hb KD2
        go_wp2_with fail
        go_roundg g3
        case measure=>omega
        case rel=>exact ⟨k+1,by omega,by rw [uH E1],by go_num,hS⟩
       | true =>
        rw [hd] at KD2
        have E1:=hide (uH SY1 k hd)
        clear hd
        go_wp2_with fail
        refine (uH KD2 _).mono ?_
        rintro e w3 ⟨rfl,hb⟩
        replace hS:=hide ((uH hS).all hb)
        clear hb KD2
        obtain ⟨_,_,hteq,_,ct,htp⟩:=((uH HT).below (uH hS).bel).cells (uH HIN) (uH HKN)
        simp only [Option.some.injEq,Addr.mk.injEq] at hteq
        obtain ⟨rfl,rfl,_⟩:=hteq
        obtain ⟨t0,pt,ht0,hpt,_,e1,e2,e3,e4,e5,e6⟩:=plc17 i n k n (uH HIN) n6 n6 (uH HKN)
        obtain ⟨x0,px,hx0,hpx,hpxl,d1,d2,d3,d4,d5,d6⟩:=plc17 k q c n (uH HKN) n6 q6 (uH HCQ)
        rw [show i * n+k = pt by rw [ht0];exact hpt] at ct htp
        rw [uH LT] at htp
        have htI:(pt:Int) < (tn:Int):=by omega
        have hxI:(px:Int) < (L:Int):=by have:=uH HL;omega
        have HPX:=hide (show px < L by have:=uH HL;omega)
        have EX:=hide (uH EA1 k (uH HKN))
        rw [show k * q+c = px by rw [hx0];exact hpx] at EX
        obtain ⟨gx,rfl,cx,_,_⟩:=(uH hS).at (uH HPX)
        rw [uH EX] at cx
        have TB:=hide ((uH HTAB).all (uH hS).bel)
        have K1:=hide (fun w' (hb:Below w3.heap.size w3 w')=>vmul_any (elM n T i k) (XK k) w' (uH TL i k) (uH XL1 k) ((uH TB).all hb))
        have K2:=hide (fun w' (hb:Below w3.heap.size w3 w')=>psub_any (SS k) (mV (elM n T i k) (XK k)) w' (uH SL1 k) (mV_lt _ _) ((uH TB).all hb))
        rw [← uH E1] at K2
        generalize mV (elM n T i k) (XK k) = pv at *
        generalize elM n T i k = tv at *
        generalize XK k = xv at *
        generalize hs2:SS (k+1) = s2 at *
        have HS2:=hide hs2
        clear hs2
        generalize SS k = s1 at *
        have y1:=(uH hS).t.c1;have y2:=(uH hS).t.c2;have y3:=(uH hS).b.c1;have y4:=(uH hS).x.c2
        have HK:=hide (fun w' (h':Below w3.heap.size w3 w')=>(show Below w3.heap.size w3 w'∧w'.cell? ⟨w.heap.size,1,none⟩ = some (.int .i64 (n:Nat))∧w'.cell? ⟨w.heap.size,2,none⟩ = some (.slice (some ⟨tb,to5,none⟩) tn tc)∧w'.cell? ⟨w.heap.size+1,1,none⟩ = some (.int .i64 (q:Nat))∧w'.cell? ⟨h,2,none⟩ = some (.slice (some ⟨gx,0,none⟩) L xc)∧w'.cell? ⟨tb,to5+pt,none⟩ = some (.int .u64 (tv:Nat))∧w'.cell? ⟨gx,px,none⟩ = some (.int .u64 (xv:Nat)) from ⟨h',cell_keep y1 h',cell_keep y2 h',cell_keep y3 h',cell_keep y4 h',cell_keep ct h',cell_keep cx h'⟩))
        clear y1 y2 y3 y4 ct cx ht0 hpt hx0 hpx hpxl htp
        go_wp2_with fail
        go_region_held3 (fun w'=>Below w3.heap.size w3 w'∧w'.cell? ⟨w.heap.size,1,none⟩ = some (.int .i64 (n:Nat))∧w'.cell? ⟨w.heap.size,2,none⟩ = some (.slice (some ⟨tb,to5,none⟩) tn tc)∧w'.cell? ⟨w.heap.size+1,1,none⟩ = some (.int .i64 (q:Nat))∧w'.cell? ⟨h,2,none⟩ = some (.slice (some ⟨gx,0,none⟩) L xc)∧w'.cell? ⟨tb,to5+pt,none⟩ = some (.int .u64 (tv:Nat))∧w'.cell? ⟨gx,px,none⟩ = some (.int .u64 (xv:Nat)))
         (first | exact uH HK _ (Below.refl _ _).drew | exact uH HK _ (by assumption) | fail "KK")
         (first | (go_at_call 203;refine (uH K1 _ (And.left (by assumption))).mono ?_;rintro e w4 ⟨rfl,hb1⟩;have hB1:Below w3.heap.size w3 w4:=Below.trans (And.left (by assumption)) (hb1.mono (Below.size (And.left (by assumption))));clear hb1) | (go_at_call 202;refine (uH K2 _ (And.left (by assumption))).mono ?_;rintro e w4 ⟨rfl,hb1⟩;have hB1:Below w3.heap.size w3 w4:=Below.trans (And.left (by assumption)) (hb1.mono (Below.size (And.left (by assumption))));clear hb1) | fail "NO ARM")
        go_wp2_with fail
        go_roundg g3
        case measure=>omega
        case rel=>exact ⟨k+1,by omega,by rw [uH HS2],by go_num,hide ((uH hS).all (And.left (by assumption)))⟩
end Go.Proofs.YtcbcmlaogehimaaGreatDoor
namespace Go.Proofs.YtcbcmlaogehimaaGreatDoor
open Go.RowKit
attribute [local go_sem ↓] Go.wp_at_zero Go.wp_at_succ
theorem bits_cell {w:World} {po:Option Addr} {pc:Nat} {xs:List Nat} (h:BitsAt w po pc (mxL xs)) {k:Nat} (hk:k < xs.length):∃ b off,po = some ⟨b,off,none⟩∧b < w.heap.size∧w.cell? ⟨b,off+k,none⟩ = some (.int .u64 (xs.getD k 0:Nat)):=by
 obtain ⟨b,off,e1,e2,e3⟩:=h.ne (by rw [mxL_len];omega)
 refine ⟨b,off,e1,e2,?_⟩
 rw [e3 k (by rw [mxL_len];exact hk),mxL_at]
theorem indexF_any (fn:Nat) (caps:Array Value) (po:Option Addr) (pc n:Nat) (xs:List Nat) (p:Nat→Bool) (w:World) (hl:xs.length = n) (hn:n≤1000000) (hx:BitsAt w po pc (mxL xs))
  (hcf:∀ args w,(callFunc fn args).run Tryz.prog w = .ok (.enter fn args) w)
  (hstep:∀ w' k,Below w.heap.size w w'→k < n→Calls Tryz.prog fn (#[.int .u64 (xs.getD k 0:Nat)] ++ caps) w' fun e w''=>e = .returned (.bool (p (xs.getD k 0)))∧Below w'.heap.size w' w'') :
  Calls Tryz.prog 159 #[.slice po n pc,.func (.func fn) #[] caps] w fun e w'=>∃ ix:Int,e = .returned (.int .i64 ix)∧decide (0≤ix) = xs.any p∧Below w.heap.size w w':=by
 have HS:=hide hstep;have HX:=hide hx;have HL:=hide hl
 have HN:=hide (show (∀ j,j < n→p (xs.getD j 0) = false)→xs.any p = false from fun g=>by
  rw [List.any_eq_false]
  intro x hx
  obtain ⟨j,hj,rfl⟩:=List.mem_iff_getElem.1 hx
  have:=g j (by omega)
  rw [List.getD_eq_getElem?_getD,List.getElem?_eq_getElem hj] at this
  simpa using this)
 have HY:=hide (show ∀ j,j < n→p (xs.getD j 0) = true→xs.any p = true from fun j hj g=>by
  rw [List.any_eq_true]
  have hj2:j < xs.length:=by omega
  refine ⟨xs[j],List.getElem_mem hj2,?_⟩
  rw [List.getD_eq_getElem?_getD,List.getElem?_eq_getElem hj2] at g
  exact g)
 generalize xs.any p = a at *
 clear hstep hx hl
 go_enter Tryz.func159,Tryz.ntmps159
 go_wp2_with fail
 go_loopw [8] (fun i wr=>∃ k:Nat,k≤n∧i = .int .i64 k∧Hid (∀ j,j < k→p (xs.getD j 0) = false)∧Hid (Below w.heap.size w wr)) (fun i _=>n - (intOf i).toNat)
 case atStart=>exact ⟨0,Nat.zero_le _,rfl,fun j hj=>absurd hj (Nat.not_lt_zero j),Below.refl _ _⟩
 case round =>
  obtain ⟨k,hk,rfl,hF,hB⟩:=hrel
  by_cases hlt:k < n
  ·have hkI:(k:Int) < (n:Int):=by omega
   have C:=hide (fun w' h=>uH HS w' k h hlt)
   have GY:=hide (uH HY k hlt)
   obtain ⟨b,off,hpo,hbw,hc⟩:=bits_cell ((uH HX).below (uH hB)) (k:=k) (by rw [uH HL];exact hlt)
   have GF:=hide (fun (e:p (xs.getD k 0) = false)=>(show ∀ j,j < k+1→p (xs.getD j 0) = false from fun j hj=>by
    rcases Nat.lt_or_ge j k with g | g
    ·exact uH hF j g
    ·rw [show j = k by omega];exact e))
   generalize hxk:xs.getD k 0 = x at *
   subst hpo
   have hw1:IntKind.i64.wrap ((k:Int)+1) = (k:Int)+1:=wrap_in _ (by omega)
   have HXK:=hide hxk
   clear hxk
   go_wp2_with fail
   refine (uH C _ (uH hB)).mono ?_
   rintro e w2 ⟨rfl,hb2⟩
   have B2:=hide ((uH hB).trans (hb2.mono (uH hB).size))
   clear hb2 C hB
   cases hp:p x with
   | true =>
    have hY:=hide (uH GY (by rw [hp]))
    clear GF GY hF
    go_wp2_with fail
    exact bodyPost_ret (v:=.int .i64 (k:Nat)) (by simp [results,Tryz.results159,go_sem]) rfl ⟨_,rfl,by rw [uH hY];exact decide_eq_true (by omega),uH B2⟩
   | false =>
    have hF2:=hide (uH GF (by rw [hp]))
    clear GF GY hF
    go_wp2_with fail
    go_round
    case rel=>exact ⟨k+1,by omega,by go_num,hF2,B2⟩
    case measure=>first | (simp [intOf];done) | (simp [intOf];omega)
  ·have hkk:k = n:=by omega
   subst hkk
   have hN:=hide (uH HN (uH hF))
   go_wp2_with fail
   exact bodyPost_ret (v:=.int .i64 (-1)) (by simp [results,Tryz.results159,go_sem]) rfl ⟨-1,rfl,by rw [uH hN];rfl,uH hB⟩
theorem contF_any (fn:Nat) (caps:Array Value) (po:Option Addr) (pc n:Nat) (xs:List Nat) (p:Nat→Bool) (w:World) (hl:xs.length = n) (hn:n≤1000000) (hx:BitsAt w po pc (mxL xs))
  (hcf:∀ args w,(callFunc fn args).run Tryz.prog w = .ok (.enter fn args) w)
  (hstep:∀ w' k,Below w.heap.size w w'→k < n→Calls Tryz.prog fn (#[.int .u64 (xs.getD k 0:Nat)] ++ caps) w' fun e w''=>e = .returned (.bool (p (xs.getD k 0)))∧Below w'.heap.size w' w'') :
  Calls Tryz.prog 99 #[.slice po n pc,.func (.func fn) #[] caps] w fun e w'=>e = .returned (.bool (xs.any p))∧Below w.heap.size w w':=by
 have K:=hide (indexF_any fn caps po pc n xs p w hl hn hx hcf hstep)
 generalize xs.any p = a at *
 clear hstep hx hl
 go_enter Tryz.func99,Tryz.ntmps99
 go_wp2_with fail
 refine (uH K).mono ?_
 rintro e w1 ⟨ix,rfl,hix,hb⟩
 clear K
 have HB:=hide hb
 clear hb
 go_wp2
 go_ret
 exact ⟨by rw [← hix];rfl,uH HB⟩
def ck2 (r c:Int) (I:List Int) (p q:Int) (J:List Int):Int:=if ckE r c I = 0 then ckE p q J else ckE r c I
theorem ckE_cases (r c:Int) (I:List Int):ckE r c I = 0 ∨ ckE r c I = 1 ∨ ckE r c I = 4:=by
 unfold ckE
 repeat' split
 all_goals simp
theorem checked_of (r c p q:Int) (ao bo:Option Addr) (n cap m d:Nat) (e1 e2 o:Int) (w:World) (he:(e1 = 0∧o = e2) ∨ (e1 ≠ 0∧o = e1))
  (C1:∀ w',Below w.heap.size w w'→Calls Tryz.prog 63 #[.agg #[.int .i64 r,.int .i64 c,.slice ao n cap]] w' fun e w''=>e = .returned (.int .i64 e1)∧Below w'.heap.size w' w'')
  (C2:∀ w',Below w.heap.size w w'→Calls Tryz.prog 63 #[.agg #[.int .i64 p,.int .i64 q,.slice bo m d]] w' fun e w''=>e = .returned (.int .i64 e2)∧Below w'.heap.size w' w'') :
  Calls Tryz.prog 48 #[.agg #[.int .i64 r,.int .i64 c,.slice ao n cap],.agg #[.int .i64 p,.int .i64 q,.slice bo m d]] w fun e w'=>e = .returned (.int .i64 o)∧Below w.heap.size w w':=by
 have KB:=hide (boxes2 w (.int .i64 r) (.int .i64 c) (.slice ao n cap) (.int .i64 p) (.int .i64 q) (.slice bo m d))
 obtain ⟨b0,x0,x1⟩:=uH KB ((w.alloc (.cells #[.int .i64 r,.int .i64 c,.slice ao n cap] 24)).alloc (.cells #[.int .i64 p,.int .i64 q,.slice bo m d] 24)) (by have:=Below.refl ((w.alloc (.cells #[.int .i64 r,.int .i64 c,.slice ao n cap] 24)).alloc (.cells #[.int .i64 p,.int .i64 q,.slice bo m d] 24)).heap.size ((w.alloc (.cells #[.int .i64 r,.int .i64 c,.slice ao n cap] 24)).alloc (.cells #[.int .i64 p,.int .i64 q,.slice bo m d] 24));simpa only [size_alloc9] using this)
 have K1:=hide (C1 _ b0)
 have HB:=hide b0;have HX:=hide x1
 have K2:=hide C2
 have y0:=x0.c0;have y1:=x0.c1;have y2:=x0.c2
 clear C1 C2 KB b0 x0 x1
 rcases he with ⟨rfl,rfl⟩ | ⟨hne,rfl⟩
 ·go_enter Tryz.func48,Tryz.ntmps48
  go_wp2_with fail
  clear y0 y1 y2
  refine (uH K1).mono ?_
  rintro e w1 ⟨rfl,hb⟩
  replace HX:=hide ((uH HX).all hb)
  replace HB:=hide ((uH HB).trans (hb.mono (uH HB).size))
  clear hb K1
  have y0:=(uH HX).c0;have y1:=(uH HX).c1;have y2:=(uH HX).c2
  go_wp2_with fail
  clear y0 y1 y2
  refine (uH K2 _ (uH HB)).mono ?_
  rintro e w2 ⟨rfl,hb⟩
  replace HB:=hide ((uH HB).trans (hb.mono (uH HB).size))
  clear hb K2 HX
  go_wp2
  go_ret
  exact ⟨rfl,uH HB⟩
 ·go_enter Tryz.func48,Tryz.ntmps48
  go_wp2_with fail
  clear y0 y1 y2
  refine (uH K1).mono ?_
  rintro e w1 ⟨rfl,hb⟩
  replace HB:=hide ((uH HB).trans (hb.mono (uH HB).size))
  clear hb K1 HX K2
  go_wp2
  go_ret
  exact ⟨rfl,uH HB⟩
theorem checked_any (r c p q:Int) (ao bo:Option Addr) (cap d:Nat) (I J:List Int) (w:World) (hI:BitsAt w ao cap I) (hJ:BitsAt w bo d J) (hi:I.length≤35184372088830) (hj:J.length≤35184372088830) :
  Calls Tryz.prog 48 #[.agg #[.int .i64 r,.int .i64 c,.slice ao I.length cap],.agg #[.int .i64 p,.int .i64 q,.slice bo J.length d]] w fun e w'=>e = .returned (.int .i64 (ck2 r c I p q J))∧Below w.heap.size w w':=by
 refine checked_of r c p q ao bo I.length cap J.length d (ckE r c I) (ckE p q J) (ck2 r c I p q J) w ?_ (fun w' hb=>ccheck_any r c ao cap I w' (hI.below hb) hi) (fun w' hb=>ccheck_any p q bo d J w' (hJ.below hb) hj)
 unfold ck2
 by_cases h:ckE r c I = 0
 ·rw [if_pos h];exact .inl ⟨h,rfl⟩
 ·rw [if_neg h];exact .inr ⟨h,rfl⟩
theorem diagonal_any (r c cap q:Nat) (ao:Option Addr) (S:List Nat) (w:World) (h:Mx w ao cap r c S) (hq:min r c = q) :
  Calls Tryz.prog 96 #[.agg #[.int .i64 r,.int .i64 c,.slice ao S.length cap]] w fun e w'=>∃ g,e = .returned (.slice (some ⟨g,0,none⟩) q q)∧w.heap.size≤g∧RowB w' g (dgL r c S)∧Below w.heap.size w w':=by
 have r6:=h.2.2.1;have c6:=h.2.2.2
 have hmin:∀ (W:World) ts t,(Builtin.min_ ts t #[.int .i64 (r:Int),.int .i64 (c:Int)]).run Tryz.prog W = .ok (.int .i64 (q:Int)) W:=fun W ts t=>by
  rw [show (q:Int) = min (r:Int) (c:Int) by omega];exact min2_run _ W ts t _ _
 have hmk:=run_make_row' (P:=Tryz.prog) 22 69 (.int .u64 0) 8 Tryz.underlying22 (by kernel_rfl) rfl .i64 .i64 q (by omega) (by omega)
 have b0:=below_alloc9 w (.cells #[.int .i64 r,.int .i64 c,.slice ao S.length cap] 24)
 have s0:=size_alloc9 w (.cells #[.int .i64 r,.int .i64 c,.slice ao S.length cap] 24)
 have x0:=BoxM.new w (.int .i64 r) (.int .i64 c) (.slice ao S.length cap)
 have y0:=x0.c0;have y1:=x0.c1
 have M0:=RowB.made (w.alloc (.cells #[.int .i64 r,.int .i64 c,.slice ao S.length cap] 24)) q
 have ba:=below_alloc9 (w.alloc (.cells #[.int .i64 r,.int .i64 c,.slice ao S.length cap] 24)) (.cells (madeCells #[.int .u64 0] q) 69)
 rw [s0] at M0
 have HM:=hide M0
 have HX:=hide (x0.all ba)
 have HB:=hide (b0.trans (ba.mono b0.size))
 have HS:=hide h
 obtain ⟨f,hf⟩:∃ f:Nat→Nat,(fun i=>elM c S i i) = f:=⟨_,rfl⟩
 have FV:=hide (show ∀ i,f i = elM c S i i from fun i=>by rw [← hf])
 have FD:=hide (show dgL r c S = (List.range q).map f from by rw [← hf,← hq];rfl)
 have hqr:q≤r:=by omega
 have hqc:q≤c:=by omega
 generalize hnn:S.length = n at *
 have HL:=hide hnn
 have HLL:=hide h.2.1
 clear h b0 s0 x0 M0 ba hf hnn hq
 go_enter Tryz.func96,Tryz.ntmps96
 go_wp2_with fail
 clear hmk hmin y0 y1
 go_loopw [13] (fun i wr=>∃ k:Nat,k≤q∧i = .int .i64 k∧Hid (RowB wr (w.heap.size+1) (eaL f q k))∧Hid (BoxM wr w.heap.size (.int .i64 r) (.int .i64 c) (.slice ao n cap))∧Hid (Below w.heap.size w wr)) (fun i _=>q - (intOf i).toNat)
 case atStart=>exact ⟨0,Nat.zero_le _,rfl,by rw [eaL_0];exact HM,HX,HB⟩
 case round =>
  clear HM HX HB
  obtain ⟨k,hk,rfl,hR,hX,hB⟩:=hrel
  by_cases hlt:k < q
  ·have hkI:(k:Int) < (q:Int):=by omega
   have hkr:k < r:=by omega
   have hkc:k < c:=by omega
   obtain ⟨b,off,hao,hbw,hcell,_⟩:=((uH HS).below (uH hB)).cells hkr hkc
   have hpp:=place_lt hkr hkc
   rw [← uH FV k] at hcell
   obtain ⟨u,hu⟩:∃ u,f k = u:=⟨_,rfl⟩
   rw [hu] at hcell
   obtain ⟨z,hz⟩:∃ z,k * c = z:=⟨_,rfl⟩
   rw [hz] at hcell hpp
   obtain ⟨x,hx⟩:∃ x,z+k = x:=⟨_,rfl⟩
   rw [hx] at hcell hpp
   have hxn:x < n:=by rw [← uH HL,uH HLL];exact hpp
   have hxI:(x:Int) < (n:Int):=by omega
   have h36:r * c≤36:=Nat.mul_le_mul r6 c6
   have e2:IntKind.i64.wrap ((k:Int) * (c:Int)) = (z:Int):=by
    rw [cast_mul10 k c,hz]
    exact wrap_in _ (by omega)
   have e3:IntKind.i64.wrap ((z:Int)+(k:Int)) = (x:Int):=(wrap_in _ (by omega)).trans (by omega)
   have e5:(k:Int) * (c:Int) = (z:Int):=by rw [cast_mul10 k c,hz]
   have e6:(z:Int)+(k:Int) = (x:Int):=by omega
   have e7:IntKind.i64.wrap (z:Int) = (z:Int):=wrap_in _ (by omega)
   have e8:IntKind.i64.wrap (x:Int) = (x:Int):=wrap_in _ (by omega)
   subst hao
   have y1:=(uH hX).c1;have y2:=(uH hX).c2
   have c0:=(uH hR).cell k (by rw [eaL_len];exact hlt)
   have f0:=(uH hR).free k
   have R3:=hide ((uH hR).set k u)
   have X3:=hide ((uH hX).other (p:=⟨w.heap.size+1,k,none⟩) (show w.heap.size ≠ w.heap.size+1 by omega) (.int .u64 (u:Nat)))
   have B3:=hide ((uH hB).setCell (p:=⟨w.heap.size+1,k,none⟩) (Nat.le_succ _) (.int .u64 (u:Nat)))
   have eV:=hide hu
   generalize (eaL f q k)[k]?.getD 0 = old at *
   clear hR hX hB hz hx hu hpp hxn h36
   go_wp2_with fail
   go_round
   case rel=>exact ⟨k+1,by omega,by go_num,by rw [← eaL_set,uH eV];exact R3,X3,B3⟩
   case measure=>first | (simp [intOf];done) | (simp [intOf];omega)
  ·have hkk:k = q:=by omega
   subst hkk
   have HF:=hide (show RowB wr (w.heap.size+1) (dgL r c S) from by rw [uH FD,← eaL_full];exact uH hR)
   go_wp2_with fail
   exact bodyPost_ret (v:=.slice (some ⟨w.heap.size+1,0,none⟩) k k) (by simp [results,Tryz.results96,go_sem]) rfl ⟨_,rfl,Nat.le_succ _,uH HF,uH hB⟩
end Go.Proofs.YtcbcmlaogehimaaGreatDoor
namespace Go.Proofs.YtcbcmlaogehimaaGreatDoor
open Go.RowKit
attribute [local go_sem ↓] Go.wp_at_zero Go.wp_at_succ
theorem solved_err (r c p q er:Int) (tn tc bn bc:Nat) (tq bo:Option Addr) (fo fd:Value) (w:World) (her:er = 1 ∨ er = 4)
  (C1:∀ w',Below w.heap.size w w'→Calls Tryz.prog 48 #[.agg #[.int .i64 r,.int .i64 c,.slice tq tn tc],.agg #[.int .i64 p,.int .i64 q,.slice bo bn bc]] w' fun e w''=>e = .returned (.int .i64 er)∧Below w'.heap.size w' w'') :
  Calls Tryz.prog 104 #[.agg #[.int .i64 r,.int .i64 c,.slice tq tn tc],.agg #[.int .i64 p,.int .i64 q,.slice bo bn bc],fo,fd] w fun e w'=>e = .returned (.tuple #[.agg #[.int .i64 0,.int .i64 0,.slice none 0 0],.int .i64 er])∧Below w.heap.size w w':=by
 have KB:=hide (boxes3_17 w (.int .i64 r) (.int .i64 c) (.slice tq tn tc) (.int .i64 p) (.int .i64 q) (.slice bo bn bc) (.int .i64 0) (.int .i64 0) (.slice none 0 0))
 obtain ⟨b0,x0,x1,x2⟩:=uH KB _ (by have:=Below.refl (((w.alloc (.cells #[.int .i64 r,.int .i64 c,.slice tq tn tc] 24)).alloc (.cells #[.int .i64 p,.int .i64 q,.slice bo bn bc] 24)).alloc (.cells #[.int .i64 0,.int .i64 0,.slice none 0 0] 24)).heap.size (((w.alloc (.cells #[.int .i64 r,.int .i64 c,.slice tq tn tc] 24)).alloc (.cells #[.int .i64 p,.int .i64 q,.slice bo bn bc] 24)).alloc (.cells #[.int .i64 0,.int .i64 0,.slice none 0 0] 24));simpa only [size_alloc9] using this)
 have K1:=hide (C1 _ b0)
 have HB:=hide b0;have HT:=hide x0;have HU:=hide x1;have HR:=hide x2
 have y0:=x0.c0;have y1:=x0.c1;have y2:=x0.c2;have u0:=x1.c0;have u1:=x1.c1;have u2:=x1.c2
 clear C1 KB b0 x0 x1 x2
 rcases her with rfl | rfl
 all_goals
  go_enter Tryz.func104,Tryz.ntmps104
  go_wp2_with fail
  clear y0 y1 y2 u0 u1 u2
  refine (uH K1).mono ?_
  rintro e w1 ⟨rfl,hb⟩
  replace HT:=hide ((uH HT).all hb)
  replace HU:=hide ((uH HU).all hb)
  replace HR:=hide ((uH HR).all hb)
  replace HB:=hide ((uH HB).trans (hb.mono (uH HB).size))
  clear hb K1
  have y0:=(uH HT).c0;have y1:=(uH HT).c1;have y2:=(uH HT).c2;have u0:=(uH HU).c0;have u1:=(uH HU).c1;have u2:=(uH HU).c2
  clear y0 y1 y2 u0 u1 u2
  have X3:=uH HR
  have f0:=X3.free 0;have f1:=X3.free 1;have f2:=X3.free 2
  have s0:=X3.c0;have s1:=X3.c1;have s2:=X3.c2
  have XP:=X3.put (.int .i64 0) (.int .i64 0) (.slice none 0 0)
  have z0:=XP.c0;have z1:=XP.c1;have z2:=XP.c2
  have BP:=hide (below_putM (uH HB) (b:=w.heap.size+1+1) (by omega) (.int .i64 0) (.int .i64 0) (.slice none 0 0))
  clear XP X3
  go_wp2_with fail
  exact bodyPost_ret (v:=.tuple #[.agg #[.int .i64 0,.int .i64 0,.slice none 0 0],.int .i64 _]) (by simp [results,Tryz.results104,go_sem,z0,z1,z2]) rfl ⟨rfl,uH BP⟩
theorem solved_shape (r c p q:Int) (tn tc bn bc:Nat) (tq bo:Option Addr) (fo fd:Value) (w:World) (hsh:¬ r = c ∨ (r = c∧¬ r = p))
  (C1:∀ w',Below w.heap.size w w'→Calls Tryz.prog 48 #[.agg #[.int .i64 r,.int .i64 c,.slice tq tn tc],.agg #[.int .i64 p,.int .i64 q,.slice bo bn bc]] w' fun e w''=>e = .returned (.int .i64 0)∧Below w'.heap.size w' w'') :
  Calls Tryz.prog 104 #[.agg #[.int .i64 r,.int .i64 c,.slice tq tn tc],.agg #[.int .i64 p,.int .i64 q,.slice bo bn bc],fo,fd] w fun e w'=>e = .returned (.tuple #[.agg #[.int .i64 0,.int .i64 0,.slice none 0 0],.int .i64 3])∧Below w.heap.size w w':=by
 have KB:=hide (boxes3_17 w (.int .i64 r) (.int .i64 c) (.slice tq tn tc) (.int .i64 p) (.int .i64 q) (.slice bo bn bc) (.int .i64 0) (.int .i64 0) (.slice none 0 0))
 obtain ⟨b0,x0,x1,x2⟩:=uH KB _ (by have:=Below.refl (((w.alloc (.cells #[.int .i64 r,.int .i64 c,.slice tq tn tc] 24)).alloc (.cells #[.int .i64 p,.int .i64 q,.slice bo bn bc] 24)).alloc (.cells #[.int .i64 0,.int .i64 0,.slice none 0 0] 24)).heap.size (((w.alloc (.cells #[.int .i64 r,.int .i64 c,.slice tq tn tc] 24)).alloc (.cells #[.int .i64 p,.int .i64 q,.slice bo bn bc] 24)).alloc (.cells #[.int .i64 0,.int .i64 0,.slice none 0 0] 24));simpa only [size_alloc9] using this)
 have K1:=hide (C1 _ b0)
 have HB:=hide b0;have HT:=hide x0;have HU:=hide x1;have HR:=hide x2
 have y0:=x0.c0;have y1:=x0.c1;have y2:=x0.c2;have u0:=x1.c0;have u1:=x1.c1;have u2:=x1.c2
 clear C1 KB b0 x0 x1 x2
 rcases hsh with hsh | ⟨rfl,hsh⟩
 all_goals
  go_enter Tryz.func104,Tryz.ntmps104
  go_wp2_with fail
  clear y0 y1 y2 u0 u1 u2
  refine (uH K1).mono ?_
  rintro e w1 ⟨rfl,hb⟩
  replace HT:=hide ((uH HT).all hb)
  replace HU:=hide ((uH HU).all hb)
  replace HR:=hide ((uH HR).all hb)
  replace HB:=hide ((uH HB).trans (hb.mono (uH HB).size))
  clear hb K1
  have y0:=(uH HT).c0;have y1:=(uH HT).c1;have y2:=(uH HT).c2;have u0:=(uH HU).c0;have u1:=(uH HU).c1;have u2:=(uH HU).c2
  have X3:=uH HR
  have f0:=X3.free 0;have f1:=X3.free 1;have f2:=X3.free 2
  have s0:=X3.c0;have s1:=X3.c1;have s2:=X3.c2
  have XP:=X3.put (.int .i64 0) (.int .i64 0) (.slice none 0 0)
  have z0:=XP.c0;have z1:=XP.c1;have z2:=XP.c2
  have BP:=hide (below_putM (uH HB) (b:=w.heap.size+1+1) (by omega) (.int .i64 0) (.int .i64 0) (.slice none 0 0))
  clear XP X3
  go_wp2_with fail
  exact bodyPost_ret (v:=.tuple #[.agg #[.int .i64 0,.int .i64 0,.slice none 0 0],.int .i64 3]) (by simp [results,Tryz.results104,go_sem,z0,z1,z2]) rfl ⟨rfl,uH BP⟩
theorem solved_rank (r q:Int) (tn tc bn bc gn:Nat) (D:List Nat) (tq bo:Option Addr) (fo fd:Value) (w:World)
  (C1:∀ w',Below w.heap.size w w'→Calls Tryz.prog 48 #[.agg #[.int .i64 r,.int .i64 r,.slice tq tn tc],.agg #[.int .i64 r,.int .i64 q,.slice bo bn bc]] w' fun e w''=>e = .returned (.int .i64 0)∧Below w'.heap.size w' w'')
  (C2:∀ w',Below w.heap.size w w'→Calls Tryz.prog 96 #[.agg #[.int .i64 r,.int .i64 r,.slice tq tn tc]] w' fun e w''=>∃ g,e = .returned (.slice (some ⟨g,0,none⟩) gn gn)∧w'.heap.size≤g∧RowB w'' g D∧Below w'.heap.size w' w'')
  (C3:∀ w' g,Below w.heap.size w w'→RowB w' g D→Calls Tryz.prog 99 #[.slice (some ⟨g,0,none⟩) gn gn,.func (.func 163) #[] #[]] w' fun e w''=>e = .returned (.bool true)∧Below w'.heap.size w' w'') :
  Calls Tryz.prog 104 #[.agg #[.int .i64 r,.int .i64 r,.slice tq tn tc],.agg #[.int .i64 r,.int .i64 q,.slice bo bn bc],fo,fd] w fun e w'=>e = .returned (.tuple #[.agg #[.int .i64 0,.int .i64 0,.slice none 0 0],.int .i64 5])∧Below w.heap.size w w':=by
 have KB:=hide (boxes3_17 w (.int .i64 r) (.int .i64 r) (.slice tq tn tc) (.int .i64 r) (.int .i64 q) (.slice bo bn bc) (.int .i64 0) (.int .i64 0) (.slice none 0 0))
 obtain ⟨b0,x0,x1,x2⟩:=uH KB _ (by have:=Below.refl (((w.alloc (.cells #[.int .i64 r,.int .i64 r,.slice tq tn tc] 24)).alloc (.cells #[.int .i64 r,.int .i64 q,.slice bo bn bc] 24)).alloc (.cells #[.int .i64 0,.int .i64 0,.slice none 0 0] 24)).heap.size (((w.alloc (.cells #[.int .i64 r,.int .i64 r,.slice tq tn tc] 24)).alloc (.cells #[.int .i64 r,.int .i64 q,.slice bo bn bc] 24)).alloc (.cells #[.int .i64 0,.int .i64 0,.slice none 0 0] 24));simpa only [size_alloc9] using this)
 have K1:=hide (C1 _ b0)
 have HB:=hide b0;have HT:=hide x0;have HU:=hide x1;have HR:=hide x2
 have K2:=hide C2;have K3:=hide C3
 have y0:=x0.c0;have y1:=x0.c1;have y2:=x0.c2;have u0:=x1.c0;have u1:=x1.c1;have u2:=x1.c2
 clear C1 KB b0 x0 x1 x2
 clear C2 C3
 go_enter Tryz.func104,Tryz.ntmps104
 go_wp2_with fail
 clear y0 y1 y2 u0 u1 u2
 refine (uH K1).mono ?_
 rintro e w1 ⟨rfl,hb⟩
 replace HT:=hide ((uH HT).all hb)
 replace HU:=hide ((uH HU).all hb)
 replace HR:=hide ((uH HR).all hb)
 replace HB:=hide ((uH HB).trans (hb.mono (uH HB).size))
 clear hb K1
 have y0:=(uH HT).c0;have y1:=(uH HT).c1;have y2:=(uH HT).c2;have u0:=(uH HU).c0;have u1:=(uH HU).c1;have u2:=(uH HU).c2
 go_wp2_with fail
 clear y0 y1 y2 u0 u1 u2
 refine (uH K2 _ (uH HB)).mono ?_
 rintro e w2 ⟨g,rfl,_,hr,hb⟩
 replace HT:=hide ((uH HT).all hb)
 replace HU:=hide ((uH HU).all hb)
 replace HR:=hide ((uH HR).all hb)
 replace HB:=hide ((uH HB).trans (hb.mono (uH HB).size))
 have HG:=hide hr
 clear hb hr K2
 go_wp2_with fail
 refine (uH K3 _ _ (uH HB) (uH HG)).mono ?_
 rintro e w3 ⟨rfl,hb⟩
 replace HT:=hide ((uH HT).all hb)
 replace HU:=hide ((uH HU).all hb)
 replace HR:=hide ((uH HR).all hb)
 replace HB:=hide ((uH HB).trans (hb.mono (uH HB).size))
 clear hb HG K3
 have X3:=uH HR
 have f0:=X3.free 0;have f1:=X3.free 1;have f2:=X3.free 2
 have s0:=X3.c0;have s1:=X3.c1;have s2:=X3.c2
 have XP:=X3.put (.int .i64 0) (.int .i64 0) (.slice none 0 0)
 have z0:=XP.c0;have z1:=XP.c1;have z2:=XP.c2
 have BP:=hide (below_putM (uH HB) (b:=w.heap.size+1+1) (by omega) (.int .i64 0) (.int .i64 0) (.slice none 0 0))
 clear XP X3
 go_wp2_with fail
 exact bodyPost_ret (v:=.tuple #[.agg #[.int .i64 0,.int .i64 0,.slice none 0 0],.int .i64 5]) (by simp [results,Tryz.results104,go_sem,z0,z1,z2]) rfl ⟨rfl,uH BP⟩
theorem solved_inf (r q:Int) (tn tc bn bc gn L:Nat) (D:List Nat) (tq bo:Option Addr) (fo fd:Value) (w:World)
  (C1:∀ w',Below w.heap.size w w'→Calls Tryz.prog 48 #[.agg #[.int .i64 r,.int .i64 r,.slice tq tn tc],.agg #[.int .i64 r,.int .i64 q,.slice bo bn bc]] w' fun e w''=>e = .returned (.int .i64 0)∧Below w'.heap.size w' w'')
  (C2:∀ w',Below w.heap.size w w'→Calls Tryz.prog 96 #[.agg #[.int .i64 r,.int .i64 r,.slice tq tn tc]] w' fun e w''=>∃ g,e = .returned (.slice (some ⟨g,0,none⟩) gn gn)∧w'.heap.size≤g∧RowB w'' g D∧Below w'.heap.size w' w'')
  (C3:∀ w' g,Below w.heap.size w w'→RowB w' g D→Calls Tryz.prog 99 #[.slice (some ⟨g,0,none⟩) gn gn,.func (.func 163) #[] #[]] w' fun e w''=>e = .returned (.bool false)∧Below w'.heap.size w' w'')
  (C4:∀ w',Below w.heap.size w w'→Calls Tryz.prog 165 #[.agg #[.int .i64 r,.int .i64 r,.slice tq tn tc],.agg #[.int .i64 r,.int .i64 q,.slice bo bn bc],fo,fd] w' fun e w''=>∃ xo xc,e = .returned (.tuple #[.agg #[.int .i64 r,.int .i64 q,.slice xo L xc],.bool false])∧Below w'.heap.size w' w'') :
  Calls Tryz.prog 104 #[.agg #[.int .i64 r,.int .i64 r,.slice tq tn tc],.agg #[.int .i64 r,.int .i64 q,.slice bo bn bc],fo,fd] w fun e w'=>e = .returned (.tuple #[.agg #[.int .i64 0,.int .i64 0,.slice none 0 0],.int .i64 2])∧Below w.heap.size w w':=by
 have KB:=hide (boxes3_17 w (.int .i64 r) (.int .i64 r) (.slice tq tn tc) (.int .i64 r) (.int .i64 q) (.slice bo bn bc) (.int .i64 0) (.int .i64 0) (.slice none 0 0))
 obtain ⟨b0,x0,x1,x2⟩:=uH KB _ (by have:=Below.refl (((w.alloc (.cells #[.int .i64 r,.int .i64 r,.slice tq tn tc] 24)).alloc (.cells #[.int .i64 r,.int .i64 q,.slice bo bn bc] 24)).alloc (.cells #[.int .i64 0,.int .i64 0,.slice none 0 0] 24)).heap.size (((w.alloc (.cells #[.int .i64 r,.int .i64 r,.slice tq tn tc] 24)).alloc (.cells #[.int .i64 r,.int .i64 q,.slice bo bn bc] 24)).alloc (.cells #[.int .i64 0,.int .i64 0,.slice none 0 0] 24));simpa only [size_alloc9] using this)
 have K1:=hide (C1 _ b0)
 have HB:=hide b0;have HT:=hide x0;have HU:=hide x1;have HR:=hide x2
 have K2:=hide C2;have K3:=hide C3;have K4:=hide C4
 have y0:=x0.c0;have y1:=x0.c1;have y2:=x0.c2;have u0:=x1.c0;have u1:=x1.c1;have u2:=x1.c2
 clear C1 KB b0 x0 x1 x2
 clear C2 C3 C4
 go_enter Tryz.func104,Tryz.ntmps104
 go_wp2_with fail
 clear y0 y1 y2 u0 u1 u2
 refine (uH K1).mono ?_
 rintro e w1 ⟨rfl,hb⟩
 replace HT:=hide ((uH HT).all hb)
 replace HU:=hide ((uH HU).all hb)
 replace HR:=hide ((uH HR).all hb)
 replace HB:=hide ((uH HB).trans (hb.mono (uH HB).size))
 clear hb K1
 have y0:=(uH HT).c0;have y1:=(uH HT).c1;have y2:=(uH HT).c2;have u0:=(uH HU).c0;have u1:=(uH HU).c1;have u2:=(uH HU).c2
 go_wp2_with fail
 clear y0 y1 y2 u0 u1 u2
 refine (uH K2 _ (uH HB)).mono ?_
 rintro e w2 ⟨g,rfl,_,hr,hb⟩
 replace HT:=hide ((uH HT).all hb)
 replace HU:=hide ((uH HU).all hb)
 replace HR:=hide ((uH HR).all hb)
 replace HB:=hide ((uH HB).trans (hb.mono (uH HB).size))
 have HG:=hide hr
 clear hb hr K2
 go_wp2_with fail
 refine (uH K3 _ _ (uH HB) (uH HG)).mono ?_
 rintro e w3 ⟨rfl,hb⟩
 replace HT:=hide ((uH HT).all hb)
 replace HU:=hide ((uH HU).all hb)
 replace HR:=hide ((uH HR).all hb)
 replace HB:=hide ((uH HB).trans (hb.mono (uH HB).size))
 clear hb HG K3
 have y0:=(uH HT).c0;have y1:=(uH HT).c1;have y2:=(uH HT).c2;have u0:=(uH HU).c0;have u1:=(uH HU).c1;have u2:=(uH HU).c2
 go_wp2_with fail
 clear y0 y1 y2 u0 u1 u2
 refine (uH K4 _ (uH HB)).mono ?_
 rintro e w4 ⟨xo,xc,rfl,hb⟩
 replace HR:=hide ((uH HR).all hb)
 have HB0:=hide (uH HB)
 replace HB:=hide ((uH HB).trans (hb.mono (uH HB).size))
 have ba:=below_alloc9 w4 (.cells #[.int .i64 r,.int .i64 q,.slice xo L xc] 24)
 have XX:=hide (BoxM.new w4 (.int .i64 r) (.int .i64 q) (.slice xo L xc))
 replace HR:=hide ((uH HR).all ba)
 replace HB:=hide ((uH HB).trans (ba.mono (uH HB).size))
 clear hb ba K4 HT HU
 clear XX
 have X3:=uH HR
 have f0:=X3.free 0;have f1:=X3.free 1;have f2:=X3.free 2
 have s0:=X3.c0;have s1:=X3.c1;have s2:=X3.c2
 have XP:=X3.put (.int .i64 0) (.int .i64 0) (.slice none 0 0)
 have z0:=XP.c0;have z1:=XP.c1;have z2:=XP.c2
 have BP:=hide (below_putM (uH HB) (b:=w.heap.size+1+1) (by omega) (.int .i64 0) (.int .i64 0) (.slice none 0 0))
 clear XP X3
 go_wp2_with fail
 exact bodyPost_ret (v:=.tuple #[.agg #[.int .i64 0,.int .i64 0,.slice none 0 0],.int .i64 2]) (by simp [results,Tryz.results104,go_sem,z0,z1,z2]) rfl ⟨rfl,uH BP⟩
theorem solved_ok (r q:Int) (tn tc bn bc gn L:Nat) (D X:List Nat) (tq bo:Option Addr) (fo fd:Value) (w:World)
  (C1:∀ w',Below w.heap.size w w'→Calls Tryz.prog 48 #[.agg #[.int .i64 r,.int .i64 r,.slice tq tn tc],.agg #[.int .i64 r,.int .i64 q,.slice bo bn bc]] w' fun e w''=>e = .returned (.int .i64 0)∧Below w'.heap.size w' w'')
  (C2:∀ w',Below w.heap.size w w'→Calls Tryz.prog 96 #[.agg #[.int .i64 r,.int .i64 r,.slice tq tn tc]] w' fun e w''=>∃ g,e = .returned (.slice (some ⟨g,0,none⟩) gn gn)∧w'.heap.size≤g∧RowB w'' g D∧Below w'.heap.size w' w'')
  (C3:∀ w' g,Below w.heap.size w w'→RowB w' g D→Calls Tryz.prog 99 #[.slice (some ⟨g,0,none⟩) gn gn,.func (.func 163) #[] #[]] w' fun e w''=>e = .returned (.bool false)∧Below w'.heap.size w' w'')
  (C4:∀ w',Below w.heap.size w w'→Calls Tryz.prog 165 #[.agg #[.int .i64 r,.int .i64 r,.slice tq tn tc],.agg #[.int .i64 r,.int .i64 q,.slice bo bn bc],fo,fd] w' fun e w''=>∃ xo xc,e = .returned (.tuple #[.agg #[.int .i64 r,.int .i64 q,.slice xo L xc],.bool true])∧NewB w'.heap.size xo (mxL X)∧BitsAt w'' xo xc (mxL X)∧Below w'.heap.size w' w'') :
  Calls Tryz.prog 104 #[.agg #[.int .i64 r,.int .i64 r,.slice tq tn tc],.agg #[.int .i64 r,.int .i64 q,.slice bo bn bc],fo,fd] w fun e w'=>∃ xo xc,e = .returned (.tuple #[.agg #[.int .i64 r,.int .i64 q,.slice xo L xc],.int .i64 0])∧NewB w.heap.size xo (mxL X)∧BitsAt w' xo xc (mxL X)∧Below w.heap.size w w':=by
 have KB:=hide (boxes3_17 w (.int .i64 r) (.int .i64 r) (.slice tq tn tc) (.int .i64 r) (.int .i64 q) (.slice bo bn bc) (.int .i64 0) (.int .i64 0) (.slice none 0 0))
 obtain ⟨b0,x0,x1,x2⟩:=uH KB _ (by have:=Below.refl (((w.alloc (.cells #[.int .i64 r,.int .i64 r,.slice tq tn tc] 24)).alloc (.cells #[.int .i64 r,.int .i64 q,.slice bo bn bc] 24)).alloc (.cells #[.int .i64 0,.int .i64 0,.slice none 0 0] 24)).heap.size (((w.alloc (.cells #[.int .i64 r,.int .i64 r,.slice tq tn tc] 24)).alloc (.cells #[.int .i64 r,.int .i64 q,.slice bo bn bc] 24)).alloc (.cells #[.int .i64 0,.int .i64 0,.slice none 0 0] 24));simpa only [size_alloc9] using this)
 have K1:=hide (C1 _ b0)
 have HB:=hide b0;have HT:=hide x0;have HU:=hide x1;have HR:=hide x2
 have K2:=hide C2;have K3:=hide C3;have K4:=hide C4
 have y0:=x0.c0;have y1:=x0.c1;have y2:=x0.c2;have u0:=x1.c0;have u1:=x1.c1;have u2:=x1.c2
 clear C1 KB b0 x0 x1 x2
 clear C2 C3 C4
 go_enter Tryz.func104,Tryz.ntmps104
 go_wp2_with fail
 clear y0 y1 y2 u0 u1 u2
 refine (uH K1).mono ?_
 rintro e w1 ⟨rfl,hb⟩
 replace HT:=hide ((uH HT).all hb)
 replace HU:=hide ((uH HU).all hb)
 replace HR:=hide ((uH HR).all hb)
 replace HB:=hide ((uH HB).trans (hb.mono (uH HB).size))
 clear hb K1
 have y0:=(uH HT).c0;have y1:=(uH HT).c1;have y2:=(uH HT).c2;have u0:=(uH HU).c0;have u1:=(uH HU).c1;have u2:=(uH HU).c2
 go_wp2_with fail
 clear y0 y1 y2 u0 u1 u2
 refine (uH K2 _ (uH HB)).mono ?_
 rintro e w2 ⟨g,rfl,_,hr,hb⟩
 replace HT:=hide ((uH HT).all hb)
 replace HU:=hide ((uH HU).all hb)
 replace HR:=hide ((uH HR).all hb)
 replace HB:=hide ((uH HB).trans (hb.mono (uH HB).size))
 have HG:=hide hr
 clear hb hr K2
 go_wp2_with fail
 refine (uH K3 _ _ (uH HB) (uH HG)).mono ?_
 rintro e w3 ⟨rfl,hb⟩
 replace HT:=hide ((uH HT).all hb)
 replace HU:=hide ((uH HU).all hb)
 replace HR:=hide ((uH HR).all hb)
 replace HB:=hide ((uH HB).trans (hb.mono (uH HB).size))
 clear hb HG K3
 have y0:=(uH HT).c0;have y1:=(uH HT).c1;have y2:=(uH HT).c2;have u0:=(uH HU).c0;have u1:=(uH HU).c1;have u2:=(uH HU).c2
 go_wp2_with fail
 clear y0 y1 y2 u0 u1 u2
 refine (uH K4 _ (uH HB)).mono ?_
 rintro e w4 ⟨xo,xc,rfl,hn,hq,hb⟩
 replace HR:=hide ((uH HR).all hb)
 have HB0:=hide (uH HB)
 replace HB:=hide ((uH HB).trans (hb.mono (uH HB).size))
 have ba:=below_alloc9 w4 (.cells #[.int .i64 r,.int .i64 q,.slice xo L xc] 24)
 have XX:=hide (BoxM.new w4 (.int .i64 r) (.int .i64 q) (.slice xo L xc))
 replace HR:=hide ((uH HR).all ba)
 replace HB:=hide ((uH HB).trans (ba.mono (uH HB).size))
 have HN:=hide (hn.least (uH HB0).size)
 have HQ:=hide (hq.below ba)
 clear hn hq HB0
 clear hb ba K4 HT HU
 have X3:=uH HR
 have f0:=X3.free 0;have f1:=X3.free 1;have f2:=X3.free 2
 have s0:=X3.c0;have s1:=X3.c1;have s2:=X3.c2
 have v0:=(uH XX).c0;have v1:=(uH XX).c1;have v2:=(uH XX).c2
 have XP:=X3.put (.int .i64 r) (.int .i64 q) (.slice xo L xc)
 have z0:=XP.c0;have z1:=XP.c1;have z2:=XP.c2
 have BP:=hide (below_putM (uH HB) (b:=w.heap.size+1+1) (by omega) (.int .i64 r) (.int .i64 q) (.slice xo L xc))
 have QP:=hide ((uH HQ).putM X3 (.int .i64 r) (.int .i64 q) (.slice xo L xc))
 clear XP X3
 go_wp2_with fail
 exact bodyPost_ret (v:=.tuple #[.agg #[.int .i64 r,.int .i64 q,.slice xo L xc],.int .i64 0]) (by simp [results,Tryz.results104,go_sem,z0,z1,z2]) rfl ⟨_,_,rfl,uH HN,uH QP,uH BP⟩
end Go.Proofs.YtcbcmlaogehimaaGreatDoor
