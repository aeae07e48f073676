/- Part 36 of the texts. -/
import Derived.Test.YtfkndkaneffgdaaGreatDoorPartD30
import Derived.Test.YtfkndkaneffgdaaGreatDoorPartD35
import Derived.Test.YtfkndkaneffgdaaGreatDoorChecked
import Derived.Test.YtfkndkaneffgdaaGreatDoorPartD02
import Derived.ProofKit
import Derived.SizedLaws
import Derived.Lib.SmallJoins
namespace Go.Proofs.YtfkndkaneffgdaaGreatDoor
open Go.RowKit
attribute [local go_sem ↓] Go.wp_at_zero Go.wp_at_succ
theorem cl_at (r c:Nat) (S:List Nat) (k j:Nat) (h:j < r):(clL r c S k).getD j 0 = elM c S j k:=by simp [clL,fsL,List.getD_eq_getElem?_getD,h]
theorem dot_rc (c q:Nat) (S T:List Nat) (i k:Nat):dtK (mxL (rwL c S i)) (mxL (clL c q T k)) c = dtf c (fun j=>elM c S i j) (fun j=>elM q T j k):=by
 rw [dtK_dtf]
 refine dtf_congr c (fun j hj=>?_) (fun j hj=>?_)
 ·rw [mxL_at,rwL_at c S i j hj]
 ·rw [mxL_at,cl_at c q T k j hj]
set_option maxRecDepth 20000 in
set_option maxHeartbeats 16000000 in
theorem rmul10_any (r c q cap d:Nat) (ao bo:Option Addr) (S T:List Nat) (w:World) (h:Mx w ao cap r c S) (h2:Mx w bo d c q T) :
  Calls Tryz.prog 19 #[.agg #[.int .i64 r,.int .i64 c,.slice ao S.length cap],.agg #[.int .i64 c,.int .i64 q,.slice bo T.length d]] w fun e w'=>∃ v,e = .returned v∧NewM 0 w' r q (muM r c q S T) v∧Below w.heap.size w w':=by
 have HH:=hide h;have HG:=hide h2
 have hr6:=h.2.2.1;have hc6:=h.2.2.2;have hq6:=h2.2.2.2
 have K1:=hide (fun w'=>rzeros_any r q w' hr6 hq6)
 have KB:=hide (boxes3 w (.int .i64 r) (.int .i64 c) (.slice ao S.length cap) (.int .i64 c) (.int .i64 q) (.slice bo T.length d) (.int .i64 0) (.int .i64 0) (.slice none 0 0))
 have SZ:=hide (show (((w.alloc (.cells #[.int .i64 r,.int .i64 c,.slice ao S.length cap] 24)).alloc (.cells #[.int .i64 c,.int .i64 q,.slice bo T.length d] 24)).alloc (.cells #[.int .i64 0,.int .i64 0,.slice none 0 0] 24)).heap.size = w.heap.size+1+1+1 by simp)
 obtain ⟨l,hl⟩:∃ l,S.length = l:=⟨_,rfl⟩
 obtain ⟨m,hm⟩:∃ m,T.length = m:=⟨_,rfl⟩
 rw [hl,hm] at KB SZ
 rw [hl,hm]
 have HLL:=hide hl;have HMM:=hide hm
 obtain ⟨f,hf⟩:∃ f:Nat→Nat→Nat,f = fun i k=>dtf c (fun j=>elM c S i j) (fun j=>elM q T j k):=⟨_,rfl⟩
 have hmu:muM r c q S T = mkM r q f:=by rw [hf];rfl
 rw [hmu]
 have HF:=hide (show ∀ i k,dtK (mxL (rwL c S i)) (mxL (clL c q T k)) c = f i k from fun i k=>by rw [dot_rc,hf])
 clear h h2 hl hm hmu hf
 go_enter Tryz.func19,Tryz.ntmps19
 go_wp2_with fail
 refine (uH K1 _).mono ?_
 rintro e w1 ⟨v,rfl,⟨mo,mc,rfl,nw,qs⟩,hb1⟩
 rw [uH SZ] at hb1
 obtain ⟨B0,A0,A1,X0⟩:=uH KB w1 hb1
 have ba:=below_alloc9 w1 (.cells #[.int .i64 r,.int .i64 q,.slice mo (List.replicate (r * q) 0).length mc] 24)
 have z3:=hb1.size
 have L0:=hide (show LpSt w (w1.alloc (.cells #[.int .i64 r,.int .i64 q,.slice mo (mkM r q (fiR f 0 0)).length mc] 24)) w1.heap.size (w.heap.size+1+1) r q mo mc (mkM r q (fiR f 0 0)) from by
  rw [fiR_0]
  exact ⟨B0.trans (ba.mono B0.size),BoxM.new w1 _ _ _,X0.all ba,qs.below ba,by have:=X0.lt;omega,B0.size⟩)
 have HA:=hide (show BoxM (w1.alloc (.cells #[.int .i64 r,.int .i64 q,.slice mo (mkM r q (fiR f 0 0)).length mc] 24)) w.heap.size (.int .i64 r) (.int .i64 c) (.slice ao l cap) from by rw [fiR_0];exact A0.all ba)
 have HA2:=hide (show BoxM (w1.alloc (.cells #[.int .i64 r,.int .i64 q,.slice mo (mkM r q (fiR f 0 0)).length mc] 24)) (w.heap.size+1) (.int .i64 c) (.int .i64 q) (.slice bo m d) from by rw [fiR_0];exact A1.all ba)
 have NE:=hide (show w.heap.size ≠ w1.heap.size from by have:=A0.lt;omega);have NE2:=hide (show w.heap.size+1 ≠ w1.heap.size from by have:=A1.lt;omega)
 rw [← fiR_0 r q f]
 clear K1 KB SZ hb1 B0 A0 A1 X0 ba nw qs z3
 have t0:=(uH HA).c0;have t1:=(uH HA).c1;have t2:=(uH HA).c2
 go_wp2_with fail
 generalize w1.heap.size = g at *
 go_loopw [6] (fun i wr=>∃ (j:Nat) (no:Option Addr) (nc:Nat),j≤r∧i = .int .i64 j∧Hid (LpSt w wr g (w.heap.size+1+1) r q no nc (mkM r q (fiR f j 0)))∧Hid (BoxM wr w.heap.size (.int .i64 r) (.int .i64 c) (.slice ao l cap))∧Hid (BoxM wr (w.heap.size+1) (.int .i64 c) (.int .i64 q) (.slice bo m d))) (fun i _=>r - (intOf i).toNat)
 case atStart=>exact ⟨0,mo,mc,Nat.zero_le _,rfl,L0,HA,HA2⟩
 case round =>
  clear L0 HA HA2 t0 t1 t2
  obtain ⟨j,no,nc,hj,rfl,hL,hA,hA2⟩:=hrel
  have t0:=(uH hA).c0;have t1:=(uH hA).c1;have t2:=(uH hA).c2
  have v0:=(uH hA2).c0;have v1:=(uH hA2).c1;have v2:=(uH hA2).c2
  by_cases hlt:j < r
  ·have hjI:(j:Int) < (r:Int):=by omega
   go_wp2_with fail
   go_loopw [7] (fun i wr=>∃ (k:Nat) (no:Option Addr) (nc:Nat),k≤q∧i = .int .i64 k∧Hid (LpSt w wr g (w.heap.size+1+1) r q no nc (mkM r q (fiR f j k)))∧Hid (BoxM wr w.heap.size (.int .i64 r) (.int .i64 c) (.slice ao l cap))∧Hid (BoxM wr (w.heap.size+1) (.int .i64 c) (.int .i64 q) (.slice bo m d))) (fun i _=>q - (intOf i).toNat)
   case atStart=>exact ⟨0,no,nc,Nat.zero_le _,rfl,hL,hA,hA2⟩
   case round =>
    clear hL hA hA2 t0 t1 t2 v0 v1 v2 no nc
    obtain ⟨k,no,nc,hk,rfl,hL,hA,hA2⟩:=hrel
    have t0:=(uH hA).c0;have t1:=(uH hA).c1;have t2:=(uH hA).c2
    have v0:=(uH hA2).c0;have v1:=(uH hA2).c1;have v2:=(uH hA2).c2
    by_cases hkc:k < q
    ·have hkI:(k:Int) < (q:Int):=by omega
     have y0:=(uH hL).box.c0;have y1:=(uH hL).box.c1;have y2:=(uH hL).box.c2
     have C1:=hide (fun w' (x:Mx w' ao cap r c S)=>rrow_any r c cap j ao S w' x hlt)
     have C2:=hide (fun w' (x:Mx w' bo d c q T)=>rcol_any c q d k bo T w' x hkc)
     have C3:=hide (fun w' uo ud vo vd (x:BitsAt w' uo ud (mxL (rwL c S j))) (y:BitsAt w' vo vd (mxL (clL c q T k)))=>r9dot_any uo vo ud vd _ _ w' x y (by rw [mxL_len,mxL_len,rwL_len,clL,fsL_len]) (by rw [mxL_len,rwL_len];omega))
     rw [mxL_len,mxL_len,rwL_len,show (clL c q T k).length = c from fsL_len _ _,uH HF j k] at C3
     have C4:=hide (fun w' no nc (x:Mx w' no nc r q (mkM r q (fiR f j k)))=>rwith_any r q nc j k (f j k) no (mkM r q (fiR f j k)) w' x hlt hkc (by rw [← uH HF j k];exact dtK_lt _ _ _))
     rw [fiR_step r q f hlt hkc] at C4
     rw [uH HLL] at C1
     rw [uH HMM] at C2
     have HMA:=hide ((uH HH).below (uH hL).bel);have HMB:=hide ((uH HG).below (uH hL).bel)
     have HP:=hide (show (mkM r q (fiR f j k)).length = r * q from mkM_len _ _ _)
     generalize f j k = x at *
     generalize mkM r q (fiR f j k) = U at *
     generalize hT2:mkM r q (fiR f j (k+1)) = T2 at *
     have HT2:=hide hT2
     clear hT2
     generalize mxL (rwL c S j) = RW at *
     generalize mxL (clL c q T k) = CL at *
     go_wp2_with fail
     go_region_with (first | (go_at_call 39;refine (uH C1 _ (by exact uH HMA)).mono ?_;rintro e w4 ⟨uo,ud,rfl,qu,hb3⟩;(first | (have hb4:=Below.trans ((Below.refl _ _).drew) hb3) | (have hb4:=hb3));replace hL:=hide ((uH hL).all hb4);replace hA:=hide ((uH hA).all hb4);replace hA2:=hide ((uH hA2).all hb4);(first | (replace HMB:=hide ((uH HMB).below hb4)) | skip);(first | (replace HV:=hide ((uH HV).below hb4)) | skip);have HU:=hide qu;clear HMA t0 t1 t2 v0 v1 v2 y0 y1 y2;have t0:=(uH hA).c0;have t1:=(uH hA).c1;have t2:=(uH hA).c2;have v0:=(uH hA2).c0;have v1:=(uH hA2).c1;have v2:=(uH hA2).c2;have y0:=(uH hL).box.c0;have y1:=(uH hL).box.c1;have y2:=(uH hL).box.c2;clear hb3 hb4 qu C1) | (go_at_call 26;refine (uH C2 _ (by exact uH HMB)).mono ?_;rintro e w5 ⟨vo,vd,rfl,qv,hb3⟩;(first | (have hb4:=Below.trans ((Below.refl _ _).drew) hb3) | (have hb4:=hb3));replace hL:=hide ((uH hL).all hb4);replace hA:=hide ((uH hA).all hb4);replace hA2:=hide ((uH hA2).all hb4);(first | (replace HMA:=hide ((uH HMA).below hb4)) | skip);(first | (replace HU:=hide ((uH HU).below hb4)) | skip);have HV:=hide qv;clear HMB t0 t1 t2 v0 v1 v2 y0 y1 y2;have t0:=(uH hA).c0;have t1:=(uH hA).c1;have t2:=(uH hA).c2;have v0:=(uH hA2).c0;have v1:=(uH hA2).c1;have v2:=(uH hA2).c2;have y0:=(uH hL).box.c0;have y1:=(uH hL).box.c1;have y2:=(uH hL).box.c2;clear hb3 hb4 qv C2) | (go_at_call 38;refine (uH C3 _ _ _ _ _ (uH HU) (uH HV)).mono ?_;rintro e w6 ⟨rfl,hb4⟩;replace hL:=hide ((uH hL).all hb4);replace hA:=hide ((uH hA).all hb4);replace hA2:=hide ((uH hA2).all hb4);clear t0 t1 t2 v0 v1 v2 y0 y1 y2;have y0:=(uH hL).box.c0;have y1:=(uH hL).box.c1;have y2:=(uH hL).box.c2;clear hb4 HU HV) | (go_at_call 37;refine (uH C4 _ _ _ ⟨(uH hL).bits,uH HP,hr6,hq6⟩).mono ?_;rintro e w7 ⟨v,rfl,⟨no5,nc5,rfl,_,q5⟩,hb5⟩;clear y0 y1 y2;have L5:=(uH hL).all hb5;have A5:=(uH hA).all hb5;have A6:=(uH hA2).all hb5;have y0:=L5.box.c0;have y1:=L5.box.c1;have y2:=L5.box.c2;have f0:=L5.box.free 0;have f1:=L5.box.free 1;have f2:=L5.box.free 2;have L6:=hide (L5.put q5);have HA6:=hide (((A5.other (p:=⟨g,0,none⟩) (uH NE) (.int .i64 r)).other (p:=⟨g,1,none⟩) (uH NE) (.int .i64 q)).other (p:=⟨g,2,none⟩) (uH NE) (.slice no5 T2.length nc5));have HA7:=hide (((A6.other (p:=⟨g,0,none⟩) (uH NE2) (.int .i64 r)).other (p:=⟨g,1,none⟩) (uH NE2) (.int .i64 q)).other (p:=⟨g,2,none⟩) (uH NE2) (.slice no5 T2.length nc5));clear hb5 L5 A5 A6 q5 hL hA hA2) | fail "NO ARM")
     all_goals
      clear C3 C4 y0 y1 y2 f0 f1 f2
      go_wp2_with fail
      go_round
      case rel=>exact ⟨k+1,no5,nc5,by omega,by go_num,by rw [uH HT2];exact L6,HA6,HA7⟩
      case measure=>simp [intOf];omega
    ·have hkk:q = k:=by omega
     subst hkk
     have hL':=hide (show LpSt w _ g (w.heap.size+1+1) r q no nc (mkM r q (fiR f (j+1) 0)) from by rw [← fiR_row r q f j];exact uH hL)
     clear hL
     go_wp2_with fail
     go_round
     case rel=>exact ⟨j+1,no,nc,by omega,by go_num,hL',hA,hA2⟩
     case measure=>simp [intOf];omega
  ·have hjj:r = j:=by omega
   subst hjj
   rw [fiR_all] at hL
   have y0:=(uH hL).box.c0;have y1:=(uH hL).box.c1;have y2:=(uH hL).box.c2
   have r0:=(uH hL).res.c0;have r1:=(uH hL).res.c1;have r2:=(uH hL).res.c2
   have f0:=(uH hL).res.free 0;have f1:=(uH hL).res.free 1;have f2:=(uH hL).res.free 2
   have XP:=(uH hL).res.put (.int .i64 r) (.int .i64 q) (.slice no (mkM r q f).length nc)
   have z0:=XP.c0;have z1:=XP.c1;have z2:=XP.c2
   have Q:=hide (BitsAt.putM (uH hL).bits (uH hL).res (.int .i64 r) (.int .i64 q) (.slice no (mkM r q f).length nc))
   have BP:=hide (below_putM (uH hL).bel (b:=w.heap.size+1+1) (by omega) (.int .i64 r) (.int .i64 q) (.slice no (mkM r q f).length nc))
   clear XP hL
   go_wp2
   exact bodyPost_ret (v:=.agg #[.int .i64 r,.int .i64 q,.slice no (mkM r q f).length nc]) (by simp [results,Tryz.results19,go_sem,z0,z1,z2]) rfl ⟨_,rfl,NewM.any (uH Q),uH BP⟩
end Go.Proofs.YtfkndkaneffgdaaGreatDoor
namespace Go.Proofs.YtfkndkaneffgdaaGreatDoor
open Go.RowKit
attribute [local go_sem ↓] Go.wp_at_zero Go.wp_at_succ
structure TdSt (w wr:World) (g:Nat) (r c:Int) (ao:Option Addr) (n cap:Nat) (p s:Int) (bo:Option Addr) (m d p1 p2:Nat) (so:Option Addr) (nS sd:Nat) (S:List Nat):Prop where
 bel:Below w.heap.size w wr
 q:BoxM wr w.heap.size (.int .i64 r) (.int .i64 c) (.slice ao n cap)
 b:BoxM wr (w.heap.size+1) (.int .i64 p) (.int .i64 s) (.slice bo m d)
 a:BoxM wr g (.int .i64 p1) (.int .i64 p2) (.slice so nS sd)
 bits:BitsAt wr so sd (mxL S)
theorem TdSt.all {w wr w':World} {g:Nat} {r c:Int} {ao:Option Addr} {n cap:Nat} {p s:Int} {bo:Option Addr} {m d p1 p2:Nat} {so:Option Addr} {nS sd:Nat} {S:List Nat} (h:TdSt w wr g r c ao n cap p s bo m d p1 p2 so nS sd S) (hb:Below wr.heap.size wr w'):TdSt w w' g r c ao n cap p s bo m d p1 p2 so nS sd S :=
 ⟨h.bel.trans (hb.mono h.bel.size),h.q.all hb,h.b.all hb,h.a.all hb,h.bits.below hb⟩
set_option maxRecDepth 20000 in
set_option maxHeartbeats 8000000 in
theorem qrTurned_of (r c:Int) (ao:Option Addr) (n cap:Nat) (p s:Int) (bo:Option Addr) (m d:Nat) (p1 p2:Nat) (S:List Nat) (f:Int) (o1 o2:Bool) (w:World)
  (way:(o1 = false∧f = 1∧p1 = 0∧p2 = 0∧S = []) ∨ (o1 = true∧o2 = false∧f = 1∧p1 = 0∧p2 = 0∧S = []) ∨ (o1 = true∧o2 = true∧¬ r = p∧f = 3∧p1 = 0∧p2 = 0∧S = []) ∨ (o1 = true∧o2 = true∧r = p∧f = 0)) (hS:S.length≤36)
  (C2:∀ w',Below w.heap.size w w'→Calls Tryz.prog 16 #[.agg #[.int .i64 r,.int .i64 c,.slice ao n cap],.agg #[.int .i64 p,.int .i64 s,.slice bo m d]] w' fun e w''=>∃ v,e = .returned (.tuple #[v,.int .i64 f])∧NewM w'.heap.size w'' p1 p2 S v∧Below w'.heap.size w' w'')
  (C5:okB r c n = o1) (C6:okB p s m = o2)
  (C7:f = 0→∀ w',Below w.heap.size w w'→Calls Tryz.prog 20 #[.agg #[.int .i64 r,.int .i64 c,.slice ao n cap]] w' fun e w''=>∃ v,e = .returned v∧(∀ w3,Below w''.heap.size w'' w3→Calls Tryz.prog 19 #[v,.agg #[.int .i64 p,.int .i64 s,.slice bo m d]] w3 fun e w4=>∃ u,e = .returned u∧NewM 0 w4 p1 p2 S u∧Below w3.heap.size w3 w4)∧Below w'.heap.size w' w'')
  (CA:∀ w',Below w.heap.size w w'→Calls Tryz.prog 11 #[] w' fun e w''=>e = .returned (.bool true)∧Below w'.heap.size w' w'') :
  Calls Tryz.prog 6 #[.agg #[.int .i64 r,.int .i64 c,.slice ao n cap],.agg #[.int .i64 p,.int .i64 s,.slice bo m d]] w fun e w'=>e = .returned (.bool true)∧Below w.heap.size w w':=by
 have WAY:=hide way;have HSl:=hide hS
 have K2:=hide C2;have K7:=hide C7;have KA:=hide CA
 have K5:=hide (fun w'=>rright_any r c ao n cap w');have K6:=hide (fun w'=>rright_any p s bo m d w')
 rw [C5] at K5
 rw [C6] at K6
 have KZ:=hide (fun w' ao cap=>rsame_any 0 0 ao none cap 0 [] w' (BitsAt.nilAt w' _ _) (BitsAt.nilAt w' _ _) (by simp))
 simp only [List.length_nil] at KZ
 have b0:=below_alloc9 w (.cells #[.int .i64 r,.int .i64 c,.slice ao n cap] 24)
 have s0:=size_alloc9 w (.cells #[.int .i64 r,.int .i64 c,.slice ao n cap] 24)
 have x0:=BoxM.new w (.int .i64 r) (.int .i64 c) (.slice ao n cap)
 have b1:=below_alloc9 (w.alloc (.cells #[.int .i64 r,.int .i64 c,.slice ao n cap] 24)) (.cells #[.int .i64 p,.int .i64 s,.slice bo m d] 24)
 have x1:=BoxM.new (w.alloc (.cells #[.int .i64 r,.int .i64 c,.slice ao n cap] 24)) (.int .i64 p) (.int .i64 s) (.slice bo m d)
 rw [s0] at x1
 have HB:=hide (b0.trans (b1.mono b0.size));have HQ:=hide (x0.all b1);have HX:=hide x1
 clear b0 s0 x0 b1 x1 way hS C2 C5 C6 C7 CA
 go_enter Tryz.func6,Tryz.ntmps6
 go_wp2_with fail
 refine (uH K2 _ (uH HB)).mono ?_
 rintro e w1 ⟨v,rfl,⟨so,sd,rfl,_,qs⟩,hb⟩
 have ba:=below_alloc9 w1 (.cells #[.int .i64 p1,.int .i64 p2,.slice so S.length sd] 24)
 have bel:=(uH HB).trans (hb.mono (uH HB).size)
 have ST:=hide (show TdSt w (w1.alloc (.cells #[.int .i64 p1,.int .i64 p2,.slice so S.length sd] 24)) w1.heap.size r c ao n cap p s bo m d p1 p2 so S.length sd S from ⟨bel.trans (ba.mono bel.size),((uH HQ).all hb).all ba,((uH HX).all hb).all ba,BoxM.new w1 _ _ _,qs.below ba⟩)
 clear hb ba bel HQ HX HB K2 qs
 have a0:=(uH ST).q.c0;have a1:=(uH ST).q.c1;have a2:=(uH ST).q.c2
 go_wp2_with fail
 clear a0 a1 a2
 generalize hg:w1.heap.size = g at *
 refine (uH K5 _).mono ?_
 rintro e w2 ⟨rfl,hb⟩
 replace ST:=hide ((uH ST).all hb)
 clear hb K5
 have e0:=(uH ST).b.c0;have e1:=(uH ST).b.c1;have e2:=(uH ST).b.c2
 have s0:=(uH ST).a.c0;have s1:=(uH ST).a.c1;have s2:=(uH ST).a.c2
 rcases uH WAY with ⟨rfl,rfl,rfl,rfl,rfl⟩ | ⟨rfl,rfl,rfl,rfl,rfl,rfl⟩ | ⟨rfl,rfl,hne,rfl,rfl,rfl,rfl⟩ | ⟨rfl,rfl,rfl,rfl⟩
 ·clear WAY K6 K7
  simp only [List.length_nil] at s2
  go_wp2_with fail
  refine (uH KZ _ _ _).mono ?_
  rintro e w8 ⟨rfl,hb⟩
  have BE:=hide ((uH ST).bel.trans (hb.mono (uH ST).bel.size))
  clear e0 e1 e2 s0 s1 s2 hb ST
  go_wp2_with fail
  refine (uH KA _ (uH BE)).mono ?_
  rintro e w19 ⟨rfl,hb⟩
  replace BE:=hide ((uH BE).trans (hb.mono (uH BE).size))
  clear hb
  go_wp2
  go_ret
  exact ⟨rfl,uH BE⟩
 all_goals
  go_wp2_with fail
  clear e0 e1 e2 s0 s1 s2
  refine (uH K6 _).mono ?_
  rintro e w3 ⟨rfl,hb⟩
  replace ST:=hide ((uH ST).all hb)
  clear hb K6
  have a0:=(uH ST).q.c0;have a1:=(uH ST).q.c1;have a2:=(uH ST).q.c2
  have e0:=(uH ST).b.c0;have e1:=(uH ST).b.c1;have e2:=(uH ST).b.c2
  have s0:=(uH ST).a.c0;have s1:=(uH ST).a.c1;have s2:=(uH ST).a.c2
 ·clear WAY K7
  simp only [List.length_nil] at s2
  go_wp2_with fail
  refine (uH KZ _ _ _).mono ?_
  rintro e w8 ⟨rfl,hb⟩
  have BE:=hide ((uH ST).bel.trans (hb.mono (uH ST).bel.size))
  clear a0 a1 a2 e0 e1 e2 s0 s1 s2 hb ST
  go_wp2_with fail
  refine (uH KA _ (uH BE)).mono ?_
  rintro e w19 ⟨rfl,hb⟩
  replace BE:=hide ((uH BE).trans (hb.mono (uH BE).size))
  clear hb
  go_wp2
  go_ret
  exact ⟨rfl,uH BE⟩
 ·clear WAY K7
  have hbe:(r == p) = false:=by rw [beq_eq_false_iff_ne];exact hne
  simp only [List.length_nil] at s2
  go_wp2_with fail
  refine (uH KZ _ _ _).mono ?_
  rintro e w8 ⟨rfl,hb⟩
  have BE:=hide ((uH ST).bel.trans (hb.mono (uH ST).bel.size))
  clear a0 a1 a2 e0 e1 e2 s0 s1 s2 hb ST
  go_wp2_with fail
  refine (uH KA _ (uH BE)).mono ?_
  rintro e w19 ⟨rfl,hb⟩
  replace BE:=hide ((uH BE).trans (hb.mono (uH BE).size))
  clear hb
  go_wp2
  go_ret
  exact ⟨rfl,uH BE⟩
 ·have G7:=hide (uH K7 (by first | rfl | trivial))
  clear WAY K7 KZ
  go_wp2_with fail
  refine at_world (fun W=>TdSt w W g r c ao n cap r s bo m d p1 p2 so S.length sd S) (uH ST) ?_
  clear a0 a1 a2 e0 e1 e2 s0 s1 s2 ST
  intro W st
  have ST:=hide st
  have HK:=hide (fun w' (h:Below W.heap.size W w')=>(show Below W.heap.size W w'∧(w'.cell? ⟨w.heap.size,0,none⟩ = some (.int .i64 r)∧w'.cell? ⟨w.heap.size,1,none⟩ = some (.int .i64 c)∧w'.cell? ⟨w.heap.size,2,none⟩ = some (.slice ao n cap))∧(w'.cell? ⟨w.heap.size+1,0,none⟩ = some (.int .i64 r)∧w'.cell? ⟨w.heap.size+1,1,none⟩ = some (.int .i64 s)∧w'.cell? ⟨w.heap.size+1,2,none⟩ = some (.slice bo m d))∧(w'.cell? ⟨g,0,none⟩ = some (.int .i64 p1)∧w'.cell? ⟨g,1,none⟩ = some (.int .i64 p2)∧w'.cell? ⟨g,2,none⟩ = some (.slice so S.length sd)) from
   have y:=st.all h;⟨h,⟨y.q.c0,y.q.c1,y.q.c2⟩,⟨y.b.c0,y.b.c1,y.b.c2⟩,y.a.c0,y.a.c1,y.a.c2⟩))
  have HW:=hide (fun w' (h:Below W.heap.size W w')=>st.bel.trans (h.mono st.bel.size))
  clear st
  go_region_held3 (fun w'=>Below W.heap.size W w'∧(w'.cell? ⟨w.heap.size,0,none⟩ = some (.int .i64 r)∧w'.cell? ⟨w.heap.size,1,none⟩ = some (.int .i64 c)∧w'.cell? ⟨w.heap.size,2,none⟩ = some (.slice ao n cap))∧(w'.cell? ⟨w.heap.size+1,0,none⟩ = some (.int .i64 r)∧w'.cell? ⟨w.heap.size+1,1,none⟩ = some (.int .i64 s)∧w'.cell? ⟨w.heap.size+1,2,none⟩ = some (.slice bo m d))∧(w'.cell? ⟨g,0,none⟩ = some (.int .i64 p1)∧w'.cell? ⟨g,1,none⟩ = some (.int .i64 p2)∧w'.cell? ⟨g,2,none⟩ = some (.slice so S.length sd)))
   (first | exact uH HK _ (Below.refl _ _).drew | exact uH HK _ (by assumption) | fail "KK")
   (first | (go_at_call 20;refine (uH G7 _ (uH HW _ (And.left (by assumption)))).mono ?_;rintro e w5 ⟨v,rfl,kt,hb5⟩;have hB5:Below W.heap.size W w5:=Below.trans (And.left (by assumption)) (hb5.mono (Below.size (And.left (by assumption))));have KT:=hide kt;clear kt hb5 G7) | (go_at_call 19;refine (uH KT _ (by first | exact (Below.refl _ _) | exact (Below.refl _ _).drew | exact below_drewN (Below.refl _ _) _)).mono ?_;rintro e w6 ⟨u,rfl,⟨uo,ud,rfl,_,qu⟩,hb6⟩;have hB6:Below W.heap.size W w6:=Below.trans (And.left (by assumption)) (hb6.mono (Below.size (And.left (by assumption))));have QU:=hide qu;clear qu hb6 KT) | (go_at_call 18;refine (rsame_any _ _ _ _ _ _ S _ (by exact ((uH ST).bits).below (And.left (by assumption))) (by exact uH QU) (by have:=uH HSl;omega)).mono ?_;rintro e w7 ⟨rfl,hb7⟩;have hB7:Below W.heap.size W w7:=Below.trans (And.left (by assumption)) (hb7.mono (Below.size (And.left (by assumption))));clear hb7) | (go_at_call 11;refine (uH KA _ (uH HW _ (And.left (by assumption)))).mono ?_;rintro e w8 ⟨rfl,hb8⟩;have hB8:Below W.heap.size W w8:=Below.trans (And.left (by assumption)) (hb8.mono (Below.size (And.left (by assumption))));clear hb8) | fail "NO ARM")
  all_goals
   have BE:=hide (uH HW _ (And.left (by assumption)))
   go_wp2
   go_ret
   exact ⟨rfl,uH BE⟩
theorem qrTurned_by (r c:Int) (ao:Option Addr) (cap:Nat) (I:List Int) (p s:Int) (bo:Option Addr) (d:Nat) (J:List Int) (w:World) (hI:BitsAt w ao cap I) (hJ:BitsAt w bo d J)
  (CF:∀ w',Below w.heap.size w w'→(okB r c I.length = false ∨ okB p s J.length = false)→Calls Tryz.prog 16 #[.agg #[.int .i64 r,.int .i64 c,.slice ao I.length cap],.agg #[.int .i64 p,.int .i64 s,.slice bo J.length d]] w' fun e w''=>∃ v,e = .returned (.tuple #[v,.int .i64 1])∧NewM w'.heap.size w'' 0 0 [] v∧Below w'.heap.size w' w'')
  (CS:∀ w',Below w.heap.size w w'→okB r c I.length = true→okB p s J.length = true→¬ r = p→Calls Tryz.prog 16 #[.agg #[.int .i64 r,.int .i64 c,.slice ao I.length cap],.agg #[.int .i64 p,.int .i64 s,.slice bo J.length d]] w' fun e w''=>∃ v,e = .returned (.tuple #[v,.int .i64 3])∧NewM w'.heap.size w'' 0 0 [] v∧Below w'.heap.size w' w'')
  (CY:∀ w' (r c s:Nat) S T,Below w.heap.size w w'→Mx w' ao cap r c S→Mx w' bo d r s T→Calls Tryz.prog 16 #[.agg #[.int .i64 r,.int .i64 c,.slice ao S.length cap],.agg #[.int .i64 r,.int .i64 s,.slice bo T.length d]] w' fun e w''=>∃ v,e = .returned (.tuple #[v,.int .i64 0])∧NewM w'.heap.size w'' c s (muM c r s (tuM r c S) T) v∧Below w'.heap.size w' w'')
  (CA:∀ w',Below w.heap.size w w'→Calls Tryz.prog 11 #[] w' fun e w''=>e = .returned (.bool true)∧Below w'.heap.size w' w'') :
  Calls Tryz.prog 6 #[.agg #[.int .i64 r,.int .i64 c,.slice ao I.length cap],.agg #[.int .i64 p,.int .i64 s,.slice bo J.length d]] w fun e w'=>e = .returned (.bool true)∧Below w.heap.size w w':=by
 cases h1:okB r c I.length
 ·exact qrTurned_of r c ao I.length cap p s bo J.length d 0 0 [] 1 false (okB p s J.length) w (.inl ⟨rfl,rfl,rfl,rfl,rfl⟩) (by simp) (fun w' hb=>CF w' hb (.inl h1)) h1 rfl (fun e=>by cases e) CA
 cases h2:okB p s J.length
 ·exact qrTurned_of r c ao I.length cap p s bo J.length d 0 0 [] 1 true false w (.inr (.inl ⟨rfl,rfl,rfl,rfl,rfl,rfl⟩)) (by simp) (fun w' hb=>CF w' hb (.inr h2)) h1 h2 (fun e=>by cases e) CA
 by_cases hp:r = p
 ·subst hp
  obtain ⟨a,b,rfl,rfl,hM,hS⟩:=Mx.of hI h1
  obtain ⟨a',e,ea,rfl,hN,hT⟩:=Mx.of hJ h2
  obtain rfl:a = a':=by omega
  have e1:=natL_len I
  have e2:=natL_len J
  have ls:(muM b a e (tuM a b (natL I)) (natL J)).length = b * e:=mkM_len _ _ _
  refine qrTurned_of a b ao I.length cap a e bo J.length d b e (muM b a e (tuM a b (natL I)) (natL J)) 0 true true w (.inr (.inr (.inr ⟨rfl,rfl,rfl,rfl⟩))) (by rw [ls];exact Nat.mul_le_mul hM.2.2.2 hN.2.2.2) (fun w' hb=>?_) h1 h2 (fun _ w' hb=>?_) CA
  ·have:=CY w' a b e (natL I) (natL J) hb (hM.below hb) (hN.below hb)
   rw [e1,e2] at this
   exact this
  ·have:=rturn_any a b cap ao (natL I) w' (hM.below hb)
   rw [e1] at this
   refine this.mono ?_
   rintro x w'' ⟨v,rfl,⟨vo,vc,rfl,_,hv⟩,hb2⟩
   refine ⟨_,rfl,fun w3 hb3=>?_,hb2⟩
   have hb4:=hb.trans (hb2.mono hb.size)
   have:=rmul10_any b a e vc d vo bo (tuM a b (natL I)) (natL J) w3 ⟨hv.below hb3,mkM_len _ _ _,hM.2.2.2,hM.2.2.1⟩ (hN.below (hb4.trans (hb3.mono hb4.size)))
   rw [e2] at this
   exact this
 ·exact qrTurned_of r c ao I.length cap p s bo J.length d 0 0 [] 3 true true w (.inr (.inr (.inl ⟨rfl,rfl,hp,rfl,rfl,rfl,rfl⟩))) (by simp) (fun w' hb=>CS w' hb h1 h2 hp) h1 h2 (fun e=>by cases e) CA
end Go.Proofs.YtfkndkaneffgdaaGreatDoor
namespace Go.Proofs.YtfkndkaneffgdaaGreatDoor
open Go.RowKit
theorem qr_awake_any (w:World) (hT:Tab w):∀ w',Below w.heap.size w w'→Calls Tryz.prog 11 #[] w' fun e w''=>e = .returned (.bool true)∧Below w'.heap.size w' w'' :=
 qr_awake w (fun w' ao cap r c S hb h hf hk=>qFactor_yes r c cap ao S w' h hf hk (hT.all hb))
theorem qrTurned_walk (r c:Int) (ao:Option Addr) (cap:Nat) (I:List Int) (p s:Int) (bo:Option Addr) (d:Nat) (J:List Int) (w:World) (hI:BitsAt w ao cap I) (hl:I.length≤17592186043904) (_hr:-9223372036854775808≤r∧r≤9223372036854775807) (_hc:-9223372036854775808≤c∧c≤9223372036854775807) (hJ:BitsAt w bo d J) (hlj:J.length≤17592186043904) (_hp:-9223372036854775808≤p∧p≤9223372036854775807) (_hs:-9223372036854775808≤s∧s≤9223372036854775807) (hT:Tab w) :
  Calls Tryz.prog 6 #[.agg #[.int .i64 r,.int .i64 c,.slice ao I.length cap],.agg #[.int .i64 p,.int .i64 s,.slice bo J.length d]] w fun e w'=>e = .returned (.bool true)∧Below w.heap.size w w' :=
 qrTurned_by r c ao cap I p s bo d J w hI hJ (fun w' hb h=>qTurned_form r c ao cap I p s bo d J w' (hI.below hb) hl hlj h) (fun w' hb h1 h2 hne=>qTurned_shape r c ao cap I p s bo d J w' (hI.below hb) (hJ.below hb) h1 h2 hne) (fun w' r c s S T hb h h2=>qTurned_yes r c s cap d ao bo S T w' h h2 (hT.all hb)) (qr_awake_any w hT)
end Go.Proofs.YtfkndkaneffgdaaGreatDoor
namespace Go.Proofs.YtfkndkaneffgdaaGreatDoor
open Go.ChangeShapes Go.WideShapes Go.ChangeAt Go.RowKit Go.Joins
theorem Tryz.own:ownKnob Tryz.prog.godebug = none:=by kernel_rfl
theorem Tryz.laidOut:laidOutB Tryz.prog = true:=by kernel_rfl
end Go.Proofs.YtfkndkaneffgdaaGreatDoor
namespace Go.Proofs.YtfkndkaneffgdaaGreatDoor
theorem bounds_of_i64 {x:Int} (h:(Lit.int .i64 x).wf = true):-9223372036854775808≤x∧x≤9223372036854775807:=by
 simp [Lit.wf,IntKind.min,IntKind.max,IntKind.signed,IntKind.bits] at h
 omega
end Go.Proofs.YtfkndkaneffgdaaGreatDoor
