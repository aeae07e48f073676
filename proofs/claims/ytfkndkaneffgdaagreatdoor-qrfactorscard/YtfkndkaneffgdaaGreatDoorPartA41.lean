/- Part 41 of the texts. -/
import Derived.Test.YtfkndkaneffgdaaGreatDoorPartA40
import Derived.Test.YtfkndkaneffgdaaGreatDoorPartA39
import Derived.Test.YtfkndkaneffgdaaGreatDoorPartA32
import Derived.Test.YtfkndkaneffgdaaGreatDoorPartA37
import Derived.Test.YtfkndkaneffgdaaGreatDoorPartA33
import Derived.Test.YtfkndkaneffgdaaGreatDoorPartA34
namespace Go.Proofs.YtfkndkaneffgdaaGreatDoor
open Go.RowKit
attribute [local go_sem ↓] Go.wp_at_zero Go.wp_at_succ
set_option maxRecDepth 20000 in
set_option maxHeartbeats 8000000 in
theorem mirrored_of (r c n cap i k L vc tau:Nat) (ao vo:Option Addr) (T:Nat→Nat→List Nat) (X:Nat→List Int) (P U:Nat→Nat→Nat) (t:Nat→Nat) (w:World) (h36:n≤36) (h6:c≤6) (hr6:r≤6) (hil:i+L≤r) (hk:k≤c)
  (hS:BitsAt w ao cap (mxL (T k 0))) (lT:∀ d j,(T d j).length = n) (hnext:∀ d,T d L = T (d+1) 0)
  (hP:∀ d j,k≤d→d < c→j < L→P d j < n∧(i+j) * c+d = P d j∧(T d j).set (P d j) (U d j) = T d (j+1))
  (C1:∀ w' d,Below w.heap.size w w'→k≤d→d < c→Calls Tryz.prog 31 #[.agg #[.int .i64 r,.int .i64 c,.slice ao n cap],.int .i64 i,.int .i64 (d:Nat),.int .i64 L,.int .i64 1] w' fun e w''=>∃ po pc,e = .returned (.tuple #[.agg #[.int .i64 L,.int .i64 1,.slice po L pc],.int .i64 0])∧NewB w'.heap.size po (X d)∧BitsAt w'' po pc (X d)∧Below w'.heap.size w' w'')
  (C2:∀ w' d po pc,Below w.heap.size w w'→k≤d→d < c→BitsAt w' po pc (X d)→Calls Tryz.prog 99 #[.slice po L pc,.slice vo L vc,.int .u64 tau] w' fun e w''=>∃ v,e = .returned v∧ImAt w'' v w'.heap.size po vo L pc L vc (t d)∧Below w'.heap.size w' w'')
  (C3:∀ w' d j po pc bx bt bv,Below w.heap.size w w'→k≤d→d < c→j < L→BitsAt w' po pc (X d)→w'.cell? ⟨bx,0,none⟩ = some (.slice po L pc)→w'.cell? ⟨bt,0,none⟩ = some (.int .u64 (t d:Nat))→w'.cell? ⟨bv,0,none⟩ = some (.slice vo L vc)→Calls Tryz.prog 120 #[.int .i64 (j:Nat),.pointer (some ⟨bx,0,none⟩),.pointer (some ⟨bt,0,none⟩),.pointer (some ⟨bv,0,none⟩)] w' fun e w''=>e = .returned (.int .u64 (U d j:Nat))∧Below w'.heap.size w' w'') :
  Calls Tryz.prog 76 #[.agg #[.int .i64 r,.int .i64 c,.slice ao n cap],.int .i64 i,.int .i64 k,.slice vo L vc,.int .u64 tau] w fun e w'=>∃ g,e = .returned (.agg #[.int .i64 r,.int .i64 c,.slice (some ⟨g,0,none⟩) n n])∧w.heap.size≤g∧RowB w' g (T c 0)∧Below w.heap.size w w':=by
 have ST:=hide (MiSt.start w r c n cap ao)
 have hmk:=run_make_row' (P:=Tryz.prog) 22 30 (.int .u64 0) 8 Tryz.underlying22 (by kernel_rfl) rfl .i64 .i64 n (by omega) (by omega)
 have HP:=hide hP;have K1:=hide C1;have K2:=hide C2;have K3:=hide C3;have LT:=hide lT;have HX:=hide hnext
 obtain ⟨w5,hcp,hr5,hb5⟩:=copy_run _ (w.heap.size+1+1) n cap ao (T k 0) (uH ST).row (hS.below (uH ST).bel) (lT k 0)
 have ST5:=hide ((uH ST).copied hb5 hr5)
 clear hP C1 C2 C3 lT hS hr5 hb5 hnext
 have y0:=(uH ST).m.c0;have y1:=(uH ST).m.c1;have y2:=(uH ST).m.c2
 go_enter Tryz.func76,Tryz.ntmps76
 go_wp2_with fail
 clear hmk hcp y0 y1 y2 ST
 go_loopw [12] (fun a wr=>∃ d:Nat,k≤d∧d≤c∧a = .int .i64 d∧Hid (MiSt w wr r c n cap ao (T d 0))) (fun a _=>c - (intOf a).toNat)
 case atStart=>exact ⟨k,Nat.le_refl _,hk,rfl,ST5⟩
 case round =>
  clear ST5
  obtain ⟨d,hkd,hdc,rfl,hS⟩:=hrel
  by_cases hlt:d < c
  ·have hdI:(d:Int) < (c:Int):=by omega
   have y0:=(uH hS).m.c0;have y1:=(uH hS).m.c1;have y2:=(uH hS).m.c2
   go_wp2_with fail
   clear y0 y1 y2
   refine (uH K1 _ d (uH hS).bel hkd hlt).mono ?_
   rintro e w2 ⟨po,pc,rfl,hn,hx,hb⟩
   have S2:=hide ((uH hS).all hb)
   have HN:=hide (NewB.least hn (show w.heap.size+1+1+1≤wr.heap.size from (uH hS).row.lt))
   have HB:=hide hx
   clear hn hx hb hS
   go_wp2_with fail
   have ba:=below_alloc9 w2 (.cells #[.int .i64 L,.int .i64 1,.slice po L pc] 24)
   replace S2:=hide ((uH S2).all ba)
   replace HB:=hide ((uH HB).below ba)
   clear ba
   have HL:=hide (show w.heap.size+1+1+1≤(w2.alloc (.cells #[.int .i64 L,.int .i64 1,.slice po L pc] 24)).heap.size from (uH S2).row.lt)
   refine (uH K2 _ d po pc (uH S2).bel hkd hlt (uH HB)).mono ?_
   rintro e w3 ⟨v,rfl,hv,hb⟩
   obtain ⟨bx,bt,bv,rfl,l1,l2,l3,c1,c2,c3⟩:=hv.ex
   have S3:=hide (show MjSt w w3 r c n cap ao (T d 0) bx bt bv po vo L pc vc (t d) (X d) from ⟨(uH S2).all hb,Nat.le_trans (uH HL) l1,Nat.le_trans (uH HL) l2,Nat.le_trans (uH HL) l3,c1,c2,c3,(uH HB).below hb,uH HN⟩)
   clear hv hb l1 l2 l3 c1 c2 c3 S2 HN HB HL
   have KC:=hide (fun w' j hb hj hx h1 h2 h3=>uH K3 w' d j po pc bx bt bv hb hkd hlt hj hx h1 h2 h3)
   have HPD:=hide (fun j hj=>uH HP d j hkd hlt hj)
   have LTD:=hide (uH LT d)
   have HXD:=hide (uH HX d)
   generalize hTD:T d = TD at *
   generalize hUD:U d = UD at *
   generalize hPD:P d = PD at *
   generalize t d = td at *
   generalize X d = XD at *
   go_wp2_with fail
   go_loopw [48] (fun a wr=>∃ j:Nat,j≤L∧a = .int .i64 j∧Hid (MjSt w wr r c n cap ao (TD j) bx bt bv po vo L pc vc td XD)) (fun a _=>L - (intOf a).toNat)
   case atStart=>exact ⟨0,Nat.zero_le _,rfl,S3⟩
   case round =>
    clear S3
    obtain ⟨j,hj,rfl,hS⟩:=hrel
    by_cases hjl:j < L
    ·have hjI:(j:Int) < (L:Int):=by omega
     obtain ⟨hp,hpe,hset⟩:=uH HPD j hjl
     have KJ:=hide (fun w' hb hx h1 h2 h3=>uH KC w' j hb hjl hx h1 h2 h3)
     have LL:=hide (uH LTD j);have HN:=hide hset
     clear hset
     obtain ⟨a,ha⟩:∃ a,i+j = a:=⟨_,rfl⟩
     rw [ha] at hpe
     obtain ⟨q,hq⟩:∃ q,a * c = q:=⟨_,rfl⟩
     rw [hq] at hpe
     have e1:IntKind.i64.wrap ((i:Int)+(j:Int)) = (a:Int):=(wrap_in _ (by omega)).trans (by omega)
     have e2:IntKind.i64.wrap ((a:Int) * (c:Int)) = (q:Int):=by
      rw [cast_mul10 a c,hq]
      exact wrap_in _ (by omega)
     have e3:IntKind.i64.wrap ((q:Int)+(d:Int)) = (PD j:Int):=(wrap_in _ (by omega)).trans (by omega)
     have e4:(i:Int)+(j:Int) = (a:Int):=by omega
     have e5:(a:Int) * (c:Int) = (q:Int):=by rw [cast_mul10 a c,hq]
     have e6:(q:Int)+(d:Int) = (PD j:Int):=by omega
     have w1:IntKind.i64.wrap (a:Int) = (a:Int):=wrap_in _ (by omega)
     have w2:IntKind.i64.wrap (q:Int) = (q:Int):=wrap_in _ (by omega)
     have w3:IntKind.i64.wrap (PD j:Int) = (PD j:Int):=wrap_in _ (by omega)
     generalize hTT:TD j = TT at *
     generalize hTN:TD (j+1) = TN at *
     generalize PD j = p at *
     generalize UD j = u at *
     have hpI:(p:Int) < (n:Int):=by omega
     clear hq hpe ha
     go_wp2_with fail
     refine at_world (fun W=>MjSt w W r c n cap ao TT bx bt bv po vo L pc vc td XD) (uH hS) ?_
     clear hS
     intro W st
     have ST:=hide (st.all ((Below.refl W.heap.size W).drew))
     clear st
     have y1:=(uH ST).st.m.c1
     go_region_with (first
      | (go_at_call 120;refine (uH KJ _ (uH ST).st.bel (uH ST).x (uH ST).cx (uH ST).ct (uH ST).cv).mono ?_;rintro e w8 ⟨rfl,hb⟩;clear y1;have S8:=(uH ST).all hb;have y1:=S8.st.m.c1;have d1:=S8.st.row.cell p (by rw [uH LL];exact hp);have f1':=S8.st.row.free p;have P9:=hide (S8.set p u);clear S8 hb ST KJ)
      | fail "NO ARM")
     all_goals
      clear d1 f1' y1
      go_wp2_with fail
      go_round
      case rel=>exact ⟨j+1,by omega,by go_num,by rw [hTN,← uH HN];exact P9⟩
      case measure=>simp [intOf];omega
    ·have hjj:j = L:=by omega
     subst hjj
     have S4:=hide (uH hS).st
     rw [uH HXD] at S4
     clear hS
     go_wp2_with fail
     go_round
     case rel=>exact ⟨d+1,by omega,by omega,by go_num,S4⟩
     case measure=>simp [intOf];omega
  ·have hdd:d = c:=by omega
   subst hdd
   obtain ⟨h6,h1,h4,h5⟩:=uH hS
   have y0:=h1.c0;have y1:=h1.c1;have y2:=h1.c2
   have r0:=h4.c0;have r1:=h4.c1;have r2:=h4.c2
   have f0:=h4.free 0;have f1:=h4.free 1;have f2:=h4.free 2
   have XP:=h4.put (.int .i64 r) (.int .i64 d) (.slice (some ⟨w.heap.size+1+1,0,none⟩) n n)
   have z0:=XP.c0;have z1:=XP.c1;have z2:=XP.c2
   have RW:=hide (h5.three (g:=w.heap.size+1) (by omega) (.int .i64 r) (.int .i64 d) (.slice (some ⟨w.heap.size+1+1,0,none⟩) n n))
   have BP:=hide (below_putM h6 (b:=w.heap.size+1) (by omega) (.int .i64 r) (.int .i64 d) (.slice (some ⟨w.heap.size+1+1,0,none⟩) n n))
   clear XP h1 h4 h5 h6 hS
   go_wp2_with fail
   exact bodyPost_ret (v:=.agg #[.int .i64 r,.int .i64 d,.slice (some ⟨w.heap.size+1+1,0,none⟩) n n]) (by simp [results,Tryz.results76,go_sem,z0,z1,z2]) rfl ⟨_,rfl,by omega,uH RW,uH BP⟩
end Go.Proofs.YtfkndkaneffgdaaGreatDoor
namespace Go.Proofs.YtfkndkaneffgdaaGreatDoor
open Go.RowKit
attribute [local go_sem ↓] Go.wp_at_zero Go.wp_at_succ
set_option maxRecDepth 20000 in
set_option maxHeartbeats 4000000 in
theorem happly_form (r c:Int) (ao:Option Addr) (n cap:Nat) (i k:Int) (vo:Option Addr) (L vc tau:Nat) (w:World)
  (C1:∀ w',Calls Tryz.prog 40 #[.agg #[.int .i64 r,.int .i64 c,.slice ao n cap]] w' fun e w''=>e = .returned (.int .i64 1)∧Below w'.heap.size w' w'') :
  Calls Tryz.prog 43 #[.agg #[.int .i64 r,.int .i64 c,.slice ao n cap],.int .i64 i,.int .i64 k,.slice vo L vc,.int .u64 tau] w fun e w'=>∃ v,e = .returned (.tuple #[v,.int .i64 1])∧NewM w.heap.size w' 0 0 [] v∧Below w.heap.size w w':=by
 have K:=hide (C1 ((w.alloc (.cells #[.int .i64 r,.int .i64 c,.slice ao n cap] 24)).alloc (.cells #[.int .i64 0,.int .i64 0,.slice none 0 0] 24)))
 simp only [size_alloc9] at K
 have KB:=hide (boxes2 w (.int .i64 r) (.int .i64 c) (.slice ao n cap) (.int .i64 0) (.int .i64 0) (.slice none 0 0))
 clear C1
 go_enter Tryz.func43,Tryz.ntmps43
 go_wp2_with fail
 refine Calls.mono (uH K) ?_
 rintro e w1 ⟨rfl,hb1⟩
 obtain ⟨hB,hA,hX⟩:=uH KB w1 hb1
 clear K KB hb1 hA
 have f0:=hX.free 0;have f1:=hX.free 1;have f2:=hX.free 2
 have s0:=hX.c0;have s1:=hX.c1;have s2:=hX.c2
 have XP:=hX.put (.int .i64 0) (.int .i64 0) (.slice none 0 0)
 have z0:=XP.c0;have z1:=XP.c1;have z2:=XP.c2
 have BP:=hide (below_putM hB (b:=w.heap.size+1) (by omega) (.int .i64 0) (.int .i64 0) (.slice none 0 0))
 clear XP hX hB
 go_wp2
 refine bodyPost_ret (v:=.tuple #[.agg #[.int .i64 0,.int .i64 0,.slice none 0 0],_]) (by simp [results,Tryz.results43,go_sem,z0,z1,z2]) rfl ⟨_,rfl,NewM.zero _ _,uH BP⟩
set_option maxRecDepth 20000 in
set_option maxHeartbeats 4000000 in
theorem happly_of (r c n cap i k L vc tau:Nat) (ao vo:Option Addr) (S:List Nat) (w:World) (hr:r≤6) (hi:i+L≤r) (hk:k≤c) 
  (C1:∀ w',Calls Tryz.prog 40 #[.agg #[.int .i64 r,.int .i64 c,.slice ao n cap]] w' fun e w''=>e = .returned (.int .i64 0)∧Below w'.heap.size w' w'')
  (C2:∀ w',Below w.heap.size w w'→Calls Tryz.prog 76 #[.agg #[.int .i64 r,.int .i64 c,.slice ao n cap],.int .i64 i,.int .i64 k,.slice vo L vc,.int .u64 tau] w' fun e w''=>∃ g,e = .returned (.agg #[.int .i64 r,.int .i64 c,.slice (some ⟨g,0,none⟩) n n])∧w'.heap.size≤g∧RowB w'' g S∧Below w'.heap.size w' w'') :
  Calls Tryz.prog 43 #[.agg #[.int .i64 r,.int .i64 c,.slice ao n cap],.int .i64 i,.int .i64 k,.slice vo L vc,.int .u64 tau] w fun e w'=>∃ g,e = .returned (.tuple #[.agg #[.int .i64 r,.int .i64 c,.slice (some ⟨g,0,none⟩) n n],.int .i64 0])∧w.heap.size+2≤g∧RowB w' g S∧Below w.heap.size w w':=by
 have K:=hide (C1 ((w.alloc (.cells #[.int .i64 r,.int .i64 c,.slice ao n cap] 24)).alloc (.cells #[.int .i64 0,.int .i64 0,.slice none 0 0] 24)))
 simp only [size_alloc9] at K
 have KB:=hide (boxes2 w (.int .i64 r) (.int .i64 c) (.slice ao n cap) (.int .i64 0) (.int .i64 0) (.slice none 0 0))
 have K2:=hide C2
 have HZ:=hide (show w.heap.size+2≤((w.alloc (.cells #[.int .i64 r,.int .i64 c,.slice ao n cap] 24)).alloc (.cells #[.int .i64 0,.int .i64 0,.slice none 0 0] 24)).heap.size by rw [size_alloc9,size_alloc9];omega)
 have hw:IntKind.i64.wrap ((r:Int) - (L:Int)) = (r:Int) - (L:Int):=wrap_in _ (by omega)
 have h1:(i:Int)≤(r:Int) - (L:Int):=by omega
 have h2:(k:Int)≤(c:Int):=by omega
 clear C1 C2
 go_enter Tryz.func43,Tryz.ntmps43
 go_wp2_with fail
 refine Calls.mono (uH K) ?_
 rintro e w1 ⟨rfl,hb1⟩
 obtain ⟨hB,hA,hX⟩:=uH KB w1 hb1
 have HG1:=hide (Nat.le_trans (uH HZ) hb1.size)
 clear K KB hb1 HZ
 have a0:=hA.c0;have a1:=hA.c1;have a2:=hA.c2
 have HB:=hide hB;have HX:=hide hX
 clear hB hA hX
 go_wp2_with fail
 clear a0 a1 a2
 refine (uH K2 _ (uH HB)).mono ?_
 rintro e w2 ⟨g,rfl,hg,hr,hb⟩
 have hB:=(uH HB).trans (hb.mono (uH HB).size)
 have hX:=(uH HX).all hb
 have HG:=hide (Nat.le_trans (uH HG1) hg)
 have f0:=hX.free 0;have f1:=hX.free 1;have f2:=hX.free 2
 have s0:=hX.c0;have s1:=hX.c1;have s2:=hX.c2
 have XP:=hX.put (.int .i64 r) (.int .i64 c) (.slice (some ⟨g,0,none⟩) n n)
 have z0:=XP.c0;have z1:=XP.c1;have z2:=XP.c2
 have Q:=hide (hr.three (g:=w.heap.size+1) (by have:=uH HG;omega) (.int .i64 r) (.int .i64 c) (.slice (some ⟨g,0,none⟩) n n))
 have BP:=hide (below_putM hB (b:=w.heap.size+1) (by omega) (.int .i64 r) (.int .i64 c) (.slice (some ⟨g,0,none⟩) n n))
 clear hB hX hb hg hr XP HB HX K2 HG1
 go_wp2
 exact bodyPost_ret (v:=.tuple #[.agg #[.int .i64 r,.int .i64 c,.slice (some ⟨g,0,none⟩) n n],.int .i64 0]) (by simp [results,Tryz.results43,go_sem,z0,z1,z2]) rfl ⟨_,rfl,uH HG,uH Q,uH BP⟩
theorem apM_lt {r c:Nat} {S:List Nat} (hS:∀ p q,elM c S p q < 18446744073709551616) (i k:Nat) (vs:List Nat) (tau:Nat):∀ x ∈ apM r c S i k vs tau,x < 18446744073709551616:=by
 intro x hx
 unfold apM mkM at hx
 obtain ⟨p,_,rfl⟩:=List.mem_map.1 hx
 show (if _ then _ else _) < _
 split
 ·rename_i g
  exact apL_lt c S i _ vs tau (by omega) hS
 ·exact hS _ _
theorem pa_col (c:Nat) (S:List Nat) (i d n:Nat):paM c S i d n 1 = colL c S i n d:=by
 unfold paM mkM colL
 rw [Nat.mul_one]
 refine List.map_congr_left (fun p _=>?_)
 show elM c S (i+p / 1) (d+p % 1) = _
 rw [Nat.div_one,Nat.mod_one,Nat.add_zero]
theorem hApply_row (r c cap i k vc tau:Nat) (ao vo:Option Addr) (S vs:List Nat) (w:World) (h:Mx w ao cap r c S) (hV:BitsAt w vo vc (mxL vs)) (hi:i+vs.length≤r) (hk:k≤c) (ht:tau < 18446744073709551616) (hT:Tab w) :
  Calls Tryz.prog 43 #[.agg #[.int .i64 r,.int .i64 c,.slice ao S.length cap],.int .i64 i,.int .i64 k,.slice vo vs.length vc,.int .u64 tau] w fun e w'=>∃ g,e = .returned (.tuple #[.agg #[.int .i64 r,.int .i64 c,.slice (some ⟨g,0,none⟩) S.length S.length],.int .i64 0])∧w.heap.size+2≤g∧RowB w' g (apM r c S i k vs tau)∧Below w.heap.size w w':=by
 have h36:=h.small
 have r6:=h.2.2.1
 have c6:=h.2.2.2
 refine happly_of r c S.length cap i k vs.length vc tau ao vo (apM r c S i k vs tau) w r6 hi hk (fun w'=>?_) (fun w' hb=>?_)
 ·have:=mcheck_any (r:Int) (c:Int) ao S.length cap w' (by omega)
  rw [if_pos (mx_ok h)] at this
  exact this
 have hM:=h.below hb
 have hV':=hV.below hb
 have hT':=hT.all hb
 rw [← apJ_all r c S i k vs tau c (Nat.le_refl _)]
 refine mirrored_of r c S.length cap i k vs.length vc tau ao vo (fun d j=>apJ r c S i k vs tau d j) (fun d=>mxL (colL c S i vs.length d)) (fun d j=>(i+j) * c+d) (fun d j=>(apL c S i d vs tau).getD j 0) (fun d=>mV tau (dtV 0 vs (colL c S i vs.length d))) w' h36 c6 r6 hi hk
  (by show BitsAt w' ao cap (mxL (apJ r c S i k vs tau k 0));rw [apJ_0 r c S i k vs tau h.2.1];exact hM.1) (fun d j=>by rw [apJ_len,h.2.1]) (fun d=>apJ_next r c S i k vs tau d)
  (fun d j hd hdc hj=>⟨by rw [h.2.1];exact place_lt (by omega) hdc,rfl,apJ_set r c S hi hdc hd hj⟩) (fun w'' d hb2 hd hdc=>?_) (fun w'' d po pc hb2 hd hdc hX=>?_) (fun w'' d j po pc bx bt bv hb2 hd hdc hj hX hx ht' hv=>?_)
 ·refine (mPart_ok r c cap i d vs.length 1 ao S w'' (hM.below hb2) hi (by omega)).mono ?_
  rintro e w3 ⟨v,rfl,⟨po,pc,rfl,hn,hx⟩,hb3⟩
  rw [pa_col] at hn hx ⊢
  rw [colL_len]
  exact ⟨po,pc,rfl,hn,hx,hb3⟩
 ·have I:=himage_any po vo pc vc tau (colL c S i vs.length d) vs w'' hX (hV'.below hb2) (colL_len _ _ _ _ _) (by omega) ht (hT'.all hb2)
  rw [colL_len] at I
  exact I
 ·have hV2:=hV'.below hb2
  have hT2:=hT'.all hb2
  obtain ⟨b1,o1,e1,_,z1⟩:=hX.ne (by rw [mxL_len,colL_len];omega)
  obtain ⟨b2,o2,e2,_,z2⟩:=hV2.ne (by rw [mxL_len];omega)
  subst e1
  subst e2
  have q1:=z1 j (by rw [mxL_len,colL_len];exact hj)
  have q2:=z2 j (by rw [mxL_len];exact hj)
  rw [mxL_at,colL_at c S i vs.length d hj] at q1
  rw [mxL_at] at q2
  have lv:vs.getD j 0 < 18446744073709551616:=by
   have:=hV.lt j
   rwa [mxL_at] at this
  show Calls _ _ _ w'' fun e w3=>e = .returned (.int .u64 ((apL c S i d vs tau).getD j 0:Nat))∧_
  rw [apL_at c S i d vs tau hj]
  exact himage1_of _ _ _ (mV (mV tau (dtV 0 vs (colL c S i vs.length d))) (vs.getD j 0)) _ j vs.length vs.length pc vc bx bv bt b1 o1 b2 o2 w'' hj hj hx hv ht' q1 q2
   (fun w3 hb3=>vmul_any _ _ w3 (mV_lt _ _) lv (hT2.all hb3)) (fun w3 hb3=>psub_any _ _ w3 (h.el_lt _ _) (mV_lt _ _) (hT2.all hb3))
theorem hApply_ok (r c cap i k vc tau:Nat) (ao vo:Option Addr) (S vs:List Nat) (w:World) (h:Mx w ao cap r c S) (hV:BitsAt w vo vc (mxL vs)) (hi:i+vs.length≤r) (hk:k≤c) (ht:tau < 18446744073709551616) (hT:Tab w) :
  Calls Tryz.prog 43 #[.agg #[.int .i64 r,.int .i64 c,.slice ao S.length cap],.int .i64 i,.int .i64 k,.slice vo vs.length vc,.int .u64 tau] w fun e w'=>∃ v,e = .returned (.tuple #[v,.int .i64 0])∧NewM w.heap.size w' r c (apM r c S i k vs tau) v∧Below w.heap.size w w':=by
 refine (hApply_row r c cap i k vc tau ao vo S vs w h hV hi hk ht hT).mono ?_
 rintro e w' ⟨g,rfl,hg,hr,hb⟩
 have l:S.length = (apM r c S i k vs tau).length:=by rw [apM_len,h.2.1]
 have hr2:=hr.bits (apM_lt (fun p q=>h.el_lt p q) i k vs tau)
 refine ⟨_,rfl,⟨_,S.length,by rw [l],.inr ⟨g,0,rfl,by omega⟩,?_⟩,hb⟩
 rw [l]
 exact hr2
end Go.Proofs.YtfkndkaneffgdaaGreatDoor
namespace Go.Proofs.YtfkndkaneffgdaaGreatDoor
open Go.RowKit
theorem aV_left (a b:Nat) (h:fFin (aV a b) = true):fFin a = true:=by
 by_cases h4:fK a = 4
 ·unfold aV at h
  rw [if_pos (.inl h4)] at h
  exact absurd h (by decide +kernel)
 by_cases h3:fK a = 3
 ·unfold aV at h
  by_cases hb:fK b = 4
  ·rw [if_pos (.inr hb)] at h
   exact absurd h (by decide +kernel)
  ·rw [if_neg (fun e=>e.elim h4 hb),if_pos h3] at h
   split at h
   ·exact absurd h (by decide +kernel)
   ·exact h
 exact fin_of a h3 h4
theorem finL_all (xs:List Nat):finL xs = true ↔ ∀ k,k < xs.length→fFin (xs.getD k 0) = true:=by
 unfold finL
 rw [fnK_all]
 exact ⟨fun h k hk=>by have:=h k hk;rwa [mxL_at] at this,fun h k hk=>by rw [mxL_at];exact h k hk⟩
theorem ap_left {r c:Nat} {S:List Nat} (hl:S.length = r * c) (i k:Nat) (vs:List Nat) (tau:Nat) (h:finL (apM r c S i k vs tau) = true):finL S = true:=by
 rw [finL_all] at h ⊢
 intro x hx
 rw [apM_len] at h
 rw [hl] at hx
 obtain ⟨h1,h2,h3⟩:=place_in hx
 have hf:fFin (elM c (apM r c S i k vs tau) (x / c) (x % c)) = true:=by
  have:=h x hx
  unfold elM
  rwa [h3]
 rw [el_ap r c S i k vs tau h1 h2] at hf
 have e:S.getD x 0 = elM c S (x / c) (x % c):=by unfold elM;rw [h3]
 rw [e]
 split at hf
 ·rename_i g
  rw [apL_at c S i (x % c) vs tau (j:=x / c - i) (by omega)] at hf
  have:=aV_left _ _ hf
  rwa [show i+(x / c - i) = x / c by omega] at this
 ·exact hf
theorem qrQ_left (r c:Nat) (S:List Nat) (K:Nat):∀ t d,finL (qrQ r c S K (t+d)) = true→finL (qrQ r c S K t) = true:=by
 intro t d
 induction d with
 | zero=>exact fun h=>h
 | succ d ih=>exact fun h=>ih (ap_left (qrQ_len r c S K (t+d)) _ _ _ _ h)
theorem pa_self (r c:Nat) (S:List Nat) (h:S.length = r * c):paM c S 0 0 r c = S:=by
 conv=>rhs;rw [← mkM_of r c S h]
 unfold paM
 refine mkM_congr (fun p q _ _=>?_)
 rw [Nat.zero_add,Nat.zero_add]
 rfl
theorem triangle_any (r c cap:Nat) (ao:Option Addr) (S:List Nat) (w:World) (h:Mx w ao cap r c S) (hT:Tab w) :
  Calls Tryz.prog 22 #[.agg #[.int .i64 r,.int .i64 c,.slice ao S.length cap]] w fun e w'=>TriAns w w' (qrK r c S (qrN r c)) r c S.length (qrN r c) (facR r c S) (fun j=>mrV (qrX r c S j)) (fun j=>mrT (qrX r c S j)) e∧Below w.heap.size w w':=by
 have hl:=h.2.1
 have r6:=h.2.2.1
 have c6:=h.2.2.2
 have lR:=fun j=>(qrR_len r c S hl j).trans hl.symm
 have lX:∀ j,(qrX r c S j).length = r - j:=qrX_len r c S
 have lV:∀ j,(mrV (qrX r c S j)).length = r - j:=fun j=>by rw [mrV_len,lX]
 have lA:∀ j,(apM r c (qrR r c S j) j j (mrV (qrX r c S j)) (mrT (qrX r c S j))).length = S.length:=fun j=>by rw [apM_len,hl]
 refine triangle_of r c S.length cap (qrN r c) (min (c:Int) ((r:Int) - 1)) ao (qrR r c S) (fun j=>apM r c (qrR r c S j) j j (mrV (qrX r c S j)) (mrT (qrX r c S j))) (qrX r c S) (fun j=>mrV (qrX r c S j)) (fun j=>mrT (qrX r c S j)) (fun j=>mrB (qrX r c S j)) (fun j=>finL (qrX r c S j) && mrK (qrX r c S j)) (qrK r c S (qrN r c)) w r6 c6 rfl (fun j=>by rw [qrN_lt];omega) lR lA lV (fun j _=>qrR_lt h.1.nat (j+1)) (fun j _=>apS_lt (qrR_lt h.1.nat j) _ _ _ _) ?_ ?_ ?_ ?_ ?_ ?_ ?_
 ·rw [qrK_all]
  exact ⟨fun q j hj=>by rw [(q j hj).1,(q j hj).2];rfl,fun q j hj=>by have:=q j hj;rwa [Bool.and_eq_true] at this⟩
 ·intro w' hb
  refine (mPart_ok r c cap 0 0 r c ao S w' (h.below hb) (by omega) (by omega)).mono ?_
  rintro e w'' ⟨v,rfl,⟨po,pc,rfl,hn,hx⟩,hb2⟩
  rw [pa_self r c S hl] at hn hx ⊢
  exact ⟨po,pc,rfl,hn,hx,hb2⟩
 ·intro w' j po pc hj hb
  have hj2:=(qrN_lt r c j).1 hj
  have:=mPart_ok r c pc j j (r - j) 1 po (qrR r c S j) w' ⟨hb,qrR_len r c S hl j,r6,c6⟩ (by omega) (by omega)
  rw [lR j] at this
  refine this.mono ?_
  rintro e w'' ⟨v,rfl,⟨bo,d,rfl,hn,hx⟩,hb2⟩
  rw [pa_col] at hx ⊢
  rw [colL_len]
  exact ⟨bo,d,rfl,hx,hb2⟩
 ·intro w' j bo d hj ho hb hx
  have hj2:=(qrN_lt r c j).1 hj
  rw [Bool.and_eq_true] at ho
  have:=hMake_ok bo d (mxL (qrX r c S j)) w' hx (by rw [mxL_len,lX];omega) (by rw [mxL_len,lX];omega) (by rw [mxL_len];exact ho.1) (by rw [toN_mxL];exact ho.2) (hT.all hb)
  rw [toN_mxL,mxL_len,lX] at this
  exact this
 ·intro w' j bo d hj ho hb hx
  have hj2:=(qrN_lt r c j).1 hj
  cases hf:finL (qrX r c S j)
  ·have:=hMake_inf bo d (mxL (qrX r c S j)) w' hx (by rw [mxL_len,lX];omega) (by rw [mxL_len,lX];omega) (by rw [mxL_len];exact hf)
   rw [mxL_len,lX] at this
   refine this.mono ?_
   rintro e w'' ⟨so,cs,rfl,hb2⟩
   exact ⟨so,cs,4,rfl,.inr rfl,hb2⟩
  ·have hk:mrK (qrX r c S j) = false:=by
    have:=ho
    rw [hf,Bool.true_and] at this
    exact this
   have:=hMake_none bo d (mxL (qrX r c S j)) w' hx (by rw [mxL_len,lX];omega) (by rw [mxL_len,lX];omega) (by rw [mxL_len];exact hf) (by rw [toN_mxL];exact hk) (hT.all hb)
   rw [mxL_len,lX] at this
   refine this.mono ?_
   rintro e w'' ⟨so,cs,rfl,hb2⟩
   exact ⟨so,cs,2,rfl,.inl rfl,hb2⟩
 ·intro w' j po pc vo vc hj hb hp hv
  have hj2:=(qrN_lt r c j).1 hj
  have:=hApply_row r c pc j j vc (mrT (qrX r c S j)) po vo (qrR r c S j) (mrV (qrX r c S j)) w' ⟨hp,qrR_len r c S hl j,r6,c6⟩ hv (by rw [lV];omega) (by omega) (mrT_lt _) (hT.all hb)
  rw [lR j,lV] at this
  refine this.mono ?_
  rintro e w'' ⟨g,rfl,hg,hr,hb2⟩
  exact ⟨g,rfl,by omega,hr,hb2⟩
 ·intro w' j g hj hrow
  have hj2:=(qrN_lt r c j).1 hj
  have:=settle_any r c j (mrB (qrX r c S j)) g _ w' r6 c6 (by omega) (by omega) (apM_len r c (qrR r c S j) j j (mrV (qrX r c S j)) (mrT (qrX r c S j))) hrow
  rw [lA j] at this
  exact this
theorem upright_any (r c lc:Nat) (lo:Option Addr) (S:List Nat) (R:List Mr) (w:World) (hr:r≤6) (hc:c≤6) (hl:OwnMt 0 w (.slice lo (qrN r c) lc) R) (hRl:R.length = qrN r c) (hRm:∀ k,k < qrN r c→(mrAt R k).V = mrV (qrX r c S k)∧(mrAt R k).tau = mrT (qrX r c S k)) (hT:Tab w) :
  Calls Tryz.prog 23 #[.int .i64 r,.slice lo (qrN r c) lc] w fun e w'=>∃ Q qo qc,(Q = facQ r c S ∨ (fnK (mxL Q) (r * r) = false∧finL (facQ r c S) = false))∧Q.length = r * r∧e = .returned (.agg #[.int .i64 r,.int .i64 r,.slice qo (r * r) qc])∧NewB w.heap.size qo (mxL Q)∧BitsAt w' qo qc (mxL Q)∧Below w.heap.size w w':=by
 have lX:∀ j,(qrX r c S j).length = r - j:=qrX_len r c S
 have lV:∀ j,(mrV (qrX r c S j)).length = r - j:=fun j=>by rw [mrV_len,lX]
 have hK:qrN r c≤6:=by unfold qrN;omega
 refine (upright_of r (r * r) (qrN r c) lc lo (fun j=>mrV (qrX r c S j)) (qrQ r c S (qrN r c)) (fun j=>mrT (qrX r c S j)) R w (Nat.mul_le_mul hr hr) hK hl hRl hRm (qrQ_len r c S _) lV ?_ ?_ (fun w' x hx=>sfinite_any x w' hx)).mono ?_
 ·intro w'
  refine (mEye_ok r w' hr).mono ?_
  rintro e w'' ⟨v,rfl,⟨qo,qc,rfl,hn,hb⟩,hb2⟩
  exact ⟨qo,qc,by rw [show (eyM r).length = r * r from mkM_len r r _],hn,hb,hb2⟩
 ·intro w' t j po pc vo vc ht hj hb hp hv
  have hj2:=(qrN_lt r c j).1 (by omega)
  have:=hApply_ok r r pc j 0 vc (mrT (qrX r c S j)) po vo (qrQ r c S (qrN r c) t) (mrV (qrX r c S j)) w' ⟨hp,qrQ_len r c S _ t,hr,hr⟩ hv (by rw [lV];omega) (by omega) (mrT_lt _) (hT.all hb)
  rw [qrQ_len,lV] at this
  refine this.mono ?_
  rintro e w'' ⟨v,rfl,⟨qo,qc,rfl,hn,hx⟩,hb2⟩
  rw [apM_len]
  have e:apM r r (qrQ r c S (qrN r c) t) j 0 (mrV (qrX r c S j)) (mrT (qrX r c S j)) = qrQ r c S (qrN r c) (t+1):=by
   show _ = apM r r (qrQ r c S (qrN r c) t) (qrN r c - 1 - t) 0 (mrV (qrX r c S (qrN r c - 1 - t))) (mrT (qrX r c S (qrN r c - 1 - t)))
   rw [← hj]
  rw [e] at hn hx
  exact ⟨qo,qc,rfl,hn,hx,hb2⟩
 ·rintro e w' ⟨t,qo,qc,ht,hor,rfl,hn,hx,hb⟩
  refine ⟨_,qo,qc,?_,qrQ_len r c S _ t,rfl,hn,hx,hb⟩
  rcases hor with e | e
  ·left;rw [e];rfl
  ·right
   refine ⟨e,?_⟩
   cases hf:finL (facQ r c S)
   ·rfl
   ·have h2:=qrQ_left r c S (qrN r c) t (qrN r c - t) (by rw [show t+(qrN r c - t) = qrN r c by omega];exact hf)
    unfold finL at h2
    rw [qrQ_len,e] at h2
    cases h2
theorem qFactor_any (r c cap:Nat) (ao:Option Addr) (S:List Nat) (w:World) (h:Mx w ao cap r c S) (hf:finL S = true) (hT:Tab w) :
  Calls Tryz.prog 8 #[.agg #[.int .i64 r,.int .i64 c,.slice ao S.length cap]] w fun e w'=>((facK r c S = true∧∃ v u,e = .returned (.tuple #[v,u,.int .i64 0])∧NewM w.heap.size w' r r (facQ r c S) v∧NewM w.heap.size w' r c (facR r c S) u) ∨ (facK r c S = false∧∃ v u,e = .returned (.tuple #[v,u,.int .i64 2])∧NewM w.heap.size w' 0 0 [] v∧NewM w.heap.size w' 0 0 [] u))∧Below w.heap.size w w':=by
 have hl:=h.2.1
 have r6:=h.2.2.1
 have c6:=h.2.2.2
 have h36:=h.small
 have hq36:r * r≤36:=Nat.mul_le_mul r6 r6
 have lr:(facR r c S).length = S.length:=(qrR_len r c S hl _).trans hl.symm
 have hck:ckE (r:Int) (c:Int) (mxL S) = 0:=by
  unfold ckE
  rw [mxL_len,mx_ok h]
  have:fnK (mxL S) S.length = true:=hf
  rw [this]
  rfl
 refine factor_of r c S.length (r * r) (qrN r c) cap ao (facR r c S) (facQ r c S) (fun j=>mrV (qrX r c S j)) (fun j=>mrT (qrX r c S j)) (qrK r c S (qrN r c)) (finL (facQ r c S)) (finL (facR r c S)) w lr (qrQ_len _ _ _ _ _) (by unfold finL;rw [show (facQ r c S).length = r * r from qrQ_len _ _ _ _ _]) ?_ (fun w' hb=>triangle_any r c cap ao S w' (h.below hb) (hT.all hb)) (fun w' lo lc R hb h1 h2 h3=>upright_any r c lc lo S R w' r6 c6 h1 h2 h3 (hT.all hb)) ?_ ?_
 ·intro w' hb
  have:=ccheck_any r c ao cap (mxL S) w' (h.1.below hb) (by rw [mxL_len];omega)
  rw [mxL_len,hck] at this
  exact this
 ·intro w' Q qo qc hb hl2
  have:=vFinite_any qo qc (mxL Q) w' hb (by rw [mxL_len];omega)
  rw [mxL_len,hl2] at this
  exact this
 ·intro w' ro rc hb
  have:=vFinite_any ro rc (mxL (facR r c S)) w' hb (by rw [mxL_len];omega)
  unfold finL
  rw [mxL_len,lr] at this
  rw [lr]
  exact this
theorem qFactor_err (r c:Int) (ao:Option Addr) (cap:Nat) (I:List Int) (w:World) (hI:BitsAt w ao cap I) (hl:I.length≤17592186043904) (h:ckE r c I ≠ 0) :
  Calls Tryz.prog 8 #[.agg #[.int .i64 r,.int .i64 c,.slice ao I.length cap]] w fun e w'=>∃ v u,e = .returned (.tuple #[v,u,.int .i64 (ckE r c I)])∧NewM w.heap.size w' 0 0 [] v∧NewM w.heap.size w' 0 0 [] u∧Below w.heap.size w w':=by
 have hw:ckE r c I = 1 ∨ ckE r c I = 4:=by
  unfold ckE at h ⊢
  repeat' split
  all_goals first | exact .inl rfl | exact .inr rfl | (exfalso;revert h;simp_all)
 exact factor_err r c ao I.length cap _ w hw (fun w' hb=>ccheck_any r c ao cap I w' (hI.below hb) (by omega))
theorem qFactor_yes (r c cap:Nat) (ao:Option Addr) (S:List Nat) (w:World) (h:Mx w ao cap r c S) (hf:finL S = true) (hk:facK r c S = true) (hT:Tab w) :
  Calls Tryz.prog 8 #[.agg #[.int .i64 r,.int .i64 c,.slice ao S.length cap]] w fun e w'=>∃ v u,e = .returned (.tuple #[v,u,.int .i64 0])∧NewM w.heap.size w' r r (facQ r c S) v∧NewM w.heap.size w' r c (facR r c S) u∧Below w.heap.size w w':=by
 refine (qFactor_any r c cap ao S w h hf hT).mono ?_
 rintro e w' ⟨⟨_,v,u,rfl,h1,h2⟩ | ⟨hk2,_⟩,hb⟩
 ·exact ⟨v,u,rfl,h1,h2,hb⟩
 ·rw [hk] at hk2;cases hk2
theorem qFactor_no (r c cap:Nat) (ao:Option Addr) (S:List Nat) (w:World) (h:Mx w ao cap r c S) (hf:finL S = true) (hk:facK r c S = false) (hT:Tab w) :
  Calls Tryz.prog 8 #[.agg #[.int .i64 r,.int .i64 c,.slice ao S.length cap]] w fun e w'=>∃ v u,e = .returned (.tuple #[v,u,.int .i64 2])∧NewM w.heap.size w' 0 0 [] v∧NewM w.heap.size w' 0 0 [] u∧Below w.heap.size w w':=by
 refine (qFactor_any r c cap ao S w h hf hT).mono ?_
 rintro e w' ⟨⟨hk2,_⟩ | ⟨_,v,u,rfl,h1,h2⟩,hb⟩
 ·rw [hk] at hk2;cases hk2
 ·exact ⟨v,u,rfl,h1,h2,hb⟩
end Go.Proofs.YtfkndkaneffgdaaGreatDoor
namespace Go.Proofs.YtfkndkaneffgdaaGreatDoor
open Go.RowKit
attribute [local go_sem ↓] Go.wp_at_zero Go.wp_at_succ
structure ToSt (w wr:World) (q0 q1 q2 r0 r1 r2 x0 x1 x2 x3 x4 x5 x6:Value):Prop where
 bel:Below w.heap.size w wr
 q:BoxM wr w.heap.size q0 q1 q2
 r:BoxM wr (w.heap.size+1) r0 r1 r2
 x:BoxW wr (w.heap.size+1+1) x0 x1 x2 x3 x4 x5 x6
theorem ToSt.all {w wr w':World} {q0 q1 q2 r0 r1 r2 x0 x1 x2 x3 x4 x5 x6:Value} (h:ToSt w wr q0 q1 q2 r0 r1 r2 x0 x1 x2 x3 x4 x5 x6) (hb:Below wr.heap.size wr w'):ToSt w w' q0 q1 q2 r0 r1 r2 x0 x1 x2 x3 x4 x5 x6 :=
 ⟨h.bel.trans (hb.mono h.bel.size),h.q.all hb,h.r.all hb,h.x.all hb⟩
theorem ToSt.start (w:World) (q0 q1 q2 r0 r1 r2 x0 x1 x2 x3 x4 x5 x6:Value):ToSt w (((w.alloc (.cells #[q0,q1,q2] 24)).alloc (.cells #[r0,r1,r2] 24)).alloc (.cells #[x0,x1,x2,x3,x4,x5,x6] 34)) q0 q1 q2 r0 r1 r2 x0 x1 x2 x3 x4 x5 x6:=by
 have b0:=below_alloc9 w (.cells #[q0,q1,q2] 24)
 have s0:=size_alloc9 w (.cells #[q0,q1,q2] 24)
 have y0:=BoxM.new w q0 q1 q2
 generalize w.alloc (.cells #[q0,q1,q2] 24) = w0 at *
 have b1:=below_alloc9 w0 (.cells #[r0,r1,r2] 24)
 have s1:=size_alloc9 w0 (.cells #[r0,r1,r2] 24)
 have y1:=BoxM.new w0 r0 r1 r2
 generalize w0.alloc (.cells #[r0,r1,r2] 24) = w1 at *
 have b2:=below_alloc9 w1 (.cells #[x0,x1,x2,x3,x4,x5,x6] 34)
 have y2:=BoxW.new w1 x0 x1 x2 x3 x4 x5 x6
 rw [s0] at y1 s1
 rw [s1] at y2
 have b01:=b0.trans (b1.mono b0.size)
 exact ⟨b01.trans (b2.mono b01.size),(y0.all b1).all b2,y1.all b2,y2⟩
set_option maxRecDepth 20000 in
set_option maxHeartbeats 4000000 in
theorem told14_no (f er:Int) (ok:Bool) (qo ro:Option Addr) (qc rc:Nat) (x0 x1 x2 x3 x4 x5:Value) (w:World) (h:(f = 0∧ok = false∧er = 2) ∨ (f = 1∧er = 1) ∨ (f = 4∧er = 4)) :
  Calls Tryz.prog 10 #[.agg #[.int .i64 0,.int .i64 0,.slice qo 0 qc],.agg #[.int .i64 0,.int .i64 0,.slice ro 0 rc],.int .i64 er,.agg #[x0,x1,x2,x3,x4,x5,.bool ok],.int .i64 f] w fun e w'=>e = .returned (.bool true)∧Below w.heap.size w w':=by
 have ST:=hide (ToSt.start w (.int .i64 0) (.int .i64 0) (.slice qo 0 qc) (.int .i64 0) (.int .i64 0) (.slice ro 0 rc) x0 x1 x2 x3 x4 x5 (.bool ok))
 have KZ:=hide (fun w' ao cap=>rsame_any 0 0 ao none cap 0 [] w' (BitsAt.nilAt w' _ _) (BitsAt.nilAt w' _ _) (by simp))
 simp only [List.length_nil] at KZ
 have q0:=(uH ST).q.c0;have q1:=(uH ST).q.c1;have q2:=(uH ST).q.c2
 have x6:=(uH ST).x.c6
 rcases h with ⟨rfl,rfl,rfl⟩ | ⟨rfl,rfl⟩ | ⟨rfl,rfl⟩
 all_goals
  go_enter Tryz.func10,Tryz.ntmps10
  go_wp2_with fail
  clear q0 q1 q2 x6
  refine (uH KZ _ _ _).mono ?_
  rintro e w1 ⟨rfl,hb⟩
  replace ST:=hide ((uH ST).all hb)
  clear hb
  have r0:=(uH ST).r.c0;have r1:=(uH ST).r.c1;have r2:=(uH ST).r.c2
  go_wp2_with fail
  clear r0 r1 r2
  refine (uH KZ _ _ _).mono ?_
  rintro e w2 ⟨rfl,hb⟩
  replace ST:=hide ((uH ST).all hb)
  clear hb KZ
  go_wp2
  go_ret
  exact ⟨rfl,(uH ST).bel⟩
set_option maxRecDepth 20000 in
set_option maxHeartbeats 4000000 in
theorem told14_yes (p1 p2 p3 p4:Nat) (qo ro so to':Option Addr) (qc rc sc tc:Nat) (Q R:List Nat) (w:World) (hq:BitsAt w qo qc (mxL Q)) (hr:BitsAt w ro rc (mxL R)) (hs:BitsAt w so sc (mxL Q)) (ht:BitsAt w to' tc (mxL R)) (lq:Q.length≤36) (lr:R.length≤36) :
  Calls Tryz.prog 10 #[.agg #[.int .i64 p1,.int .i64 p2,.slice qo Q.length qc],.agg #[.int .i64 p3,.int .i64 p4,.slice ro R.length rc],.int .i64 0,.agg #[.int .i64 p1,.int .i64 p2,.slice so Q.length sc,.int .i64 p3,.int .i64 p4,.slice to' R.length tc,.bool true],.int .i64 0] w fun e w'=>e = .returned (.bool true)∧Below w.heap.size w w':=by
 have ST:=hide (ToSt.start w (.int .i64 p1) (.int .i64 p2) (.slice qo Q.length qc) (.int .i64 p3) (.int .i64 p4) (.slice ro R.length rc) (.int .i64 p1) (.int .i64 p2) (.slice so Q.length sc) (.int .i64 p3) (.int .i64 p4) (.slice to' R.length tc) (.bool true))
 have KQ:=hide (fun w' (hb:Below w.heap.size w w')=>rsame_any p1 p2 qo so qc sc Q w' (hq.below hb) (hs.below hb) (by omega))
 have KR:=hide (fun w' (hb:Below w.heap.size w w')=>rsame_any p3 p4 ro to' rc tc R w' (hr.below hb) (ht.below hb) (by omega))
 clear hq hr hs ht lq lr
 generalize Q.length = nq at *
 generalize R.length = nr at *
 have q0:=(uH ST).q.c0;have q1:=(uH ST).q.c1;have q2:=(uH ST).q.c2
 have x0:=(uH ST).x.c0;have x1:=(uH ST).x.c1;have x2:=(uH ST).x.c2;have x6:=(uH ST).x.c6
 go_enter Tryz.func10,Tryz.ntmps10
 go_wp2_with fail
 clear q0 q1 q2 x0 x1 x2 x6
 refine (uH KQ _ (uH ST).bel).mono ?_
 rintro e w1 ⟨rfl,hb⟩
 replace ST:=hide ((uH ST).all hb)
 clear hb KQ
 have r0:=(uH ST).r.c0;have r1:=(uH ST).r.c1;have r2:=(uH ST).r.c2
 have x3:=(uH ST).x.c3;have x4:=(uH ST).x.c4;have x5:=(uH ST).x.c5
 go_wp2_with fail
 clear r0 r1 r2 x3 x4 x5
 refine (uH KR _ (uH ST).bel).mono ?_
 rintro e w2 ⟨rfl,hb⟩
 replace ST:=hide ((uH ST).all hb)
 clear hb KR
 go_wp2
 go_ret
 exact ⟨rfl,(uH ST).bel⟩
set_option maxRecDepth 20000 in
set_option maxHeartbeats 4000000 in
theorem awake14_of (w:World)
  (C1:∀ w' ao,Below w.heap.size w w'→BitsAt w' ao 2 [((4613937818241073152:Nat):Int),((4616189618054758400:Nat):Int)]→Calls Tryz.prog 8 #[.agg #[.int .i64 2,.int .i64 1,.slice ao 2 2]] w' fun e w''=>∃ (a1 a2:Int) (qo:Option Addr) (nq qc:Nat) (ro:Option Addr) (rc:Nat),e = .returned (.tuple #[.agg #[.int .i64 a1,.int .i64 a2,.slice qo nq qc],.agg #[.int .i64 2,.int .i64 1,.slice ro 2 rc],.int .i64 0])∧BitsAt w'' ro rc (mxL [13840687554816376832,0])∧Below w'.heap.size w' w'') :
  Calls Tryz.prog 11 #[] w fun e w'=>e = .returned (.bool true)∧Below w.heap.size w w':=by
 have K1:=hide C1
 have TB:=hide (two_bits w 4613937818241073152 4616189618054758400 (by decide) (by decide))
 have BB:=hide (below_alloc9 w (.cells #[.int .u64 ((4613937818241073152:Nat):Int),.int .u64 ((4616189618054758400:Nat):Int)] 30))
 clear C1
 go_enter Tryz.func11,Tryz.ntmps11
 go_wp2_with fail
 refine (uH K1 _ _ (uH BB) (uH TB)).mono ?_
 rintro e w1 ⟨a1,a2,qo,nq,qc,ro,rc,rfl,bv,hb⟩
 obtain ⟨b,off,rfl,_,hc⟩:=bv.ne (by decide)
 have c0:w1.cell? ⟨b,off+0,none⟩ = some (.int .u64 13840687554816376832):=hc 0 (by decide)
 have c1:w1.cell? ⟨b,off+1,none⟩ = some (.int .u64 0):=hc 1 (by decide)
 rw [Nat.add_zero] at c0
 replace BB:=hide ((uH BB).trans (hb.mono (uH BB).size))
 clear hb K1 TB bv hc
 have ba:=below_alloc9 w1 (.cells #[.int .i64 a1,.int .i64 a2,.slice qo nq qc] 24)
 have bb:=below_alloc9 (w1.alloc (.cells #[.int .i64 a1,.int .i64 a2,.slice qo nq qc] 24)) (.cells #[.int .i64 2,.int .i64 1,.slice (some ⟨b,off,none⟩) 2 rc] 24)
 have BC:=hide ((uH BB).trans ((ba.trans (bb.mono ba.size)).mono (uH BB).size))
 clear ba bb BB
 go_wp2
 go_ret
 exact ⟨rfl,uH BC⟩
theorem q345_facts:dV (aV 13840687554816376832 (fN 4613937818241073152)) 13840687554816376832 = 4609884578576439706∧fN 13840687554816376832 = 4617315517961601024:=by decide +kernel
end Go.Proofs.YtfkndkaneffgdaaGreatDoor
namespace Go.Proofs.YtfkndkaneffgdaaGreatDoor
open Go.RowKit
attribute [local go_sem ↓] Go.wp_at_zero Go.wp_at_succ
structure AnsAt (wr:World) (H g:Nat) (p q:Nat) (so:Option Addr) (sd:Nat) (S:List Nat):Prop where
 box:BoxM wr g (.int .i64 p) (.int .i64 q) (.slice so S.length sd)
 bits:BitsAt wr so sd (mxL S)
 new:NewB H so (mxL S)
theorem AnsAt.all {wr w':World} {H g p q:Nat} {so:Option Addr} {sd:Nat} {S:List Nat} (h:AnsAt wr H g p q so sd S) (hb:Below wr.heap.size wr w'):AnsAt w' H g p q so sd S:=⟨h.box.all hb,h.bits.below hb,h.new⟩
theorem AnsAt.put {wr:World} {H g p q:Nat} {so:Option Addr} {sd:Nat} {S:List Nat} (h:AnsAt wr H g p q so sd S) {b k:Nat} {z0:Int} (hc:wr.cell? ⟨b,k,none⟩ = some (.int .u64 z0)) (hb:b < H) (z:Int):AnsAt (wr.setCell ⟨b,k,none⟩ (.int .u64 z)) H g p q so sd S :=
 ⟨h.box.other (p:=⟨b,k,none⟩) (h.box.away hc) _,h.bits.far h.new hb k _,h.new⟩
theorem Mx.from {w:World} {ao:Option Addr} {cap p q:Nat} {I:List Int} (h:BitsAt w ao cap I) (ho:okB (p:Int) (q:Int) I.length = true):Mx w ao cap p q (natL I):=by
 obtain ⟨p',q',e1,e2,hM,_⟩:=Mx.of h ho
 obtain rfl:p = p':=by omega
 obtain rfl:q = q':=by omega
 exact hM
end Go.Proofs.YtfkndkaneffgdaaGreatDoor
