/- Part 39 of the texts. -/
import Derived.Test.YtlnphkioddknfaaGreatDoorPartl38
import Derived.Test.YtlnphkioddknfaaGreatDoorPartl37
import Derived.Test.YtlnphkioddknfaaGreatDoorPartl27
import Derived.Deep.RegionHeld3
import Derived.Test.YtlnphkioddknfaaGreatDoorPartl33
import Derived.Test.YtlnphkioddknfaaGreatDoorPartl31
import Derived.Deep.RegionWith
import Derived.Test.YtlnphkioddknfaaGreatDoorPartl36
import Derived.Test.YtlnphkioddknfaaGreatDoorPartl32
import Derived.Test.YtlnphkioddknfaaGreatDoorPartl34
import Derived.Test.YtlnphkioddknfaaGreatDoorPartl35
set_option maxHeartbeats 8000000
set_option maxRecDepth 20000
namespace Go.Proofs.YtlnphkioddknfaaGreatDoor
open Go.RowKit
attribute [local go_sem ↓] Go.wp_at_zero Go.wp_at_succ
theorem mirrored_of (r c n cap i k L vc tau:Nat) (ao vo:Option Addr) (T:Nat→Nat→List Nat) (X:Nat→List Int) (P U:Nat→Nat→Nat) (t:Nat→Nat) (w:World) (h36:n≤36) (h6:c≤6) (hr6:r≤6) (hil:i+L≤r) (hk:k≤c)
  (hS:BitsAt w ao cap (mxL (T k 0))) (lT:∀ d j,(T d j).length = n) (hnext:∀ d,T d L = T (d+1) 0)
  (hP:∀ d j,k≤d→d < c→j < L→P d j < n∧(i+j) * c+d = P d j∧(T d j).set (P d j) (U d j) = T d (j+1))
  (C1:∀ w' d,Below w.heap.size w w'→k≤d→d < c→Calls Tryz.prog 125 #[.agg #[.int .i64 r,.int .i64 c,.slice ao n cap],.int .i64 i,.int .i64 (d:Nat),.int .i64 L,.int .i64 1] w' fun e w''=>∃ po pc,e = .returned (.tuple #[.agg #[.int .i64 L,.int .i64 1,.slice po L pc],.int .i64 0])∧NewB w'.heap.size po (X d)∧BitsAt w'' po pc (X d)∧Below w'.heap.size w' w'')
  (C2:∀ w' d po pc,Below w.heap.size w w'→k≤d→d < c→BitsAt w' po pc (X d)→Calls Tryz.prog 260 #[.slice po L pc,.slice vo L vc,.int .u64 tau] w' fun e w''=>∃ v,e = .returned v∧ImAt w'' v w'.heap.size po vo L pc L vc (t d)∧Below w'.heap.size w' w'')
  (C3:∀ w' d j po pc bx bt bv,Below w.heap.size w w'→k≤d→d < c→j < L→BitsAt w' po pc (X d)→w'.cell? ⟨bx,0,none⟩ = some (.slice po L pc)→w'.cell? ⟨bt,0,none⟩ = some (.int .u64 (t d:Nat))→w'.cell? ⟨bv,0,none⟩ = some (.slice vo L vc)→Calls Tryz.prog 274 #[.int .i64 (j:Nat),.pointer (some ⟨bx,0,none⟩),.pointer (some ⟨bt,0,none⟩),.pointer (some ⟨bv,0,none⟩)] w' fun e w''=>e = .returned (.int .u64 (U d j:Nat))∧Below w'.heap.size w' w'') :
  Calls Tryz.prog 237 #[.agg #[.int .i64 r,.int .i64 c,.slice ao n cap],.int .i64 i,.int .i64 k,.slice vo L vc,.int .u64 tau] w fun e w'=>∃ g,e = .returned (.agg #[.int .i64 r,.int .i64 c,.slice (some ⟨g,0,none⟩) n n])∧w.heap.size≤g∧RowB w' g (T c 0)∧Below w.heap.size w w':=by
 have ST:=hide (MiSt.start w r c n cap ao)
 have hmk:=run_make_row' (P:=Tryz.prog) 22 37 (.int .u64 0) 8 Tryz.underlying22 (by kernel_rfl) rfl .i64 .i64 n (by omega) (by omega)
 have HP:=hide hP;have K1:=hide C1;have K2:=hide C2;have K3:=hide C3;have LT:=hide lT;have HX:=hide hnext
 obtain ⟨w5,hcp,hr5,hb5⟩:=copy_run _ (w.heap.size+1+1) n cap ao (T k 0) (uH ST).row (hS.below (uH ST).bel) (lT k 0)
 have ST5:=hide ((uH ST).copied hb5 hr5)
 clear hP C1 C2 C3 lT hS hr5 hb5 hnext
 have y0:=(uH ST).m.c0;have y1:=(uH ST).m.c1;have y2:=(uH ST).m.c2
 go_enter Tryz.func237,Tryz.ntmps237
 go_wp2_with fail
 clear hmk hcp y0 y1 y2 ST
 go_loopw [12] (fun a wr=>∃ d:Nat,k≤d∧d≤c∧a = .int .i64 d∧Hid (MiSt w wr r c n cap ao (T d 0))) (fun a _=>c - (intOf a).toNat)
 case atStart=>exact ⟨k,Nat.le_refl _,hk,rfl,ST5⟩
 case round =>
  clear ST5
  obtain ⟨d,hkd,hdc,rfl,hS⟩:=hrel
  by_cases hlt:d < c
  ·have hdI:(d:Int) < (c:Int):=by omega
   have y0:=(uH hS).m.c0;have y1:=(uH hS).m.c1;have y2:=(uH hS).m.c2
   go_wp2_with fail
   clear y0 y1 y2
   refine (uH K1 _ d (uH hS).bel hkd hlt).mono ?_
   rintro e w2 ⟨po,pc,rfl,hn,hx,hb⟩
   have S2:=hide ((uH hS).all hb)
   have HN:=hide (NewB.least hn (show w.heap.size+1+1+1≤wr.heap.size from (uH hS).row.lt))
   have HB:=hide hx
   clear hn hx hb hS
   go_wp2_with fail
   have ba:=below_alloc9 w2 (.cells #[.int .i64 L,.int .i64 1,.slice po L pc] 24)
   replace S2:=hide ((uH S2).all ba)
   replace HB:=hide ((uH HB).below ba)
   clear ba
   have HL:=hide (show w.heap.size+1+1+1≤(w2.alloc (.cells #[.int .i64 L,.int .i64 1,.slice po L pc] 24)).heap.size from (uH S2).row.lt)
   refine (uH K2 _ d po pc (uH S2).bel hkd hlt (uH HB)).mono ?_
   rintro e w3 ⟨v,rfl,hv,hb⟩
   obtain ⟨bx,bt,bv,rfl,l1,l2,l3,c1,c2,c3⟩:=hv.ex
   have S3:=hide (show MjSt w w3 r c n cap ao (T d 0) bx bt bv po vo L pc vc (t d) (X d) from ⟨(uH S2).all hb,Nat.le_trans (uH HL) l1,Nat.le_trans (uH HL) l2,Nat.le_trans (uH HL) l3,c1,c2,c3,(uH HB).below hb,uH HN⟩)
   clear hv hb l1 l2 l3 c1 c2 c3 S2 HN HB HL
   have KC:=hide (fun w' j hb hj hx h1 h2 h3=>uH K3 w' d j po pc bx bt bv hb hkd hlt hj hx h1 h2 h3)
   have HPD:=hide (fun j hj=>uH HP d j hkd hlt hj)
   have LTD:=hide (uH LT d)
   have HXD:=hide (uH HX d)
   generalize hTD:T d = TD at *
   generalize hUD:U d = UD at *
   generalize hPD:P d = PD at *
   generalize t d = td at *
   generalize X d = XD at *
   go_wp2_with fail
   go_loopw [48] (fun a wr=>∃ j:Nat,j≤L∧a = .int .i64 j∧Hid (MjSt w wr r c n cap ao (TD j) bx bt bv po vo L pc vc td XD)) (fun a _=>L - (intOf a).toNat)
   case atStart=>exact ⟨0,Nat.zero_le _,rfl,S3⟩
   case round =>
    clear S3
    obtain ⟨j,hj,rfl,hS⟩:=hrel
    by_cases hjl:j < L
    ·have hjI:(j:Int) < (L:Int):=by omega
     obtain ⟨hp,hpe,hset⟩:=uH HPD j hjl
     have KJ:=hide (fun w' hb hx h1 h2 h3=>uH KC w' j hb hjl hx h1 h2 h3)
     have LL:=hide (uH LTD j);have HN:=hide hset
     clear hset
     obtain ⟨a,ha⟩:∃ a,i+j = a:=⟨_,rfl⟩
     rw [ha] at hpe
     obtain ⟨q,hq⟩:∃ q,a * c = q:=⟨_,rfl⟩
     rw [hq] at hpe
     have e1:IntKind.i64.wrap ((i:Int)+(j:Int)) = (a:Int):=(wrap_in _ (by omega)).trans (by omega)
     have e2:IntKind.i64.wrap ((a:Int) * (c:Int)) = (q:Int):=by
      rw [cast_mul10 a c,hq]
      exact wrap_in _ (by omega)
     have e3:IntKind.i64.wrap ((q:Int)+(d:Int)) = (PD j:Int):=(wrap_in _ (by omega)).trans (by omega)
     have e4:(i:Int)+(j:Int) = (a:Int):=by omega
     have e5:(a:Int) * (c:Int) = (q:Int):=by rw [cast_mul10 a c,hq]
     have e6:(q:Int)+(d:Int) = (PD j:Int):=by omega
     have w1:IntKind.i64.wrap (a:Int) = (a:Int):=wrap_in _ (by omega)
     have w2:IntKind.i64.wrap (q:Int) = (q:Int):=wrap_in _ (by omega)
     have w3:IntKind.i64.wrap (PD j:Int) = (PD j:Int):=wrap_in _ (by omega)
     generalize hTT:TD j = TT at *
     generalize hTN:TD (j+1) = TN at *
     generalize PD j = p at *
     generalize UD j = u at *
     have hpI:(p:Int) < (n:Int):=by omega
     clear hq hpe ha
     go_wp2_with fail
     refine at_world (fun W=>MjSt w W r c n cap ao TT bx bt bv po vo L pc vc td XD) (uH hS) ?_
     clear hS
     intro W st
     have ST:=hide (st.all ((Below.refl W.heap.size W).drew))
     clear st
     have y1:=(uH ST).st.m.c1
     go_region_with (first
      | (go_at_call 274;refine (uH KJ _ (uH ST).st.bel (uH ST).x (uH ST).cx (uH ST).ct (uH ST).cv).mono ?_;rintro e w8 ⟨rfl,hb⟩;clear y1;have S8:=(uH ST).all hb;have y1:=S8.st.m.c1;have d1:=S8.st.row.cell p (by rw [uH LL];exact hp);have f1':=S8.st.row.free p;have P9:=hide (S8.set p u);clear S8 hb ST KJ)
      | fail "NO ARM")
     all_goals
      clear d1 f1' y1
      go_wp2_with fail
      go_round
      case rel=>exact ⟨j+1,by omega,by go_num,by rw [hTN,← uH HN];exact P9⟩
      case measure=>simp [intOf];omega
    ·have hjj:j = L:=by omega
     subst hjj
     have S4:=hide (uH hS).st
     rw [uH HXD] at S4
     clear hS
     go_wp2_with fail
     go_round
     case rel=>exact ⟨d+1,by omega,by omega,by go_num,S4⟩
     case measure=>simp [intOf];omega
  ·have hdd:d = c:=by omega
   subst hdd
   obtain ⟨h6,h1,h4,h5⟩:=uH hS
   have y0:=h1.c0;have y1:=h1.c1;have y2:=h1.c2
   have r0:=h4.c0;have r1:=h4.c1;have r2:=h4.c2
   have f0:=h4.free 0;have f1:=h4.free 1;have f2:=h4.free 2
   have XP:=h4.put (.int .i64 r) (.int .i64 d) (.slice (some ⟨w.heap.size+1+1,0,none⟩) n n)
   have z0:=XP.c0;have z1:=XP.c1;have z2:=XP.c2
   have RW:=hide (h5.three (g:=w.heap.size+1) (by omega) (.int .i64 r) (.int .i64 d) (.slice (some ⟨w.heap.size+1+1,0,none⟩) n n))
   have BP:=hide (below_putM h6 (b:=w.heap.size+1) (by omega) (.int .i64 r) (.int .i64 d) (.slice (some ⟨w.heap.size+1+1,0,none⟩) n n))
   clear XP h1 h4 h5 h6 hS
   go_wp2_with fail
   exact bodyPost_ret (v:=.agg #[.int .i64 r,.int .i64 d,.slice (some ⟨w.heap.size+1+1,0,none⟩) n n]) (by simp [results,Tryz.results237,go_sem,z0,z1,z2]) rfl ⟨_,rfl,by omega,uH RW,uH BP⟩
end Go.Proofs.YtlnphkioddknfaaGreatDoor
namespace Go.Proofs.YtlnphkioddknfaaGreatDoor
open Go.RowKit
attribute [local go_sem ↓] Go.wp_at_zero Go.wp_at_succ
theorem happly_form (r c:Int) (ao:Option Addr) (n cap:Nat) (i k:Int) (vo:Option Addr) (L vc tau:Nat) (w:World)
  (C1:∀ w',Calls Tryz.prog 110 #[.agg #[.int .i64 r,.int .i64 c,.slice ao n cap]] w' fun e w''=>e = .returned (.int .i64 1)∧Below w'.heap.size w' w'') :
  Calls Tryz.prog 213 #[.agg #[.int .i64 r,.int .i64 c,.slice ao n cap],.int .i64 i,.int .i64 k,.slice vo L vc,.int .u64 tau] w fun e w'=>∃ v,e = .returned (.tuple #[v,.int .i64 1])∧NewM w.heap.size w' 0 0 [] v∧Below w.heap.size w w':=by
 have K:=hide (C1 ((w.alloc (.cells #[.int .i64 r,.int .i64 c,.slice ao n cap] 24)).alloc (.cells #[.int .i64 0,.int .i64 0,.slice none 0 0] 24)))
 simp only [size_alloc9] at K
 have KB:=hide (boxes2 w (.int .i64 r) (.int .i64 c) (.slice ao n cap) (.int .i64 0) (.int .i64 0) (.slice none 0 0))
 clear C1
 go_enter Tryz.func213,Tryz.ntmps213
 go_wp2_with fail
 refine Calls.mono (uH K) ?_
 rintro e w1 ⟨rfl,hb1⟩
 obtain ⟨hB,hA,hX⟩:=uH KB w1 hb1
 clear K KB hb1 hA
 have f0:=hX.free 0;have f1:=hX.free 1;have f2:=hX.free 2
 have s0:=hX.c0;have s1:=hX.c1;have s2:=hX.c2
 have XP:=hX.put (.int .i64 0) (.int .i64 0) (.slice none 0 0)
 have z0:=XP.c0;have z1:=XP.c1;have z2:=XP.c2
 have BP:=hide (below_putM hB (b:=w.heap.size+1) (by omega) (.int .i64 0) (.int .i64 0) (.slice none 0 0))
 clear XP hX hB
 go_wp2
 refine bodyPost_ret (v:=.tuple #[.agg #[.int .i64 0,.int .i64 0,.slice none 0 0],_]) (by simp [results,Tryz.results213,go_sem,z0,z1,z2]) rfl ⟨_,rfl,NewM.zero _ _,uH BP⟩
theorem happly_of (r c n cap i k L vc tau:Nat) (ao vo:Option Addr) (S:List Nat) (w:World) (hr:r≤6) (hi:i+L≤r) (hk:k≤c) 
  (C1:∀ w',Calls Tryz.prog 110 #[.agg #[.int .i64 r,.int .i64 c,.slice ao n cap]] w' fun e w''=>e = .returned (.int .i64 0)∧Below w'.heap.size w' w'')
  (C2:∀ w',Below w.heap.size w w'→Calls Tryz.prog 237 #[.agg #[.int .i64 r,.int .i64 c,.slice ao n cap],.int .i64 i,.int .i64 k,.slice vo L vc,.int .u64 tau] w' fun e w''=>∃ g,e = .returned (.agg #[.int .i64 r,.int .i64 c,.slice (some ⟨g,0,none⟩) n n])∧w'.heap.size≤g∧RowB w'' g S∧Below w'.heap.size w' w'') :
  Calls Tryz.prog 213 #[.agg #[.int .i64 r,.int .i64 c,.slice ao n cap],.int .i64 i,.int .i64 k,.slice vo L vc,.int .u64 tau] w fun e w'=>∃ g,e = .returned (.tuple #[.agg #[.int .i64 r,.int .i64 c,.slice (some ⟨g,0,none⟩) n n],.int .i64 0])∧w.heap.size+2≤g∧RowB w' g S∧Below w.heap.size w w':=by
 have K:=hide (C1 ((w.alloc (.cells #[.int .i64 r,.int .i64 c,.slice ao n cap] 24)).alloc (.cells #[.int .i64 0,.int .i64 0,.slice none 0 0] 24)))
 simp only [size_alloc9] at K
 have KB:=hide (boxes2 w (.int .i64 r) (.int .i64 c) (.slice ao n cap) (.int .i64 0) (.int .i64 0) (.slice none 0 0))
 have K2:=hide C2
 have HZ:=hide (show w.heap.size+2≤((w.alloc (.cells #[.int .i64 r,.int .i64 c,.slice ao n cap] 24)).alloc (.cells #[.int .i64 0,.int .i64 0,.slice none 0 0] 24)).heap.size by rw [size_alloc9,size_alloc9];omega)
 have hw:IntKind.i64.wrap ((r:Int) - (L:Int)) = (r:Int) - (L:Int):=wrap_in _ (by omega)
 have h1:(i:Int)≤(r:Int) - (L:Int):=by omega
 have h2:(k:Int)≤(c:Int):=by omega
 clear C1 C2
 go_enter Tryz.func213,Tryz.ntmps213
 go_wp2_with fail
 refine Calls.mono (uH K) ?_
 rintro e w1 ⟨rfl,hb1⟩
 obtain ⟨hB,hA,hX⟩:=uH KB w1 hb1
 have HG1:=hide (Nat.le_trans (uH HZ) hb1.size)
 clear K KB hb1 HZ
 have a0:=hA.c0;have a1:=hA.c1;have a2:=hA.c2
 have HB:=hide hB;have HX:=hide hX
 clear hB hA hX
 go_wp2_with fail
 clear a0 a1 a2
 refine (uH K2 _ (uH HB)).mono ?_
 rintro e w2 ⟨g,rfl,hg,hr,hb⟩
 have hB:=(uH HB).trans (hb.mono (uH HB).size)
 have hX:=(uH HX).all hb
 have HG:=hide (Nat.le_trans (uH HG1) hg)
 have f0:=hX.free 0;have f1:=hX.free 1;have f2:=hX.free 2
 have s0:=hX.c0;have s1:=hX.c1;have s2:=hX.c2
 have XP:=hX.put (.int .i64 r) (.int .i64 c) (.slice (some ⟨g,0,none⟩) n n)
 have z0:=XP.c0;have z1:=XP.c1;have z2:=XP.c2
 have Q:=hide (hr.three (g:=w.heap.size+1) (by have:=uH HG;omega) (.int .i64 r) (.int .i64 c) (.slice (some ⟨g,0,none⟩) n n))
 have BP:=hide (below_putM hB (b:=w.heap.size+1) (by omega) (.int .i64 r) (.int .i64 c) (.slice (some ⟨g,0,none⟩) n n))
 clear hB hX hb hg hr XP HB HX K2 HG1
 go_wp2
 exact bodyPost_ret (v:=.tuple #[.agg #[.int .i64 r,.int .i64 c,.slice (some ⟨g,0,none⟩) n n],.int .i64 0]) (by simp [results,Tryz.results213,go_sem,z0,z1,z2]) rfl ⟨_,rfl,uH HG,uH Q,uH BP⟩
theorem apM_lt {r c:Nat} {S:List Nat} (hS:∀ p q,elM c S p q < 18446744073709551616) (i k:Nat) (vs:List Nat) (tau:Nat):∀ x ∈ apM r c S i k vs tau,x < 18446744073709551616:=by
 intro x hx
 unfold apM mkM at hx
 obtain ⟨p,_,rfl⟩:=List.mem_map.1 hx
 show (if _ then _ else _) < _
 split
 ·rename_i g
  exact apL_lt c S i _ vs tau (by omega) hS
 ·exact hS _ _
theorem pa_col (c:Nat) (S:List Nat) (i d n:Nat):paM c S i d n 1 = colL c S i n d:=by
 unfold paM mkM colL
 rw [Nat.mul_one]
 refine List.map_congr_left (fun p _=>?_)
 show elM c S (i+p / 1) (d+p % 1) = _
 rw [Nat.div_one,Nat.mod_one,Nat.add_zero]
theorem hApply_row (r c cap i k vc tau:Nat) (ao vo:Option Addr) (S vs:List Nat) (w:World) (h:Mx w ao cap r c S) (hV:BitsAt w vo vc (mxL vs)) (hi:i+vs.length≤r) (hk:k≤c) (ht:tau < 18446744073709551616) (hT:Tab w) :
  Calls Tryz.prog 213 #[.agg #[.int .i64 r,.int .i64 c,.slice ao S.length cap],.int .i64 i,.int .i64 k,.slice vo vs.length vc,.int .u64 tau] w fun e w'=>∃ g,e = .returned (.tuple #[.agg #[.int .i64 r,.int .i64 c,.slice (some ⟨g,0,none⟩) S.length S.length],.int .i64 0])∧w.heap.size+2≤g∧RowB w' g (apM r c S i k vs tau)∧Below w.heap.size w w':=by
 have h36:=h.small
 have r6:=h.2.2.1
 have c6:=h.2.2.2
 refine happly_of r c S.length cap i k vs.length vc tau ao vo (apM r c S i k vs tau) w r6 hi hk (fun w'=>?_) (fun w' hb=>?_)
 ·have:=mcheck_any (r:Int) (c:Int) ao S.length cap w' (by omega)
  rw [if_pos (mx_ok h)] at this
  exact this
 have hM:=h.below hb
 have hV':=hV.below hb
 have hT':=hT.all hb
 rw [← apJ_all r c S i k vs tau c (Nat.le_refl _)]
 refine mirrored_of r c S.length cap i k vs.length vc tau ao vo (fun d j=>apJ r c S i k vs tau d j) (fun d=>mxL (colL c S i vs.length d)) (fun d j=>(i+j) * c+d) (fun d j=>(apL c S i d vs tau).getD j 0) (fun d=>mV tau (dtV 0 vs (colL c S i vs.length d))) w' h36 c6 r6 hi hk
  (by show BitsAt w' ao cap (mxL (apJ r c S i k vs tau k 0));rw [apJ_0 r c S i k vs tau h.2.1];exact hM.1) (fun d j=>by rw [apJ_len,h.2.1]) (fun d=>apJ_next r c S i k vs tau d)
  (fun d j hd hdc hj=>⟨by rw [h.2.1];exact place_lt (by omega) hdc,rfl,apJ_set r c S hi hdc hd hj⟩) (fun w'' d hb2 hd hdc=>?_) (fun w'' d po pc hb2 hd hdc hX=>?_) (fun w'' d j po pc bx bt bv hb2 hd hdc hj hX hx ht' hv=>?_)
 ·refine (mPart_ok r c cap i d vs.length 1 ao S w'' (hM.below hb2) hi (by omega)).mono ?_
  rintro e w3 ⟨v,rfl,⟨po,pc,rfl,hn,hx⟩,hb3⟩
  rw [pa_col] at hn hx ⊢
  rw [colL_len]
  exact ⟨po,pc,rfl,hn,hx,hb3⟩
 ·have I:=himage_any po vo pc vc tau (colL c S i vs.length d) vs w'' hX (hV'.below hb2) (colL_len _ _ _ _ _) (by omega) ht (hT'.all hb2)
  rw [colL_len] at I
  exact I
 ·have hV2:=hV'.below hb2
  have hT2:=hT'.all hb2
  obtain ⟨b1,o1,e1,_,z1⟩:=hX.ne (by rw [mxL_len,colL_len];omega)
  obtain ⟨b2,o2,e2,_,z2⟩:=hV2.ne (by rw [mxL_len];omega)
  subst e1
  subst e2
  have q1:=z1 j (by rw [mxL_len,colL_len];exact hj)
  have q2:=z2 j (by rw [mxL_len];exact hj)
  rw [mxL_at,colL_at c S i vs.length d hj] at q1
  rw [mxL_at] at q2
  have lv:vs.getD j 0 < 18446744073709551616:=by
   have:=hV.lt j
   rwa [mxL_at] at this
  show Calls _ _ _ w'' fun e w3=>e = .returned (.int .u64 ((apL c S i d vs tau).getD j 0:Nat))∧_
  rw [apL_at c S i d vs tau hj]
  exact himage1_of _ _ _ (mV (mV tau (dtV 0 vs (colL c S i vs.length d))) (vs.getD j 0)) _ j vs.length vs.length pc vc bx bv bt b1 o1 b2 o2 w'' hj hj hx hv ht' q1 q2
   (fun w3 hb3=>vmul_any _ _ w3 (mV_lt _ _) lv (hT2.all hb3)) (fun w3 hb3=>psub_any _ _ w3 (h.el_lt _ _) (mV_lt _ _) (hT2.all hb3))
theorem hApply_ok (r c cap i k vc tau:Nat) (ao vo:Option Addr) (S vs:List Nat) (w:World) (h:Mx w ao cap r c S) (hV:BitsAt w vo vc (mxL vs)) (hi:i+vs.length≤r) (hk:k≤c) (ht:tau < 18446744073709551616) (hT:Tab w) :
  Calls Tryz.prog 213 #[.agg #[.int .i64 r,.int .i64 c,.slice ao S.length cap],.int .i64 i,.int .i64 k,.slice vo vs.length vc,.int .u64 tau] w fun e w'=>∃ v,e = .returned (.tuple #[v,.int .i64 0])∧NewM w.heap.size w' r c (apM r c S i k vs tau) v∧Below w.heap.size w w':=by
 refine (hApply_row r c cap i k vc tau ao vo S vs w h hV hi hk ht hT).mono ?_
 rintro e w' ⟨g,rfl,hg,hr,hb⟩
 have l:S.length = (apM r c S i k vs tau).length:=by rw [apM_len,h.2.1]
 have hr2:=hr.bits (apM_lt (fun p q=>h.el_lt p q) i k vs tau)
 refine ⟨_,rfl,⟨_,S.length,by rw [l],.inr ⟨g,0,rfl,by omega⟩,?_⟩,hb⟩
 rw [l]
 exact hr2
end Go.Proofs.YtlnphkioddknfaaGreatDoor
namespace Go.Proofs.YtlnphkioddknfaaGreatDoor
open Go.RowKit
theorem aV_left (a b:Nat) (h:fFin (aV a b) = true):fFin a = true:=by
 by_cases h4:fK a = 4
 ·unfold aV at h
  rw [if_pos (.inl h4)] at h
  exact absurd h (by decide +kernel)
 by_cases h3:fK a = 3
 ·unfold aV at h
  by_cases hb:fK b = 4
  ·rw [if_pos (.inr hb)] at h
   exact absurd h (by decide +kernel)
  ·rw [if_neg (fun e=>e.elim h4 hb),if_pos h3] at h
   split at h
   ·exact absurd h (by decide +kernel)
   ·exact h
 exact fin_of a h3 h4
theorem finL_all (xs:List Nat):finL xs = true ↔ ∀ k,k < xs.length→fFin (xs.getD k 0) = true:=by
 unfold finL
 rw [fnK_all]
 exact ⟨fun h k hk=>by have:=h k hk;rwa [mxL_at] at this,fun h k hk=>by rw [mxL_at];exact h k hk⟩
theorem ap_left {r c:Nat} {S:List Nat} (hl:S.length = r * c) (i k:Nat) (vs:List Nat) (tau:Nat) (h:finL (apM r c S i k vs tau) = true):finL S = true:=by
 rw [finL_all] at h ⊢
 intro x hx
 rw [apM_len] at h
 rw [hl] at hx
 obtain ⟨h1,h2,h3⟩:=place_in hx
 have hf:fFin (elM c (apM r c S i k vs tau) (x / c) (x % c)) = true:=by
  have:=h x hx
  unfold elM
  rwa [h3]
 rw [el_ap r c S i k vs tau h1 h2] at hf
 have e:S.getD x 0 = elM c S (x / c) (x % c):=by unfold elM;rw [h3]
 rw [e]
 split at hf
 ·rename_i g
  rw [apL_at c S i (x % c) vs tau (j:=x / c - i) (by omega)] at hf
  have:=aV_left _ _ hf
  rwa [show i+(x / c - i) = x / c by omega] at this
 ·exact hf
theorem qrQ_left (r c:Nat) (S:List Nat) (K:Nat):∀ t d,finL (qrQ r c S K (t+d)) = true→finL (qrQ r c S K t) = true:=by
 intro t d
 induction d with
 | zero=>exact fun h=>h
 | succ d ih=>exact fun h=>ih (ap_left (qrQ_len r c S K (t+d)) _ _ _ _ h)
theorem pa_self (r c:Nat) (S:List Nat) (h:S.length = r * c):paM c S 0 0 r c = S:=by
 conv=>rhs;rw [← mkM_of r c S h]
 unfold paM
 refine mkM_congr (fun p q _ _=>?_)
 rw [Nat.zero_add,Nat.zero_add]
 rfl
theorem triangle_any (r c cap:Nat) (ao:Option Addr) (S:List Nat) (w:World) (h:Mx w ao cap r c S) (hT:Tab w) :
  Calls Tryz.prog 174 #[.agg #[.int .i64 r,.int .i64 c,.slice ao S.length cap]] w fun e w'=>TriAns w w' (qrK r c S (qrN r c)) r c S.length (qrN r c) (facR r c S) (fun j=>mrV (qrX r c S j)) (fun j=>mrT (qrX r c S j)) e∧Below w.heap.size w w':=by
 have hl:=h.2.1
 have r6:=h.2.2.1
 have c6:=h.2.2.2
 have lR:=fun j=>(qrR_len r c S hl j).trans hl.symm
 have lX:∀ j,(qrX r c S j).length = r - j:=qrX_len r c S
 have lV:∀ j,(mrV (qrX r c S j)).length = r - j:=fun j=>by rw [mrV_len,lX]
 refine qtri_of r c S.length cap (qrN r c) (min (c:Int) ((r:Int) - 1)) ao (qrR r c S) (fun j=>mrV (qrX r c S j)) (fun j=>mrT (qrX r c S j)) (fun j=>finL (qrX r c S j) && mrK (qrX r c S j)) (qrK r c S (qrN r c)) w r6 c6 rfl (fun j=>by rw [qrN_lt];omega) lR lV (fun j _=>qrR_lt h.1.nat (j+1)) ?_ ?_ ?_
 ·rw [qrK_all]
  exact ⟨fun q j hj=>by rw [(q j hj).1,(q j hj).2];rfl,fun q j hj=>by have:=q j hj;rwa [Bool.and_eq_true] at this⟩
 ·intro w' hb
  refine (mPart_ok r c cap 0 0 r c ao S w' (h.below hb) (by omega) (by omega)).mono ?_
  rintro e w'' ⟨v,rfl,⟨po,pc,rfl,hn,hx⟩,hb2⟩
  rw [pa_self r c S hl] at hn hx ⊢
  exact ⟨po,pc,rfl,hn,hx,hb2⟩
 ·intro w1 j po pc hj hb1 hp
  have hj2:=(qrN_lt r c j).1 hj
  have hT1:=hT.all hb1
  refine down_of r c S.length pc j (r - j) (mrT (qrX r c S j)) (mrB (qrX r c S j)) po (qrR r c S j) (apM r c (qrR r c S j) j j (mrV (qrX r c S j)) (mrT (qrX r c S j))) (qrR r c S (j+1)) (qrX r c S j) (mrV (qrX r c S j)) _ w1 r6 (by omega) rfl hp (fun w' hb=>?_) (fun w' bo d ho hb hx=>?_) (fun w' bo d ho hb hx=>?_) (fun w' vo vc hb hp hv=>?_) (fun w' g hrow=>?_)
  ·have:=mPart_ok r c pc j j (r - j) 1 po (qrR r c S j) w' ⟨hb,qrR_len r c S hl j,r6,c6⟩ (by omega) (by omega)
   rw [lR j] at this
   refine this.mono ?_
   rintro e w'' ⟨v,rfl,⟨bo,d,rfl,hn,hx⟩,hb2⟩
   rw [pa_col] at hx ⊢
   rw [colL_len]
   exact ⟨bo,d,rfl,hx,hb2⟩
  ·rw [Bool.and_eq_true] at ho
   have:=hMake_ok bo d (mxL (qrX r c S j)) w' hx (by rw [mxL_len,lX];omega) (by rw [mxL_len,lX];omega) (by rw [mxL_len];exact ho.1) (by rw [toN_mxL];exact ho.2) (hT1.all hb)
   rw [toN_mxL,mxL_len,lX] at this
   exact this
  ·cases hf:finL (qrX r c S j)
   ·have:=hMake_inf bo d (mxL (qrX r c S j)) w' hx (by rw [mxL_len,lX];omega) (by rw [mxL_len,lX];omega) (by rw [mxL_len];exact hf)
    rw [mxL_len,lX] at this
    refine this.mono ?_
    rintro e w'' ⟨so,cs,rfl,hb2⟩
    exact ⟨so,cs,4,rfl,.inr rfl,hb2⟩
   ·have hk:mrK (qrX r c S j) = false:=by
     have:=ho
     rw [hf,Bool.true_and] at this
     exact this
    have:=hMake_none bo d (mxL (qrX r c S j)) w' hx (by rw [mxL_len,lX];omega) (by rw [mxL_len,lX];omega) (by rw [mxL_len];exact hf) (by rw [toN_mxL];exact hk) (hT1.all hb)
    rw [mxL_len,lX] at this
    refine this.mono ?_
    rintro e w'' ⟨so,cs,rfl,hb2⟩
    exact ⟨so,cs,2,rfl,.inl rfl,hb2⟩
  ·have:=hApply_row r c pc j j vc (mrT (qrX r c S j)) po vo (qrR r c S j) (mrV (qrX r c S j)) w' ⟨hp,qrR_len r c S hl j,r6,c6⟩ hv (by rw [lV];omega) (by omega) (mrT_lt _) (hT1.all hb)
   rw [lR j,lV] at this
   refine this.mono ?_
   rintro e w'' ⟨g,rfl,hg,hr,hb2⟩
   exact ⟨g,rfl,by omega,hr,hb2⟩
  ·have:=settle_any r c j (mrB (qrX r c S j)) g _ w' r6 c6 (by omega) (by omega) (apM_len r c (qrR r c S j) j j (mrV (qrX r c S j)) (mrT (qrX r c S j))) hrow
   rw [apM_len,← hl] at this
   exact this
theorem upright_any (r c lc:Nat) (lo:Option Addr) (S:List Nat) (R:List Mr) (w:World) (hr:r≤6) (hc:c≤6) (hl:OwnMt 0 w (.slice lo (qrN r c) lc) R) (hRl:R.length = qrN r c) (hRm:∀ k,k < qrN r c→(mrAt R k).V = mrV (qrX r c S k)∧(mrAt R k).tau = mrT (qrX r c S k)) (hT:Tab w) :
  Calls Tryz.prog 175 #[.int .i64 r,.slice lo (qrN r c) lc] w fun e w'=>∃ Q qo qc,(Q = facQ r c S ∨ (fnK (mxL Q) (r * r) = false∧finL (facQ r c S) = false))∧Q.length = r * r∧e = .returned (.agg #[.int .i64 r,.int .i64 r,.slice qo (r * r) qc])∧NewB w.heap.size qo (mxL Q)∧BitsAt w' qo qc (mxL Q)∧Below w.heap.size w w':=by
 have lX:∀ j,(qrX r c S j).length = r - j:=qrX_len r c S
 have lV:∀ j,(mrV (qrX r c S j)).length = r - j:=fun j=>by rw [mrV_len,lX]
 have hK:qrN r c≤6:=by unfold qrN;omega
 refine (upright_of r (r * r) (qrN r c) lc lo (fun j=>mrV (qrX r c S j)) (qrQ r c S (qrN r c)) (fun j=>mrT (qrX r c S j)) R w (Nat.mul_le_mul hr hr) hK hl hRl hRm (qrQ_len r c S _) lV ?_ ?_ (fun w' x hx=>sfinite_any x w' hx)).mono ?_
 ·intro w'
  refine (mEye_ok r w' hr).mono ?_
  rintro e w'' ⟨v,rfl,⟨qo,qc,rfl,hn,hb⟩,hb2⟩
  exact ⟨qo,qc,by rw [show (eyM r).length = r * r from mkM_len r r _],hn,hb,hb2⟩
 ·intro w' t j po pc vo vc ht hj hb hp hv
  have hj2:=(qrN_lt r c j).1 (by omega)
  have:=hApply_ok r r pc j 0 vc (mrT (qrX r c S j)) po vo (qrQ r c S (qrN r c) t) (mrV (qrX r c S j)) w' ⟨hp,qrQ_len r c S _ t,hr,hr⟩ hv (by rw [lV];omega) (by omega) (mrT_lt _) (hT.all hb)
  rw [qrQ_len,lV] at this
  refine this.mono ?_
  rintro e w'' ⟨v,rfl,⟨qo,qc,rfl,hn,hx⟩,hb2⟩
  rw [apM_len]
  have e:apM r r (qrQ r c S (qrN r c) t) j 0 (mrV (qrX r c S j)) (mrT (qrX r c S j)) = qrQ r c S (qrN r c) (t+1):=by
   show _ = apM r r (qrQ r c S (qrN r c) t) (qrN r c - 1 - t) 0 (mrV (qrX r c S (qrN r c - 1 - t))) (mrT (qrX r c S (qrN r c - 1 - t)))
   rw [← hj]
  rw [e] at hn hx
  exact ⟨qo,qc,rfl,hn,hx,hb2⟩
 ·rintro e w' ⟨t,qo,qc,ht,hor,rfl,hn,hx,hb⟩
  refine ⟨_,qo,qc,?_,qrQ_len r c S _ t,rfl,hn,hx,hb⟩
  rcases hor with e | e
  ·left;rw [e];rfl
  ·right
   refine ⟨e,?_⟩
   cases hf:finL (facQ r c S)
   ·rfl
   ·have h2:=qrQ_left r c S (qrN r c) t (qrN r c - t) (by rw [show t+(qrN r c - t) = qrN r c by omega];exact hf)
    unfold finL at h2
    rw [qrQ_len,e] at h2
    cases h2
theorem qFactor_row (r c cap:Nat) (ao:Option Addr) (S:List Nat) (w:World) (h:Mx w ao cap r c S) (hf:finL S = true) (hT:Tab w) :
  Calls Tryz.prog 124 #[.agg #[.int .i64 r,.int .i64 c,.slice ao S.length cap]] w fun e w'=>((facK r c S = true∧FacYes w w' r c S.length (r * r) (qrN r c) (facQ r c S) (facR r c S) e) ∨ (facK r c S = false∧∃ v u,e = .returned (.tuple #[v,u,.int .i64 2])∧NewM w.heap.size w' 0 0 [] v∧NewM w.heap.size w' 0 0 [] u))∧Below w.heap.size w w':=by
 have hl:=h.2.1
 have r6:=h.2.2.1
 have c6:=h.2.2.2
 have h36:=h.small
 have hq36:r * r≤36:=Nat.mul_le_mul r6 r6
 have lr:(facR r c S).length = S.length:=(qrR_len r c S hl _).trans hl.symm
 have hck:ckE (r:Int) (c:Int) (mxL S) = 0:=by
  unfold ckE
  rw [mxL_len,mx_ok h]
  have:fnK (mxL S) S.length = true:=hf
  rw [this]
  rfl
 refine factor_of r c S.length (r * r) (qrN r c) cap ao (facR r c S) (facQ r c S) (fun j=>mrV (qrX r c S j)) (fun j=>mrT (qrX r c S j)) (qrK r c S (qrN r c)) (finL (facQ r c S)) (finL (facR r c S)) w lr (qrQ_len _ _ _ _ _) (by unfold finL;rw [show (facQ r c S).length = r * r from qrQ_len _ _ _ _ _]) ?_ (fun w' hb=>triangle_any r c cap ao S w' (h.below hb) (hT.all hb)) (fun w' lo lc R hb h1 h2 h3=>upright_any r c lc lo S R w' r6 c6 h1 h2 h3 (hT.all hb)) ?_ ?_
 ·intro w' hb
  have:=ccheck_any r c ao cap (mxL S) w' (h.1.below hb) (by rw [mxL_len];omega)
  rw [mxL_len,hck] at this
  exact this
 ·intro w' Q qo qc hb hl2
  have:=vFinite_any qo qc (mxL Q) w' hb (by rw [mxL_len];omega)
  rw [mxL_len,hl2] at this
  exact this
 ·intro w' ro rc hb
  have:=vFinite_any ro rc (mxL (facR r c S)) w' hb (by rw [mxL_len];omega)
  unfold finL
  rw [mxL_len,lr] at this
  rw [lr]
  exact this
theorem qFactor_any (r c cap:Nat) (ao:Option Addr) (S:List Nat) (w:World) (h:Mx w ao cap r c S) (hf:finL S = true) (hT:Tab w) :
  Calls Tryz.prog 124 #[.agg #[.int .i64 r,.int .i64 c,.slice ao S.length cap]] w fun e w'=>((facK r c S = true∧∃ v u,e = .returned (.tuple #[v,u,.int .i64 0])∧NewM w.heap.size w' r r (facQ r c S) v∧NewM w.heap.size w' r c (facR r c S) u) ∨ (facK r c S = false∧∃ v u,e = .returned (.tuple #[v,u,.int .i64 2])∧NewM w.heap.size w' 0 0 [] v∧NewM w.heap.size w' 0 0 [] u))∧Below w.heap.size w w':=by
 refine (qFactor_row r c cap ao S w h hf hT).mono ?_
 rintro e w' ⟨⟨hk,h1⟩ | h1,hb⟩
 ·exact ⟨.inl ⟨hk,h1.two (qrQ_len _ _ _ _ _) ((qrR_len r c S h.2.1 _).trans h.2.1.symm)⟩,hb⟩
 ·exact ⟨.inr h1,hb⟩
theorem qFactor_yes (r c cap:Nat) (ao:Option Addr) (S:List Nat) (w:World) (h:Mx w ao cap r c S) (hf:finL S = true) (hk:facK r c S = true) (hT:Tab w) :
  Calls Tryz.prog 124 #[.agg #[.int .i64 r,.int .i64 c,.slice ao S.length cap]] w fun e w'=>∃ v u,e = .returned (.tuple #[v,u,.int .i64 0])∧NewM w.heap.size w' r r (facQ r c S) v∧NewM w.heap.size w' r c (facR r c S) u∧Below w.heap.size w w':=by
 refine (qFactor_any r c cap ao S w h hf hT).mono ?_
 rintro e w' ⟨⟨_,v,u,rfl,h1,h2⟩ | ⟨hk2,_⟩,hb⟩
 ·exact ⟨v,u,rfl,h1,h2,hb⟩
 ·rw [hk] at hk2;cases hk2
theorem qFactor_no (r c cap:Nat) (ao:Option Addr) (S:List Nat) (w:World) (h:Mx w ao cap r c S) (hf:finL S = true) (hk:facK r c S = false) (hT:Tab w) :
  Calls Tryz.prog 124 #[.agg #[.int .i64 r,.int .i64 c,.slice ao S.length cap]] w fun e w'=>∃ v u,e = .returned (.tuple #[v,u,.int .i64 2])∧NewM w.heap.size w' 0 0 [] v∧NewM w.heap.size w' 0 0 [] u∧Below w.heap.size w w':=by
 refine (qFactor_any r c cap ao S w h hf hT).mono ?_
 rintro e w' ⟨⟨hk2,_⟩ | ⟨_,v,u,rfl,h1,h2⟩,hb⟩
 ·rw [hk] at hk2;cases hk2
 ·exact ⟨v,u,rfl,h1,h2,hb⟩
theorem qThin_yes (r c cap:Nat) (ao:Option Addr) (S:List Nat) (w:World) (h:Mx w ao cap r c S) (hf:finL S = true) (hk:facK r c S = true) (hT:Tab w) :
  Calls Tryz.prog 71 #[.agg #[.int .i64 r,.int .i64 c,.slice ao S.length cap]] w fun e w'=>∃ v u,e = .returned (.tuple #[v,u,.int .i64 0])∧NewM w.heap.size w' r (min r c) (paM r (facQ r c S) 0 0 r (min r c)) v∧NewM w.heap.size w' (min r c) c (paM c (facR r c S) 0 0 (min r c) c) u∧Below w.heap.size w w':=by
 have r6:=h.2.2.1
 have c6:=h.2.2.2
 have lq:(facQ r c S).length = r * r:=qrQ_len _ _ _ _ _
 have lr:(facR r c S).length = r * c:=qrR_len r c S h.2.1 _
 refine thin_of r c S.length cap (min r c) (r * r) (r * c) (r * min r c) (min r c * c) ao (facQ r c S) (facR r c S) _ _ w (by omega) lq lr (mkM_len _ _ _) (mkM_len _ _ _) (fun w' hb=>qFactor_yes r c cap ao S w' (h.below hb) hf hk (hT.all hb)) (fun w' qo qc hq=>?_) (fun w' ro rc hr=>?_)
 ·have:=mPart_ok r r qc 0 0 r (min r c) qo (facQ r c S) w' ⟨hq,lq,r6,r6⟩ (by omega) (by omega)
  rw [lq] at this
  exact this
 ·have:=mPart_ok r c rc 0 0 (min r c) c ro (facR r c S) w' ⟨hr,lr,r6,c6⟩ (by omega) (by omega)
  rw [lr] at this
  exact this
theorem qThin_no (r c cap:Nat) (ao:Option Addr) (S:List Nat) (w:World) (h:Mx w ao cap r c S) (hf:finL S = true) (hk:facK r c S = false) (hT:Tab w) :
  Calls Tryz.prog 71 #[.agg #[.int .i64 r,.int .i64 c,.slice ao S.length cap]] w fun e w'=>∃ v u,e = .returned (.tuple #[v,u,.int .i64 2])∧NewM w.heap.size w' 0 0 [] v∧NewM w.heap.size w' 0 0 [] u∧Below w.heap.size w w' :=
 thin_err r c ao S.length cap 2 w (.inr (.inr rfl)) (fun w' hb=>qFactor_no r c cap ao S w' (h.below hb) hf hk (hT.all hb))
theorem qTurned_yes (r c s cap d:Nat) (ao bo:Option Addr) (S T:List Nat) (w:World) (h:Mx w ao cap r c S) (h2:Mx w bo d r s T) (hT:Tab w) :
  Calls Tryz.prog 72 #[.agg #[.int .i64 r,.int .i64 c,.slice ao S.length cap],.agg #[.int .i64 r,.int .i64 s,.slice bo T.length d]] w fun e w'=>∃ v,e = .returned (.tuple #[v,.int .i64 0])∧NewM w.heap.size w' c s (muM c r s (tuM r c S) T) v∧Below w.heap.size w w':=by
 have lt:(tuM r c S).length = c * r:=mkM_len _ _ _
 refine qturned_of r c ao S.length cap r s bo T.length d (c * r) _ c r c s (tuM r c S) (muM c r s (tuM r c S) T) 0 w lt rfl (fun w' hb=>mTurn_ok r c cap ao S w' (h.below hb)) (fun w' po pc hb hx=>?_)
 have:=mMul_ok c r pc s d po bo (tuM r c S) T w' ⟨hx,lt,h.2.2.2,h.2.2.1⟩ (h2.below hb) (hT.all hb)
 rw [lt] at this
 exact this
end Go.Proofs.YtlnphkioddknfaaGreatDoor
namespace Go.Proofs.YtlnphkioddknfaaGreatDoor
open Go.RowKit
def trS (T:Nat→Nat→Nat) (X:Nat→Nat) (dn:Nat→Nat→Bool) (i s:Nat):Nat→Nat
 | 0=>s
 | k+1=>if dn i k = true then aV (trS T X dn i s k) (fN (mV (T i k) (X k))) else trS T X dn i s k
def trU (X:Nat→Nat) (i x:Nat):Nat→Nat:=fun k=>if k = i then x else X k
def trX (n:Nat) (T:Nat→Nat→Nat) (b:Nat→Nat) (o:Nat→Nat) (dn:Nat→Nat→Bool):Nat→Nat→Nat
 | 0=>fun _=>0
 | m+1=>trU (trX n T b o dn m) (o m) (dV (trS T (trX n T b o dn m) dn (o m) (b (o m)) n) (T (o m) (o m)))
def trN (n:Nat) (T:Nat→Nat→Nat) (b:Nat→Nat) (o:Nat→Nat) (dn:Nat→Nat→Bool) (m:Nat):Nat:=dV (trS T (trX n T b o dn m) dn (o m) (b (o m)) n) (T (o m) (o m))
theorem trS_lt (T:Nat→Nat→Nat) (X:Nat→Nat) (dn:Nat→Nat→Bool) (i s:Nat) (hs:s < 18446744073709551616):∀ k,trS T X dn i s k < 18446744073709551616
 | 0=>hs
 | k+1=>by
  show (if _ then _ else _) < _
  split
  ·exact aV_lt _ _ (trS_lt T X dn i s hs k) (fN_lt _ (mV_lt _ _))
  ·exact trS_lt T X dn i s hs k
theorem trX_lt (n:Nat) (T:Nat→Nat→Nat) (b o:Nat→Nat) (dn:Nat→Nat→Bool):∀ m i,trX n T b o dn m i < 18446744073709551616
 | 0,_=>by show (0:Nat) < _;decide
 | m+1,i=>by
  show (if _ then _ else _) < _
  split
  ·exact dV_lt _ _
  ·exact trX_lt n T b o dn m i
structure Ordr (n:Nat) (o:Nat→Nat):Prop where
 lt:∀ m,m < n→o m < n
 inj:∀ m t,m < n→t < n→o m = o t→m = t
 all:∀ i,i < n→∃ m,m < n∧o m = i
theorem ord_last (n:Nat):Ordr n (fun m=>n - 1 - m):=⟨fun m hm=>by show n - 1 - m < n;omega,fun m t hm ht h=>by have h2:n - 1 - m = n - 1 - t:=h;omega,fun i hi=>⟨n - 1 - i,by omega,by show n - 1 - (n - 1 - i) = i;omega⟩⟩
theorem ord_first (n:Nat):Ordr n (fun m=>m):=⟨fun _ h=>h,fun _ _ _ _ h=>h,fun i hi=>⟨i,hi,rfl⟩⟩
theorem trX_at {n:Nat} {T:Nat→Nat→Nat} {b o:Nat→Nat} {dn:Nat→Nat→Bool} (h:Ordr n o) {m:Nat}:∀ t,m < t→t≤n→trX n T b o dn t (o m) = trN n T b o dn m:=by
 intro t
 induction t with
 | zero=>intro g _;omega
 | succ t ih =>
  intro h1 h2
  show (if o m = o t then _ else _) = _
  rcases Nat.lt_or_ge m t with g | g
  ·rw [if_neg (fun e=>by have:=h.inj m t (by omega) (by omega) e;omega)]
   exact ih g (by omega)
  ·have e:m = t:=by omega
   subst e
   rw [if_pos rfl]
   rfl
def trM (n q:Nat) (T B:Nat→Nat→Nat) (o:Nat→Nat) (dn:Nat→Nat→Bool):List Nat:=mkM n q (fun i k=>trX n T (fun p=>B p k) o dn n i)
def trJ (n q:Nat) (T B:Nat→Nat→Nat) (o:Nat→Nat) (dn:Nat→Nat→Bool) (c m:Nat):List Nat:=mkM n q (fun i k=>if k < c then trX n T (fun p=>B p k) o dn n i else if k = c then trX n T (fun p=>B p k) o dn m i else 0)
theorem trM_len (n q:Nat) (T B:Nat→Nat→Nat) (o:Nat→Nat) (dn:Nat→Nat→Bool):(trM n q T B o dn).length = n * q:=mkM_len _ _ _
theorem trJ_len (n q:Nat) (T B:Nat→Nat→Nat) (o:Nat→Nat) (dn:Nat→Nat→Bool) (c m:Nat):(trJ n q T B o dn c m).length = n * q:=mkM_len _ _ _
theorem trJ_start (n q:Nat) (T B:Nat→Nat→Nat) (o:Nat→Nat) (dn:Nat→Nat→Bool):mkM n q (fun _ _=>0) = trJ n q T B o dn 0 0:=mkM_congr (fun i k _ _=>by
 rw [if_neg (by omega)]
 by_cases h:k = 0
 ·rw [if_pos h];rfl
 ·rw [if_neg h])
theorem trJ_col (n q:Nat) (T B:Nat→Nat→Nat) (o:Nat→Nat) (dn:Nat→Nat→Bool) (c:Nat):trJ n q T B o dn c n = trJ n q T B o dn (c+1) 0:=mkM_congr (fun i k _ _=>by
 by_cases h:k < c
 ·rw [if_pos h,if_pos (by omega)]
 ·by_cases h2:k = c
  ·rw [if_neg h,if_pos h2,if_pos (by omega)]
  ·rw [if_neg h,if_neg h2,if_neg (by omega)]
   by_cases h3:k = c+1
   ·rw [if_pos h3];rfl
   ·rw [if_neg h3])
theorem trJ_end (n q:Nat) (T B:Nat→Nat→Nat) (o:Nat→Nat) (dn:Nat→Nat→Bool):trJ n q T B o dn q 0 = trM n q T B o dn:=mkM_congr (fun i k _ hk=>by rw [if_pos hk])
theorem trJ_at {n q:Nat} (T B:Nat→Nat→Nat) (o:Nat→Nat) (dn:Nat→Nat→Bool) {c m k:Nat} (hk:k < n) (hc:c < q):elM q (trJ n q T B o dn c m) k c = trX n T (fun p=>B p c) o dn m k:=by
 unfold trJ
 rw [el_mk n q _ hk hc,if_neg (Nat.lt_irrefl c),if_pos rfl]
theorem trJ_set {n q:Nat} (T B:Nat→Nat→Nat) {o:Nat→Nat} (dn:Nat→Nat→Bool) (h:Ordr n o) {c m:Nat} (hm:m < n) (hc:c < q):(trJ n q T B o dn c m).set (o m * q+c) (trN n T (fun p=>B p c) o dn m) = trJ n q T B o dn c (m+1):=by
 unfold trJ
 rw [mkM_set n q _ _ (h.lt m hm) hc]
 refine mkM_congr (fun i k _ _=>?_)
 by_cases hk:k = c
 ·subst hk
  rw [if_neg (Nat.lt_irrefl k),if_pos rfl,if_neg (Nat.lt_irrefl k),if_pos rfl]
  show _ = if i = o m then _ else _
  by_cases hi:i = o m
  ·rw [if_pos ⟨hi,rfl⟩,if_pos hi];rfl
  ·rw [if_neg (fun e=>hi e.1),if_neg hi]
 ·rw [if_neg (fun e=>hk e.2)]
  by_cases h2:k < c
  ·rw [if_pos h2,if_pos h2]
  ·rw [if_neg h2,if_neg hk,if_neg h2,if_neg hk]
theorem trM_fin {n q:Nat} {T B:Nat→Nat→Nat} {o:Nat→Nat} {dn:Nat→Nat→Bool} (h:Ordr n o):finL (trM n q T B o dn) = true ↔ ∀ c m,c < q→m < n→fFin (trN n T (fun p=>B p c) o dn m) = true:=by
 rw [finL_all,trM_len]
 constructor
 ·intro g c m hc hm
  have:=g (o m * q+c) (place_lt (h.lt m hm) hc)
  unfold trM at this
  rw [mkM_atD _ _ _ (h.lt m hm) hc,trX_at h n hm (Nat.le_refl n)] at this
  exact this
 ·intro g p hp
  obtain ⟨h1,h2,h3⟩:=place_in hp
  obtain ⟨m,hm,e⟩:=h.all _ h1
  unfold trM
  rw [← h3,mkM_atD _ _ _ h1 h2,← e,trX_at h n hm (Nat.le_refl n)]
  exact g _ m h2 hm
def dnU (i k:Nat):Bool:=decide (i < k)
def dnL (i k:Nat):Bool:=decide (k < i)
theorem trS_stop (T:Nat→Nat→Nat) (X:Nat→Nat) (dn:Nat→Nat→Bool) (i s j:Nat):∀ k,j≤k→(∀ p,j≤p→p < k→dn i p = false)→trS T X dn i s k = trS T X dn i s j:=by
 intro k
 induction k with
 | zero=>intro h _;rw [Nat.le_zero.1 h]
 | succ k ih =>
  intro h1 h2
  rcases Nat.eq_or_lt_of_le h1 with e | g
  ·rw [e]
  ·show (if _ then _ else _) = _
   rw [h2 k (by omega) (Nat.lt_succ_self k),if_neg (by decide)]
   exact ih (by omega) (fun p h3 h4=>h2 p h3 (by omega))
def upM (n q:Nat) (R B:List Nat):List Nat:=trM n q (elM n R) (elM q B) (fun m=>n - 1 - m) dnU
def loM (n q:Nat) (R B:List Nat):List Nat:=trM n q (elM n R) (elM q B) (fun m=>m) dnL
def dgL (r c:Nat) (S:List Nat):List Nat:=(List.range (min r c)).map (fun i=>elM c S i i)
theorem dgL_len (r c:Nat) (S:List Nat):(dgL r c S).length = min r c:=by unfold dgL;rw [List.length_map,List.length_range]
def zdB (xs:List Nat):Bool:=xs.any (fun x=>decide (fK x = 0))
def ltB (a b:Nat):Bool:=decide (cO a b < 0)
def ftB (r c:Nat) (S:List Nat):Bool:=(dgL r c S).any (fun x=>!ltB (xV (bgF 0 (dgL r c S)) (-40)) (fR x))
end Go.Proofs.YtlnphkioddknfaaGreatDoor
namespace Go.Proofs.YtlnphkioddknfaaGreatDoor
open Go.RowKit
attribute [local go_sem ↓] Go.wp_at_zero Go.wp_at_succ
theorem build_own (fn:Nat) (caps:Array Value) (r c:Nat) (f:Nat→Nat→Nat) (w:World)
  (hcf:∀ args w,(callFunc fn args).run Tryz.prog w = .ok (.enter fn args) w) (hr:r≤6) (hc:c≤6) (hf:∀ i k,i < r→k < c→f i k < 18446744073709551616)
  (hstep:∀ w' i k,Below w.heap.size w w'→i < r→k < c→Calls Tryz.prog fn (#[.int .i64 (i:Nat),.int .i64 (k:Nat)] ++ caps) w' fun e w''=>e = .returned (.int .u64 (f i k:Nat))∧Below w'.heap.size w' w'') :
  Calls Tryz.prog 178 #[.int .i64 r,.int .i64 c,.func (.func fn) #[] caps] w fun e w'=>∃ ao cap,e = .returned (.agg #[.int .i64 r,.int .i64 c,.slice ao (r * c) cap])∧OwnB w.heap.size w' (.slice ao (r * c) cap) (mkM r c f)∧Below w.heap.size w w':=by
 obtain ⟨i0,hi0,hz0,hz1,hz2⟩:=info_parts infoBits
 have HS:=hide hstep;have HF:=hide hf
 have hm:(r:Int) * (c:Int) = ((r * c:Nat):Int):=cast_mul10 r c
 have h36:r * c≤36:=Nat.mul_le_mul hr hc
 have X0:=hide (BoxM.new w (.int .i64 0) (.int .i64 0) (.slice none 0 0))
 have B0:=hide (below_alloc9 w (.cells #[.int .i64 0,.int .i64 0,.slice none 0 0] 24))
 obtain ⟨w1,hmk,own1,gr1⟩:=run_make_own (P:=Tryz.prog) (w.alloc (.cells #[.int .i64 0,.int .i64 0,.slice none 0 0] 24)) (w.heap.size+1) 22 37 i0 (.int .u64 0) 1 Tryz.underlying22 hi0 hz0 hz1 .i64 .i64 (r * c) (by rw [hz2];omega) (by unfold maxLen;omega) (by simp)
 have B1:=hide ((uH B0).grown gr1 (by simp) (fun g hg=>by cases hg))
 have X1:BoxM w1 w.heap.size (.int .i64 0) (.int .i64 0) (.slice none 0 0):=(uH X0).grown gr1 (by simp)
 have O1:=hide (show OwnB (w.heap.size+1) w1 (.slice (some ⟨w.heap.size+1,0,none⟩) 0 (r * c)) (fsL (fun p=>f (p / c) (p % c)) (0 * c)) from ⟨by rw [Nat.zero_mul];simpa [fsL] using own1,by rw [Nat.zero_mul];intro x hx;cases hx⟩)
 have HX1:=hide X1
 clear own1 gr1 X0 B0 X1
 obtain ⟨F,hF⟩:∃ F:Nat→Nat,F = fun p=>f (p / c) (p % c):=⟨_,rfl⟩
 rw [← hF] at O1
 have FV:=hide (show ∀ j k,k < c→F (j * c+k) = f j k from fun j k hk=>by rw [hF];show f ((j * c+k) / c) ((j * c+k) % c) = _;rw [place_div hk,place_mod hk])
 have FM:=hide (show mkM r c f = fsL F (r * c) from by rw [hF];rfl)
 rw [uH FM]
 generalize hrc:r * c = n at *
 have HRC:=hide hrc
 clear hrc hstep hf hF
 go_enter Tryz.func178,Tryz.ntmps178
 go_wp2_with fail
 clear hmk
 go_loopw [7,15] (fun v i wr=>∃ j:Nat,j≤r∧i = .int .i64 j∧Hid (OwnB (w.heap.size+1) wr v (fsL F (j * c)))∧Hid (BoxM wr w.heap.size (.int .i64 0) (.int .i64 0) (.slice none 0 0))∧Hid (Below w.heap.size w wr)) (fun _ i _=>r - (intOf i).toNat)
 case atStart=>exact ⟨0,Nat.zero_le _,rfl,O1,HX1,B1⟩
 case round =>
  clear O1 HX1 B1
  obtain ⟨j,hj,rfl,hO,hX,hB⟩:=hrel
  by_cases hlt:j < r
  ·have hjI:(j:Int) < (r:Int):=by omega
   have hO':=hide (show OwnB (w.heap.size+1) wr _ (fsL F (j * c+0)) from uH hO)
   clear hO
   go_wp2_with fail
   go_loopw [7,19] (fun v i wr=>∃ k:Nat,k≤c∧i = .int .i64 k∧Hid (OwnB (w.heap.size+1) wr v (fsL F (j * c+k)))∧Hid (BoxM wr w.heap.size (.int .i64 0) (.int .i64 0) (.slice none 0 0))∧Hid (Below w.heap.size w wr)) (fun _ i _=>c - (intOf i).toNat)
   case atStart=>exact ⟨0,Nat.zero_le _,rfl,hO',hX,hB⟩
   case round =>
    clear hO' hX hB
    obtain ⟨k,hk,rfl,hO,hX,hB⟩:=hrel
    by_cases hkc:k < c
    ·have hkI:(k:Int) < (c:Int):=by omega
     have C:=hide (fun w' h=>uH HS w' j k h hlt hkc)
     have ho:=hide (uH HF j k hlt hkc)
     have eo:=hide (uH FV j k hkc)
     have hlen:=hide (show (fsL F (j * c+k)).length≤1000000 from by
      rw [fsL_len]
      have:=place_lt hlt hkc
      rw [uH HRC] at this
      omega)
     generalize f j k = o at *
     go_wp2_with fail
     refine (uH C _ hB.out).mono ?_
     rintro e w2 ⟨rfl,hb2⟩
     have own2:=(uH hO).below hb2
     have box2:=(uH hX).all hb2
     have B2:=hB.out.trans (hb2.mono hB.out.size)
     obtain ⟨v3,w3,run3,own3,bel3,_,_⟩:=own2.push o (uH ho) (uH hlen) (by have:=box2.lt;omega) 22
     have RUN:=hide run3
     have O3:=hide (show OwnB (w.heap.size+1) w3 v3 (fsL F (j * c+(k+1))) from by
      rw [← Nat.add_assoc,fsL_succ,uH eo];exact own3)
     have X3:=hide (box2.below bel3 (by omega))
     have B3:=hide (B2.trans (bel3.mono (by omega)))
     clear hb2 C hO hX hB own2 box2 B2 run3 own3 bel3 ho eo hlen
     go_wp2_with (at_builtin;refine wpList_append_ran _ rfl _ _ 22 rfl _ _ _ _ rfl rfl (uH RUN) ?_;clear RUN)
     go_round
     case rel=>exact ⟨k+1,by omega,by go_num,O3,X3,B3⟩
     case measure=>simp [intOf];omega
    ·have hkk:k = c:=by omega
     subst hkk
     have hO':=hide (show OwnB (w.heap.size+1) _ _ (fsL F ((j+1) * k)) from by rw [Nat.add_mul,Nat.one_mul];exact uH hO)
     clear hO
     go_wp2_with fail
     go_round
     case rel=>exact ⟨j+1,by omega,by go_num,hO',hX,hB⟩
     case measure=>simp [intOf];omega
  ·have hjj:j = r:=by omega
   subst hjj
   rw [uH HRC] at hO
   obtain ⟨b1,d1,e1,q1⟩:=(uH hO).bits
   have QO:=hide (((uH hO).putM (uH hX) (Nat.lt_succ_self _) (.int .i64 j) (.int .i64 c) u7).least (Nat.le_succ _))
   rw [fsL_len] at e1
   rw [e1] at QO
   subst e1
   have s0:=(uH hX).c0;have s1:=(uH hX).c1;have s2:=(uH hX).c2
   have f0:=(uH hX).free 0;have f1:=(uH hX).free 1;have f2:=(uH hX).free 2
   have XP:=(uH hX).put (.int .i64 j) (.int .i64 c) (.slice b1 n d1)
   have z0:=XP.c0;have z1:=XP.c1;have z2:=XP.c2
   have BP:=hide (below_putM (uH hB) (Nat.le_refl _) (.int .i64 j) (.int .i64 c) (.slice b1 n d1))
   clear q1 hO hX hB XP
   go_wp2
   exact bodyPost_ret (v:=.agg #[.int .i64 j,.int .i64 c,.slice b1 n d1]) (by simp [results,Tryz.results178,go_sem,z0,z1,z2]) rfl ⟨b1,d1,rfl,uH QO,uH BP⟩
theorem mzeros_own (r c:Nat) (w:World) (hr:r≤6) (hc:c≤6) :
  Calls Tryz.prog 163 #[.int .i64 r,.int .i64 c] w fun e w'=>∃ ao cap,e = .returned (.tuple #[.agg #[.int .i64 r,.int .i64 c,.slice ao (r * c) cap],.int .i64 0])∧OwnB w.heap.size w' (.slice ao (r * c) cap) (mkM r c (fun _ _=>0))∧Below w.heap.size w w':=by
 have K:=hide (fun w'=>inRange_any r c w')
 rw [show rgB (r:Int) (c:Int) = true from decide_eq_true (by omega)] at K
 have s0:=size_alloc9 w (.cells #[.int .i64 0,.int .i64 0,.slice none 0 0] 24)
 have KT:=hide ((build_own 199 #[] r c (fun _ _=>0) (w.alloc (.cells #[.int .i64 0,.int .i64 0,.slice none 0 0] 24)) cfZeros1 hr hc (fun _ _ _ _=>by decide) (fun w' i k _ _ _=>zeros1_any i k w')).mono (R':=fun e w''=>∃ ao cap,e = .returned (.agg #[.int .i64 r,.int .i64 c,.slice ao (r * c) cap])∧OwnB (w.heap.size+1) w'' (.slice ao (r * c) cap) (mkM r c (fun _ _=>0))∧Below w.heap.size w w''∧BoxM w'' w.heap.size (.int .i64 0) (.int .i64 0) (.slice none 0 0)) (by
  rintro e w'' ⟨ao,cap,rfl,h1,h2⟩
  have b:=below_alloc9 w (.cells #[.int .i64 0,.int .i64 0,.slice none 0 0] 24)
  rw [s0] at h1
  exact ⟨ao,cap,rfl,h1,b.trans (h2.mono b.size),(BoxM.new w (.int .i64 0) (.int .i64 0) (.slice none 0 0)).all h2⟩))
 generalize r * c = n at *
 clear s0
 go_enter Tryz.func163,Tryz.ntmps163
 go_wp2_with fail
 refine (uH K _).mono ?_
 rintro e w1 ⟨rfl,rfl⟩
 clear K
 go_wp2_with fail
 refine Calls.mono (uH KT) ?_
 clear KT
 rintro e w2 ⟨ro,rd,rfl,ho,hb2,hX⟩
 have f0:=hX.free 0;have f1:=hX.free 1;have f2:=hX.free 2
 have XP:=hX.put (.int .i64 r) (.int .i64 c) (.slice ro n rd)
 have z0:=XP.c0;have z1:=XP.c1;have z2:=XP.c2
 have s0:=hX.c0;have s1:=hX.c1;have s2:=hX.c2
 have Q:=hide ((ho.putM hX (Nat.lt_succ_self _) (.int .i64 r) (.int .i64 c) (.slice ro n rd)).least (Nat.le_succ _))
 have BP:=hide (below_putM hb2 (b:=w.heap.size) (by omega) (.int .i64 r) (.int .i64 c) (.slice ro n rd))
 clear XP ho hb2 hX
 go_wp2
 exact bodyPost_ret (v:=.tuple #[.agg #[.int .i64 r,.int .i64 c,.slice ro n rd],.int .i64 0]) (by simp [results,Tryz.results163,go_sem,z0,z1,z2]) rfl ⟨_,_,rfl,uH Q,uH BP⟩
theorem cfLast (args:Array Value) (w:World):(callFunc 46 args).run Tryz.prog w = .ok (.enter 46 args) w:=by
 simp only [callFunc,go_sem]
 rfl
theorem cfFirst (args:Array Value) (w:World):(callFunc 54 args).run Tryz.prog w = .ok (.enter 54 args) w:=by
 simp only [callFunc,go_sem]
 rfl
theorem cfUp1 (args:Array Value) (w:World):(callFunc 47 args).run Tryz.prog w = .ok (.enter 47 args) w:=by
 simp only [callFunc,go_sem]
 rfl
theorem cfLo1 (args:Array Value) (w:World):(callFunc 55 args).run Tryz.prog w = .ok (.enter 55 args) w:=by
 simp only [callFunc,go_sem]
 rfl
theorem fromLast_any (n m:Nat) (w:World) (hn:n≤6) (hm:m < n) :
  Calls Tryz.prog 46 #[.int .i64 n,.int .i64 m] w fun e w'=>e = .returned (.int .i64 ((n - 1 - m:Nat):Int))∧Below w.heap.size w w':=by
 obtain ⟨p,hp⟩:∃ p,n - 1 - m = p:=⟨_,rfl⟩
 have e1:IntKind.i64.wrap ((n:Int) - 1) = (n:Int) - 1:=wrap_in _ (by omega)
 have e2:IntKind.i64.wrap ((n:Int) - 1 - (m:Int)) = (p:Int):=(wrap_in _ (by omega)).trans (by omega)
 rw [hp]
 go_enter Tryz.func46,Tryz.ntmps46
 go_wp2
 go_ret
 exact ⟨rfl,Below.refl _ _⟩
theorem fromFirst_any (n m:Nat) (w:World) :
  Calls Tryz.prog 54 #[.int .i64 n,.int .i64 m] w fun e w'=>e = .returned (.int .i64 m)∧Below w.heap.size w w':=by
 go_enter Tryz.func54,Tryz.ntmps54
 go_wp2
 go_ret
 exact ⟨rfl,Below.refl _ _⟩
theorem up1_any (i k:Nat) (w:World) :
  Calls Tryz.prog 47 #[.int .i64 i,.int .i64 k] w fun e w'=>e = .returned (.bool (dnU i k))∧Below w.heap.size w w':=by
 go_enter Tryz.func47,Tryz.ntmps47
 go_wp2
 go_ret
 exact ⟨rfl,Below.refl _ _⟩
theorem lo1_any (i k:Nat) (w:World) :
  Calls Tryz.prog 55 #[.int .i64 i,.int .i64 k] w fun e w'=>e = .returned (.bool (dnL i k))∧Below w.heap.size w w':=by
 go_enter Tryz.func55,Tryz.ntmps55
 go_wp2
 go_ret
 exact ⟨rfl,Below.refl _ _⟩
end Go.Proofs.YtlnphkioddknfaaGreatDoor
