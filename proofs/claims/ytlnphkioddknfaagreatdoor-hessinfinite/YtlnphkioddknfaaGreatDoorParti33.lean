/- Part 33 of the texts. -/
import Derived.Test.YtlnphkioddknfaaGreatDoorParti32
import Derived.Deep.RegionWith
import Derived.Test.YtlnphkioddknfaaGreatDoorParti28
import Derived.Laws.CopyOwn
set_option maxHeartbeats 8000000
set_option maxRecDepth 20000
namespace Go.Proofs.YtlnphkioddknfaaGreatDoor
open Go.RowKit
attribute [local go_sem ↓] Go.wp_at_zero Go.wp_at_succ
def roJ (r c:Nat) (S:List Nat) (i k C s j:Nat):List Nat:=mkM r c (fun p q=>if q < j then (if p = i then aV (mV C (elM c S i q)) (mV s (elM c S k q)) else if p = k then aV (mV C (elM c S k q)) (fN (mV s (elM c S i q))) else elM c S p q) else elM c S p q)
theorem roJ_0 (r c:Nat) (S:List Nat) (i k C s:Nat) (h:S.length = r * c):roJ r c S i k C s 0 = S:=by
 unfold roJ
 rw [← mkM_of r c S h]
 refine mkM_congr (fun p q _ _=>?_)
 rw [mkM_of r c S h,if_neg (by omega)]
 rfl
theorem roJ_all (r c:Nat) (S:List Nat) (i k C s:Nat):roJ r c S i k C s c = roM r c S i k C s:=by
 unfold roJ roM
 exact mkM_congr (fun p q _ hq=>if_pos hq)
theorem roJ_len (r c:Nat) (S:List Nat) (i k C s j:Nat):(roJ r c S i k C s j).length = r * c:=mkM_len _ _ _
theorem roJ_set (r c:Nat) (S:List Nat) {i k C s j:Nat} (hi:i < r) (hk:k < r) (hne:i ≠ k) (hj:j < c) :
  ((roJ r c S i k C s j).set (i * c+j) (aV (mV C (elM c S i j)) (mV s (elM c S k j)))).set (k * c+j) (aV (mV C (elM c S k j)) (fN (mV s (elM c S i j)))) = roJ r c S i k C s (j+1):=by
 unfold roJ
 rw [mkM_set r c _ _ hi hj,mkM_set r c _ _ hk hj]
 refine mkM_congr (fun p q _ _=>?_)
 by_cases q1:q < j
 ·rw [if_neg (fun e=>by omega),if_neg (fun e=>by omega),if_pos q1,if_pos (show q < j+1 by omega)]
 ·by_cases q2:q = j
  ·subst q2
   by_cases p2:p = k
   ·rw [if_pos ⟨p2,rfl⟩,if_pos (show q < q+1 by omega),if_neg (fun e=>hne (e.symm.trans p2)),if_pos p2]
   ·rw [if_neg (fun e=>p2 e.1)]
    by_cases p1:p = i
    ·rw [if_pos ⟨p1,rfl⟩,if_pos (show q < q+1 by omega),if_pos p1]
    ·rw [if_neg (fun e=>p1 e.1),if_neg (show ¬ q < q by omega),if_pos (show q < q+1 by omega),if_neg p1,if_neg p2]
  ·rw [if_neg (fun e=>q2 e.2),if_neg (fun e=>q2 e.2),if_neg q1,if_neg (show ¬ q < j+1 by omega)]
end Go.Proofs.YtlnphkioddknfaaGreatDoor
namespace Go.Proofs.YtlnphkioddknfaaGreatDoor
open Go.RowKit
attribute [local go_sem ↓] Go.wp_at_zero Go.wp_at_succ
def coM (r c:Nat) (S:List Nat) (i k C s:Nat):List Nat:=tuM c r (roM c r (tuM r c S) i k C s)
theorem coM_len (r c:Nat) (S:List Nat) (i k C s:Nat):(coM r c S i k C s).length = r * c:=by
 unfold coM tuM
 exact mkM_len _ _ _
end Go.Proofs.YtlnphkioddknfaaGreatDoor
namespace Go.Proofs.YtlnphkioddknfaaGreatDoor
open Go.RowKit
attribute [local go_sem ↓] Go.wp_at_zero Go.wp_at_succ
structure TuSt (w wr:World) (r c n cap f1 s1 k1 f2 s2 k2:Nat) (ao:Option Addr) (S:List Nat):Prop where
 bel:Below w.heap.size w wr
 m:BoxM wr w.heap.size (.int .i64 r) (.int .i64 c) (.slice ao n cap)
 u:BoxT 211 wr (w.heap.size+1) (.int .i64 f1) (.int .i64 s1) (.int .i64 k1)
 l:BoxT 211 wr (w.heap.size+1+1) (.int .i64 f2) (.int .i64 s2) (.int .i64 k2)
 res:BoxM wr (w.heap.size+1+1+1) (.int .i64 0) (.int .i64 0) (.slice none 0 0)
 row:RowB wr (w.heap.size+1+1+1+1) S
theorem TuSt.all {w wr w':World} {r c n cap f1 s1 k1 f2 s2 k2:Nat} {ao:Option Addr} {S:List Nat} (h:TuSt w wr r c n cap f1 s1 k1 f2 s2 k2 ao S) (hb:Below wr.heap.size wr w'):TuSt w w' r c n cap f1 s1 k1 f2 s2 k2 ao S :=
 ⟨h.bel.trans (hb.mono h.bel.size),h.m.all hb,h.u.all hb,h.l.all hb,h.res.all hb,h.row.below hb h.row.lt⟩
theorem TuSt.set {w wr:World} {r c n cap f1 s1 k1 f2 s2 k2:Nat} {ao:Option Addr} {S:List Nat} (h:TuSt w wr r c n cap f1 s1 k1 f2 s2 k2 ao S) (p x:Nat):TuSt w (wr.setCell ⟨w.heap.size+1+1+1+1,p,none⟩ (.int .u64 (x:Int))) r c n cap f1 s1 k1 f2 s2 k2 ao (S.set p x) :=
 ⟨h.bel.setCell (p:=⟨w.heap.size+1+1+1+1,p,none⟩) (by show w.heap.size≤w.heap.size+1+1+1+1;omega) _,h.m.other (p:=⟨w.heap.size+1+1+1+1,p,none⟩) (by show w.heap.size ≠ w.heap.size+1+1+1+1;omega) _,h.u.other (p:=⟨w.heap.size+1+1+1+1,p,none⟩) (by show w.heap.size+1 ≠ w.heap.size+1+1+1+1;omega) _,h.l.other (p:=⟨w.heap.size+1+1+1+1,p,none⟩) (by show w.heap.size+1+1 ≠ w.heap.size+1+1+1+1;omega) _,h.res.other (p:=⟨w.heap.size+1+1+1+1,p,none⟩) (by show w.heap.size+1+1+1 ≠ w.heap.size+1+1+1+1;omega) _,h.row.set p x⟩
theorem TuSt.start (w:World) (r c n cap f1 s1 k1 f2 s2 k2:Nat) (ao:Option Addr) :
  TuSt w (((((w.alloc (.cells #[.int .i64 r,.int .i64 c,.slice ao n cap] 24)).alloc (.cells #[.int .i64 f1,.int .i64 s1,.int .i64 k1] 211)).alloc (.cells #[.int .i64 f2,.int .i64 s2,.int .i64 k2] 211)).alloc (.cells #[.int .i64 0,.int .i64 0,.slice none 0 0] 24)).alloc (.cells (madeCells #[.int .u64 0] n) 37)) r c n cap f1 s1 k1 f2 s2 k2 ao (List.replicate n 0):=by
 have b0:=below_alloc9 w (.cells #[.int .i64 r,.int .i64 c,.slice ao n cap] 24)
 have s0:=size_alloc9 w (.cells #[.int .i64 r,.int .i64 c,.slice ao n cap] 24)
 have x0:=BoxM.new w (.int .i64 r) (.int .i64 c) (.slice ao n cap)
 generalize w.alloc (.cells #[.int .i64 r,.int .i64 c,.slice ao n cap] 24) = w0 at *
 have b1:=below_alloc9 w0 (.cells #[.int .i64 f1,.int .i64 s1,.int .i64 k1] 211)
 have z1:=size_alloc9 w0 (.cells #[.int .i64 f1,.int .i64 s1,.int .i64 k1] 211)
 have x1:=BoxT.new 211 w0 (.int .i64 f1) (.int .i64 s1) (.int .i64 k1)
 generalize w0.alloc (.cells #[.int .i64 f1,.int .i64 s1,.int .i64 k1] 211) = w1 at *
 have b2:=below_alloc9 w1 (.cells #[.int .i64 f2,.int .i64 s2,.int .i64 k2] 211)
 have z2:=size_alloc9 w1 (.cells #[.int .i64 f2,.int .i64 s2,.int .i64 k2] 211)
 have x2:=BoxT.new 211 w1 (.int .i64 f2) (.int .i64 s2) (.int .i64 k2)
 generalize w1.alloc (.cells #[.int .i64 f2,.int .i64 s2,.int .i64 k2] 211) = w2 at *
 have b3:=below_alloc9 w2 (.cells #[.int .i64 0,.int .i64 0,.slice none 0 0] 24)
 have z3:=size_alloc9 w2 (.cells #[.int .i64 0,.int .i64 0,.slice none 0 0] 24)
 have x3:=BoxM.new w2 (.int .i64 0) (.int .i64 0) (.slice none 0 0)
 generalize w2.alloc (.cells #[.int .i64 0,.int .i64 0,.slice none 0 0] 24) = w3 at *
 have b4:=below_alloc9 w3 (.cells (madeCells #[.int .u64 0] n) 37)
 have x4:=RowB.made w3 n
 rw [s0] at x1 z1
 rw [z1] at x2 z2
 rw [z2] at x3 z3
 rw [z3] at x4
 have c1:=b0.trans (b1.mono b0.size)
 have c2:=c1.trans (b2.mono c1.size)
 have c3:=c2.trans (b3.mono c2.size)
 exact ⟨c3.trans (b4.mono c3.size),(((x0.all b1).all b2).all b3).all b4,((x1.all b2).all b3).all b4,(x2.all b3).all b4,x3.all b4,x4⟩
theorem TuSt.copied {w wr w':World} {r c n cap f1 s1 k1 f2 s2 k2:Nat} {ao:Option Addr} {S T:List Nat} (h:TuSt w wr r c n cap f1 s1 k1 f2 s2 k2 ao S) (hb:Below (w.heap.size+1+1+1+1) wr w') (hr:RowB w' (w.heap.size+1+1+1+1) T):TuSt w w' r c n cap f1 s1 k1 f2 s2 k2 ao T :=
 ⟨h.bel.trans (hb.mono (by omega)),h.m.below hb (by omega),h.u.below hb (by omega),h.l.below hb (by omega),h.res.below hb (by omega),hr⟩
theorem RowB.three {w:World} {b g:Nat} {S:List Nat} (h:RowB w b S) (hg:b ≠ g) (u u' u'':Value):RowB (((w.setCell ⟨g,0,none⟩ u).setCell ⟨g,1,none⟩ u').setCell ⟨g,2,none⟩ u'') b S:=by
 unfold RowB
 rw [Below.heap_setCell _ ⟨g,2,none⟩ u'' b hg,Below.heap_setCell _ ⟨g,1,none⟩ u' b hg,Below.heap_setCell _ ⟨g,0,none⟩ u b hg]
 exact h
theorem rowB_neM {w:World} {g b:Nat} {S:List Nat} (h:RowB w g S) {x y z:Value} (hx:BoxM w b x y z):g ≠ b:=by
 intro e
 subst e
 unfold RowB at h
 unfold BoxM at hx
 rw [h] at hx
 simp at hx
theorem copy_run (W:World) (g n cap:Nat) (ao:Option Addr) (S:List Nat) (h:RowB W g (List.replicate n 0)) (hS:BitsAt W ao cap (mxL S)) (hl:S.length = n) :
  ∃ w',(∀ ty,(Builtin.copy_ #[22,22] ty #[.slice (some ⟨g,0,none⟩) n n,.slice ao n cap]).run Tryz.prog W = .ok (.int .i64 (n:Int)) w')∧RowB w' g S∧Below g W w':=by
 rcases Nat.eq_zero_or_pos n with e | e
 ·subst e
  obtain rfl:S = []:=List.eq_nil_of_length_eq_zero hl
  exact ⟨W,fun ty=>run_copy_none W _ _ ty 37 _ _ 0 0 0 cap Tryz.underlying22 (by kernel_rfl) rfl,h,Below.refl _ _⟩
 ·obtain ⟨b,off,rfl,hb,hc⟩:=hS.ne (by rw [mxL_len];omega)
  have hcs:∀ j v,(S.map bitV)[j]? = some v→W.cell? ((⟨b,off,none⟩:Addr).add j) = some v:=by
   intro j v hv
   rw [List.getElem?_map] at hv
   obtain ⟨x,hx,rfl⟩:=Option.map_eq_some_iff.1 hv
   have hj:j < S.length:=(List.getElem?_eq_some_iff.1 hx).1
   have:=hc j (by rw [mxL_len];exact hj)
   rw [mxL_at] at this
   rw [show (⟨b,off,none⟩:Addr).add j = ⟨b,off+j,none⟩ from by simp [Addr.add],this]
   rw [List.getD_eq_getElem?_getD,hx]
   rfl
  have hlen:(S.map bitV).length = n:=by rw [List.length_map,hl]
  have run:=fun ty=>run_copy_row Tryz.prog W 22 22 ty 37 g 0 n n ⟨b,off,none⟩ n cap ((List.replicate n 0).map bitV).toArray 37 (S.map bitV) Tryz.underlying22 (by kernel_rfl) h (by rw [hlen];exact (Nat.min_self n).symm) hcs (by rw [hlen];simp) (fun v hv=>by obtain ⟨x,_,rfl⟩:=List.mem_map.1 hv;rfl)
  refine ⟨_,fun ty=>(run ty).trans (by rw [hlen];rfl),?_,below_setRow (Below.refl _ _) (Nat.le_refl _) _⟩
  unfold RowB
  rw [setRow_heap W g _ _ 37 _ h]
  congr 3
  simp
theorem lineturned_of (r c n cap f1 s1 k f2 s2 k2 C s:Nat) (ao:Option Addr) (TJ:Nat→List Nat) (P Q X Y U V:Nat→Nat) (w:World) (h36:n≤36) (h6:k≤6) (hS:BitsAt w ao cap (mxL (TJ 0))) (lJ:∀ j,(TJ j).length = n)
  (hP:∀ j,j < k→P j < n∧Q j < n∧P j ≠ Q j∧(TJ j)[P j]?.getD 0 = X j∧(TJ j)[Q j]?.getD 0 = Y j∧((TJ j).set (P j) (U j)).set (Q j) (V j) = TJ (j+1))
  (C1:∀ w' j,j < k→Calls Tryz.prog 242 #[.agg #[.int .i64 f1,.int .i64 s1,.int .i64 k],.int .i64 (j:Nat)] w' fun e w''=>e = .returned (.int .i64 (P j:Nat))∧Below w'.heap.size w' w'')
  (C2:∀ w' j,j < k→Calls Tryz.prog 242 #[.agg #[.int .i64 f2,.int .i64 s2,.int .i64 k2],.int .i64 (j:Nat)] w' fun e w''=>e = .returned (.int .i64 (Q j:Nat))∧Below w'.heap.size w' w'')
  (C3:∀ w' j,Below w.heap.size w w'→j < k→Calls Tryz.prog 243 #[.int .u64 (X j:Nat),.int .u64 (Y j:Nat),.int .u64 C,.int .u64 s] w' fun e w''=>e = .returned (.tuple #[.int .u64 (U j:Nat),.int .u64 (V j:Nat)])∧Below w'.heap.size w' w'') :
  Calls Tryz.prog 219 #[.agg #[.int .i64 r,.int .i64 c,.slice ao n cap],.agg #[.int .i64 f1,.int .i64 s1,.int .i64 k],.agg #[.int .i64 f2,.int .i64 s2,.int .i64 k2],.int .u64 C,.int .u64 s] w fun e w'=>∃ g,e = .returned (.agg #[.int .i64 r,.int .i64 c,.slice (some ⟨g,0,none⟩) n n])∧w.heap.size≤g∧RowB w' g (TJ k)∧Below w.heap.size w w':=by
 have ST:=hide (TuSt.start w r c n cap f1 s1 k f2 s2 k2 ao)
 have hmk:=run_make_row' (P:=Tryz.prog) 22 37 (.int .u64 0) 8 Tryz.underlying22 (by kernel_rfl) rfl .i64 .i64 n (by omega) (by omega)
 have HP:=hide hP;have K1:=hide C1;have K2:=hide C2;have K3:=hide C3;have LJ:=hide lJ;have HS:=hide hS
 obtain ⟨w5,hcp,hr5,hb5⟩:=copy_run _ (w.heap.size+1+1+1+1) n cap ao (TJ 0) (uH ST).row (hS.below (uH ST).bel) (lJ 0)
 have ST5:=hide ((uH ST).copied hb5 hr5)
 clear hP C1 C2 C3 lJ hS hr5 hb5
 have y0:=(uH ST).m.c0;have y1:=(uH ST).m.c1;have y2:=(uH ST).m.c2
 have q0:=(uH ST5).u.c0;have q1:=(uH ST5).u.c1;have q2:=(uH ST5).u.c2
 go_enter Tryz.func219,Tryz.ntmps219
 go_wp2_with fail
 clear hmk hcp y0 y1 y2 q0 q1 q2 ST
 go_loopw [25] (fun a wr=>∃ j:Nat,j≤k∧a = .int .i64 j∧Hid (TuSt w wr r c n cap f1 s1 k f2 s2 k2 ao (TJ j))) (fun a _=>k - (intOf a).toNat)
 case atStart=>exact ⟨0,Nat.zero_le _,rfl,ST5⟩
 case round =>
  clear ST5
  obtain ⟨j,hj,rfl,hS⟩:=hrel
  by_cases hlt:j < k
  ·have hjI:(j:Int) < (k:Int):=by omega
   obtain ⟨hp,hq,hne,hx,hy,hset⟩:=uH HP j hlt
   have KP:=hide (fun w'=>uH K1 w' j hlt);have KQ:=hide (fun w'=>uH K2 w' j hlt);have KT:=hide (fun w' hb=>uH K3 w' j hb hlt)
   have LL:=hide (uH LJ j);have HX:=hide hx;have HY:=hide hy;have HN:=hide hset
   generalize hTT:TJ j = TT at *
   generalize hTN:TJ (j+1) = TN at *
   clear HP K1 K2 K3 LJ hx hy hset
   generalize P j = p at *
   generalize Q j = q at *
   generalize X j = x at *
   generalize Y j = y at *
   generalize U j = u at *
   generalize V j = v at *
   have hpI:(p:Int) < (n:Int):=by omega
   have hqI:(q:Int) < (n:Int):=by omega
   go_wp2_with fail
   refine at_world (fun W=>TuSt w W r c n cap f1 s1 k f2 s2 k2 ao TT) (uH hS) ?_
   clear hS
   intro W st
   have ST:=hide st
   have HK:=hide (fun w' (h:Below W.heap.size W w')=>(show Below W.heap.size W w'∧(w'.cell? ⟨w.heap.size+1,0,none⟩ = some (.int .i64 f1)∧w'.cell? ⟨w.heap.size+1,1,none⟩ = some (.int .i64 s1)∧w'.cell? ⟨w.heap.size+1,2,none⟩ = some (.int .i64 k))∧(w'.cell? ⟨w.heap.size+1+1,0,none⟩ = some (.int .i64 f2)∧w'.cell? ⟨w.heap.size+1+1,1,none⟩ = some (.int .i64 s2)∧w'.cell? ⟨w.heap.size+1+1,2,none⟩ = some (.int .i64 k2)) from
    have y:=st.all h;⟨h,⟨y.u.c0,y.u.c1,y.u.c2⟩,y.l.c0,y.l.c1,y.l.c2⟩))
   clear st
   go_region_held3 (fun w'=>Below W.heap.size W w'∧(w'.cell? ⟨w.heap.size+1,0,none⟩ = some (.int .i64 f1)∧w'.cell? ⟨w.heap.size+1,1,none⟩ = some (.int .i64 s1)∧w'.cell? ⟨w.heap.size+1,2,none⟩ = some (.int .i64 k))∧(w'.cell? ⟨w.heap.size+1+1,0,none⟩ = some (.int .i64 f2)∧w'.cell? ⟨w.heap.size+1+1,1,none⟩ = some (.int .i64 s2)∧w'.cell? ⟨w.heap.size+1+1,2,none⟩ = some (.int .i64 k2)))
    (first | exact uH HK _ (Below.refl _ _).drew | exact uH HK _ (by assumption) | fail "KK")
    (first | (go_at_call 242;refine (uH KP _).mono ?_;rintro e w6 ⟨rfl,hb5⟩;have hB5:Below W.heap.size W w6:=Below.trans (And.left (by assumption)) (hb5.mono (Below.size (And.left (by assumption))));clear hb5 KP) | (go_at_call 242;refine (uH KQ _).mono ?_;rintro e w7 ⟨rfl,hb5⟩;have hB5:Below W.heap.size W w7:=Below.trans (And.left (by assumption)) (hb5.mono (Below.size (And.left (by assumption))));clear hb5 KQ) | fail "NO ARM")
   all_goals
    have ST:=hide ((uH ST).all (And.left (by assumption)))
    clear HK
    go_wp2_with fail
    refine at_world (fun W=>TuSt w W r c n cap f1 s1 k f2 s2 k2 ao TT) (uH ST) ?_
    clear ST
    rintro W0 st
    have ST:=hide (st.all ((Below.refl W0.heap.size W0).drew))
    clear st
    have c1:=(uH ST).row.cell p (by rw [uH LL];exact hp)
    have c2:=(uH ST).row.cell q (by rw [uH LL];exact hq)
    rw [uH HX] at c1
    rw [uH HY] at c2
    go_region_with (first
     | (go_at_call 243;refine (uH KT _ (uH ST).bel).mono ?_;rintro e w8 ⟨rfl,hb⟩;clear c1 c2;have S8:=(uH ST).all hb;have d1:=S8.row.cell p (by rw [uH LL];exact hp);have d2:=S8.row.cell q (by rw [uH LL];exact hq);have f1':=S8.row.free p;have f2':=S8.row.free q;have S9:=S8.set p u;have d3:=S9.row.cell q (by rw [List.length_set,uH LL];exact hq);have f3':=S9.row.free q;have P9:=hide (S9.set q v);clear S8 S9 hb ST KT)
     | fail "NO ARM")
    all_goals
     clear d1 d2 d3 f1' f2' f3'
     go_wp2_with fail
     go_round
     case rel=>exact ⟨j+1,by omega,by go_num,by rw [hTN,← uH HN];exact P9⟩
     case measure=>simp [intOf];omega
  ·have hjj:j = k:=by omega
   subst hjj
   obtain ⟨h6,h1,h2,h3,h4,h5⟩:=uH hS
   have y0:=h1.c0;have y1:=h1.c1;have y2:=h1.c2
   have r0:=h4.c0;have r1:=h4.c1;have r2:=h4.c2
   have f0:=h4.free 0;have f1:=h4.free 1;have f2:=h4.free 2
   have XP:=h4.put (.int .i64 r) (.int .i64 c) (.slice (some ⟨w.heap.size+1+1+1+1,0,none⟩) n n)
   have z0:=XP.c0;have z1:=XP.c1;have z2:=XP.c2
   have RW:=hide (h5.three (g:=w.heap.size+1+1+1) (by omega) (.int .i64 r) (.int .i64 c) (.slice (some ⟨w.heap.size+1+1+1+1,0,none⟩) n n))
   have BP:=hide (below_putM h6 (b:=w.heap.size+1+1+1) (by omega) (.int .i64 r) (.int .i64 c) (.slice (some ⟨w.heap.size+1+1+1+1,0,none⟩) n n))
   clear XP h1 h2 h3 h4 h5 h6 hS
   go_wp2_with fail
   exact bodyPost_ret (v:=.agg #[.int .i64 r,.int .i64 c,.slice (some ⟨w.heap.size+1+1+1+1,0,none⟩) n n]) (by simp [results,Tryz.results219,go_sem,z0,z1,z2]) rfl ⟨_,rfl,by omega,uH RW,uH BP⟩
end Go.Proofs.YtlnphkioddknfaaGreatDoor
namespace Go.Proofs.YtlnphkioddknfaaGreatDoor
open Go.RowKit
attribute [local go_sem ↓] Go.wp_at_zero Go.wp_at_succ
def GsSt (w W:World) (r c n cap:Nat) (ao:Option Addr):Prop:=Below w.heap.size w W∧BoxM W w.heap.size (.int .i64 r) (.int .i64 c) (.slice ao n cap)∧BoxM W (w.heap.size+1) (.int .i64 0) (.int .i64 0) (.slice none 0 0)
theorem GsSt.all {w W W':World} {r c n cap:Nat} {ao:Option Addr} (h:GsSt w W r c n cap ao) (hb:Below W.heap.size W W'):GsSt w W' r c n cap ao:=⟨h.1.trans (hb.mono h.1.size),h.2.1.all hb,h.2.2.all hb⟩
theorem gRows_err (r c:Int) (ao:Option Addr) (n cap:Nat) (i k:Int) (C s:Nat) (er:Int) (w:World) (her:er = 1 ∨ er = 7)
  (C1:∀ w',Calls Tryz.prog 218 #[.agg #[.int .i64 r,.int .i64 c,.slice ao n cap],.int .i64 r,.int .i64 i,.int .i64 k] w' fun e w''=>e = .returned (.int .i64 er)∧Below w'.heap.size w' w'') :
  Calls Tryz.prog 191 #[.agg #[.int .i64 r,.int .i64 c,.slice ao n cap],.int .i64 i,.int .i64 k,.int .u64 C,.int .u64 s] w fun e w'=>∃ v,e = .returned (.tuple #[v,.int .i64 er])∧NewM w.heap.size w' 0 0 [] v∧Below w.heap.size w w':=by
 have K:=hide (C1 ((w.alloc (.cells #[.int .i64 r,.int .i64 c,.slice ao n cap] 24)).alloc (.cells #[.int .i64 0,.int .i64 0,.slice none 0 0] 24)))
 simp only [size_alloc9] at K
 have KB:=hide (boxes2 w (.int .i64 r) (.int .i64 c) (.slice ao n cap) (.int .i64 0) (.int .i64 0) (.slice none 0 0))
 clear C1
 rcases her with rfl | rfl
 all_goals
  go_enter Tryz.func191,Tryz.ntmps191
  go_wp2_with fail
  refine Calls.mono (uH K) ?_
  rintro e w1 ⟨rfl,hb1⟩
  obtain ⟨hB,hA,hX⟩:=uH KB w1 hb1
  clear K KB hb1 hA
  have f0:=hX.free 0;have f1:=hX.free 1;have f2:=hX.free 2
  have s0:=hX.c0;have s1:=hX.c1;have s2:=hX.c2
  have XP:=hX.put (.int .i64 0) (.int .i64 0) (.slice none 0 0)
  have z0:=XP.c0;have z1:=XP.c1;have z2:=XP.c2
  have BP:=hide (below_putM hB (b:=w.heap.size+1) (by omega) (.int .i64 0) (.int .i64 0) (.slice none 0 0))
  clear XP hX hB
  go_wp2
  refine bodyPost_ret (v:=.tuple #[.agg #[.int .i64 0,.int .i64 0,.slice none 0 0],_]) (by simp [results,Tryz.results191,go_sem,z0,z1,z2]) rfl ⟨_,rfl,NewM.zero _ _,uH BP⟩
theorem gRows_row (r c n cap i k C s u0 u1 u2 l0 l1 l2:Nat) (ao:Option Addr) (S:List Nat) (w:World)
  (C1:∀ w',Calls Tryz.prog 218 #[.agg #[.int .i64 r,.int .i64 c,.slice ao n cap],.int .i64 r,.int .i64 i,.int .i64 k] w' fun e w''=>e = .returned (.int .i64 0)∧Below w'.heap.size w' w'')
  (C2:∀ w',Calls Tryz.prog 220 #[.agg #[.int .i64 r,.int .i64 c,.slice ao n cap],.int .i64 i] w' fun e w''=>e = .returned (.agg #[.int .i64 u0,.int .i64 u1,.int .i64 u2])∧Below w'.heap.size w' w'')
  (C3:∀ w',Calls Tryz.prog 220 #[.agg #[.int .i64 r,.int .i64 c,.slice ao n cap],.int .i64 k] w' fun e w''=>e = .returned (.agg #[.int .i64 l0,.int .i64 l1,.int .i64 l2])∧Below w'.heap.size w' w'')
  (C4:∀ w',Below w.heap.size w w'→Calls Tryz.prog 219 #[.agg #[.int .i64 r,.int .i64 c,.slice ao n cap],.agg #[.int .i64 u0,.int .i64 u1,.int .i64 u2],.agg #[.int .i64 l0,.int .i64 l1,.int .i64 l2],.int .u64 C,.int .u64 s] w' fun e w''=>∃ g,e = .returned (.agg #[.int .i64 r,.int .i64 c,.slice (some ⟨g,0,none⟩) n n])∧w'.heap.size≤g∧RowB w'' g S∧Below w'.heap.size w' w'') :
  Calls Tryz.prog 191 #[.agg #[.int .i64 r,.int .i64 c,.slice ao n cap],.int .i64 i,.int .i64 k,.int .u64 C,.int .u64 s] w fun e w'=>∃ g,e = .returned (.tuple #[.agg #[.int .i64 r,.int .i64 c,.slice (some ⟨g,0,none⟩) n n],.int .i64 0])∧w.heap.size≤g∧RowB w' g S∧Below w.heap.size w w':=by
 have K:=hide (C1 ((w.alloc (.cells #[.int .i64 r,.int .i64 c,.slice ao n cap] 24)).alloc (.cells #[.int .i64 0,.int .i64 0,.slice none 0 0] 24)))
 simp only [size_alloc9] at K
 have KB:=hide (boxes2 w (.int .i64 r) (.int .i64 c) (.slice ao n cap) (.int .i64 0) (.int .i64 0) (.slice none 0 0))
 have K2:=hide C2;have K3:=hide C3;have K4:=hide C4
 clear C1 C2 C3 C4
 go_enter Tryz.func191,Tryz.ntmps191
 go_wp2_with fail
 refine Calls.mono (uH K) ?_
 rintro e w1 ⟨rfl,hb1⟩
 obtain ⟨hB,hA,hX⟩:=uH KB w1 hb1
 clear K KB hb1
 have ST:=hide (show GsSt w w1 r c n cap ao from ⟨hB,hA,hX⟩)
 have a0:=hA.c0;have a1:=hA.c1;have a2:=hA.c2
 clear hB hA hX
 go_wp2_with fail
 clear a0 a1 a2
 refine at_world (fun W=>GsSt w W r c n cap ao) (uH ST) ?_
 clear ST
 rintro W0 st
 have ST:=hide (st.all ((Below.refl W0.heap.size W0).drew))
 clear st
 have a0:=(uH ST).2.1.c0;have a1:=(uH ST).2.1.c1;have a2:=(uH ST).2.1.c2
 go_region_with (first
  | (go_at_call 220;refine (uH K2 _).mono ?_;rintro e w4 ⟨rfl,hb⟩;clear a0 a1 a2;have S4:=(uH ST).all hb;have a0:=S4.2.1.c0;have a1:=S4.2.1.c1;have a2:=S4.2.1.c2;replace ST:=hide S4;clear S4 hb K2)
  | (go_at_call 220;refine (uH K3 _).mono ?_;rintro e w5 ⟨rfl,hb⟩;clear a0 a1 a2;have S4:=(uH ST).all hb;have a0:=S4.2.1.c0;have a1:=S4.2.1.c1;have a2:=S4.2.1.c2;replace ST:=hide S4;clear S4 hb K3)
  | (go_at_call 219;refine (uH K4 _ (uH ST).1).mono ?_;rintro e w6 ⟨g,rfl,hg,hr,hb⟩;clear a0 a1 a2;have S4:=(uH ST).all hb;have f0:=S4.2.2.free 0;have f1:=S4.2.2.free 1;have f2:=S4.2.2.free 2;have s0:=S4.2.2.c0;have s1:=S4.2.2.c1;have s2:=S4.2.2.c2;have HG:=hide (Nat.le_trans (uH ST).1.size hg);have XP:=S4.2.2.put (.int .i64 r) (.int .i64 c) (.slice (some ⟨g,0,none⟩) n n);have z0:=XP.c0;have z1:=XP.c1;have z2:=XP.c2;have Q:=hide (hr.three (rowB_neM hr S4.2.2) (.int .i64 r) (.int .i64 c) (.slice (some ⟨g,0,none⟩) n n));have BP:=hide (below_putM S4.1 (b:=w.heap.size+1) (by omega) (.int .i64 r) (.int .i64 c) (.slice (some ⟨g,0,none⟩) n n));clear S4 hb hg hr XP ST K4)
  | fail "NO ARM")
 all_goals
  go_wp2
  exact bodyPost_ret (v:=.tuple #[.agg #[.int .i64 r,.int .i64 c,.slice (some ⟨g,0,none⟩) n n],.int .i64 0]) (by simp [results,Tryz.results191,go_sem,z0,z1,z2]) rfl ⟨g,rfl,uH HG,uH Q,uH BP⟩
theorem gCols_row (r c n cap i k C s u0 u1 u2 l0 l1 l2:Nat) (ao:Option Addr) (S:List Nat) (w:World)
  (C1:∀ w',Calls Tryz.prog 218 #[.agg #[.int .i64 r,.int .i64 c,.slice ao n cap],.int .i64 c,.int .i64 i,.int .i64 k] w' fun e w''=>e = .returned (.int .i64 0)∧Below w'.heap.size w' w'')
  (C2:∀ w',Calls Tryz.prog 221 #[.agg #[.int .i64 r,.int .i64 c,.slice ao n cap],.int .i64 i] w' fun e w''=>e = .returned (.agg #[.int .i64 u0,.int .i64 u1,.int .i64 u2])∧Below w'.heap.size w' w'')
  (C3:∀ w',Calls Tryz.prog 221 #[.agg #[.int .i64 r,.int .i64 c,.slice ao n cap],.int .i64 k] w' fun e w''=>e = .returned (.agg #[.int .i64 l0,.int .i64 l1,.int .i64 l2])∧Below w'.heap.size w' w'')
  (C4:∀ w',Below w.heap.size w w'→Calls Tryz.prog 219 #[.agg #[.int .i64 r,.int .i64 c,.slice ao n cap],.agg #[.int .i64 u0,.int .i64 u1,.int .i64 u2],.agg #[.int .i64 l0,.int .i64 l1,.int .i64 l2],.int .u64 C,.int .u64 s] w' fun e w''=>∃ g,e = .returned (.agg #[.int .i64 r,.int .i64 c,.slice (some ⟨g,0,none⟩) n n])∧w'.heap.size≤g∧RowB w'' g S∧Below w'.heap.size w' w'') :
  Calls Tryz.prog 192 #[.agg #[.int .i64 r,.int .i64 c,.slice ao n cap],.int .i64 i,.int .i64 k,.int .u64 C,.int .u64 s] w fun e w'=>∃ g,e = .returned (.tuple #[.agg #[.int .i64 r,.int .i64 c,.slice (some ⟨g,0,none⟩) n n],.int .i64 0])∧w.heap.size≤g∧RowB w' g S∧Below w.heap.size w w':=by
 have K:=hide (C1 ((w.alloc (.cells #[.int .i64 r,.int .i64 c,.slice ao n cap] 24)).alloc (.cells #[.int .i64 0,.int .i64 0,.slice none 0 0] 24)))
 simp only [size_alloc9] at K
 have KB:=hide (boxes2 w (.int .i64 r) (.int .i64 c) (.slice ao n cap) (.int .i64 0) (.int .i64 0) (.slice none 0 0))
 have K2:=hide C2;have K3:=hide C3;have K4:=hide C4
 clear C1 C2 C3 C4
 go_enter Tryz.func192,Tryz.ntmps192
 go_wp2_with fail
 refine Calls.mono (uH K) ?_
 rintro e w1 ⟨rfl,hb1⟩
 obtain ⟨hB,hA,hX⟩:=uH KB w1 hb1
 clear K KB hb1
 have ST:=hide (show GsSt w w1 r c n cap ao from ⟨hB,hA,hX⟩)
 have a0:=hA.c0;have a1:=hA.c1;have a2:=hA.c2
 clear hB hA hX
 go_wp2_with fail
 clear a0 a1 a2
 refine at_world (fun W=>GsSt w W r c n cap ao) (uH ST) ?_
 clear ST
 rintro W0 st
 have ST:=hide (st.all ((Below.refl W0.heap.size W0).drew))
 clear st
 have a0:=(uH ST).2.1.c0;have a1:=(uH ST).2.1.c1;have a2:=(uH ST).2.1.c2
 go_region_with (first
  | (go_at_call 221;refine (uH K2 _).mono ?_;rintro e w4 ⟨rfl,hb⟩;clear a0 a1 a2;have S4:=(uH ST).all hb;have a0:=S4.2.1.c0;have a1:=S4.2.1.c1;have a2:=S4.2.1.c2;replace ST:=hide S4;clear S4 hb K2)
  | (go_at_call 221;refine (uH K3 _).mono ?_;rintro e w5 ⟨rfl,hb⟩;clear a0 a1 a2;have S4:=(uH ST).all hb;have a0:=S4.2.1.c0;have a1:=S4.2.1.c1;have a2:=S4.2.1.c2;replace ST:=hide S4;clear S4 hb K3)
  | (go_at_call 219;refine (uH K4 _ (uH ST).1).mono ?_;rintro e w6 ⟨g,rfl,hg,hr,hb⟩;clear a0 a1 a2;have S4:=(uH ST).all hb;have f0:=S4.2.2.free 0;have f1:=S4.2.2.free 1;have f2:=S4.2.2.free 2;have s0:=S4.2.2.c0;have s1:=S4.2.2.c1;have s2:=S4.2.2.c2;have HG:=hide (Nat.le_trans (uH ST).1.size hg);have XP:=S4.2.2.put (.int .i64 r) (.int .i64 c) (.slice (some ⟨g,0,none⟩) n n);have z0:=XP.c0;have z1:=XP.c1;have z2:=XP.c2;have Q:=hide (hr.three (rowB_neM hr S4.2.2) (.int .i64 r) (.int .i64 c) (.slice (some ⟨g,0,none⟩) n n));have BP:=hide (below_putM S4.1 (b:=w.heap.size+1) (by omega) (.int .i64 r) (.int .i64 c) (.slice (some ⟨g,0,none⟩) n n));clear S4 hb hg hr XP ST K4)
  | fail "NO ARM")
 all_goals
  go_wp2
  exact bodyPost_ret (v:=.tuple #[.agg #[.int .i64 r,.int .i64 c,.slice (some ⟨g,0,none⟩) n n],.int .i64 0]) (by simp [results,Tryz.results192,go_sem,z0,z1,z2]) rfl ⟨g,rfl,uH HG,uH Q,uH BP⟩
end Go.Proofs.YtlnphkioddknfaaGreatDoor
namespace Go.Proofs.YtlnphkioddknfaaGreatDoor
open Go.RowKit
theorem chk_ok {l i k:Nat} (hi:i < l) (hk:k < l) (hne:i ≠ k) :
  ((i:Int) < 0∧(0:Int) = 7) ∨ (0≤(i:Int)∧(l:Int)≤i∧(0:Int) = 7) ∨ (0≤(i:Int)∧(i:Int) < l∧(k:Int) < 0∧(0:Int) = 7) ∨ (0≤(i:Int)∧(i:Int) < l∧0≤(k:Int)∧(l:Int)≤k∧(0:Int) = 7) ∨ (0≤(i:Int)∧(i:Int) < l∧0≤(k:Int)∧(k:Int) < l∧(i:Int) = k∧(0:Int) = 7) ∨ (0≤(i:Int)∧(i:Int) < l∧0≤(k:Int)∧(k:Int) < l∧¬ (i:Int) = k∧(0:Int) = 0):=by
 omega
theorem at_el (c:Nat) (S:List Nat) (i k:Nat):S[i * c+k]?.getD 0 = elM c S i k:=by
 unfold elM
 rw [List.getD_eq_getElem?_getD]
theorem gRows_okR (r c cap i k C s:Nat) (ao:Option Addr) (S:List Nat) (w:World) (h:Mx w ao cap r c S) (hi:i < r) (hk:k < r) (hne:i ≠ k) (hC:C < 18446744073709551616) (hs:s < 18446744073709551616) (hT:Tab w) :
  Calls Tryz.prog 191 #[.agg #[.int .i64 r,.int .i64 c,.slice ao S.length cap],.int .i64 i,.int .i64 k,.int .u64 C,.int .u64 s] w fun e w'=>∃ g,e = .returned (.tuple #[.agg #[.int .i64 r,.int .i64 c,.slice (some ⟨g,0,none⟩) S.length S.length],.int .i64 0])∧w.heap.size≤g∧RowB w' g (roM r c S i k C s)∧Below w.heap.size w w':=by
 have h36:=h.small
 have r6:=h.2.2.1
 have c6:=h.2.2.2
 have bi:i * c≤36:=Nat.mul_le_mul (show i≤6 by omega) c6
 have bk:k * c≤36:=Nat.mul_le_mul (show k≤6 by omega) c6
 refine gRows_row r c S.length cap i k C s (i * c) 1 c (k * c) 1 c ao (roM r c S i k C s) w
  (fun w'=>gcheck_any r c ao S.length cap r i k 0 w' (by omega) (mx_ok h) (chk_ok hi hk hne))
  (fun w'=>(growOf_of r c S.length cap i (i * c) ao w' (cast_mul10 i c) bi).mono (by rintro e w'' ⟨rfl,hb⟩;exact ⟨rfl,hb⟩))
  (fun w'=>(growOf_of r c S.length cap k (k * c) ao w' (cast_mul10 k c) bk).mono (by rintro e w'' ⟨rfl,hb⟩;exact ⟨rfl,hb⟩))
  (fun w' hb=>?_)
 have hM:=h.below hb
 rw [← roJ_all]
 refine lineturned_of r c S.length cap (i * c) 1 c (k * c) 1 c C s ao (fun j=>roJ r c S i k C s j) (fun j=>i * c+j) (fun j=>k * c+j) (fun j=>elM c S i j) (fun j=>elM c S k j) (fun j=>aV (mV C (elM c S i j)) (mV s (elM c S k j))) (fun j=>aV (mV C (elM c S k j)) (fN (mV s (elM c S i j)))) w' h36 c6 (by show BitsAt w' ao cap (mxL (roJ r c S i k C s 0));rw [roJ_0 r c S i k C s h.2.1];exact hM.1) (fun j=>by rw [roJ_len,h.2.1]) (fun j hj=>?_) (fun w'' j hj=>?_) (fun w'' j hj=>?_) (fun w'' j hb2 hj=>gpair_any _ _ C s w'' (h.el_lt _ _) (h.el_lt _ _) hC hs ((hT.all hb).all hb2))
 ·have p1:i * c+j < S.length:=by rw [h.2.1];exact place_lt hi hj
  have p2:k * c+j < S.length:=by rw [h.2.1];exact place_lt hk hj
  refine ⟨p1,p2,fun e=>hne (Nat.eq_of_mul_eq_mul_right (show 0 < c by omega) (by have e':i * c+j = k * c+j:=e;omega)),?_,?_,roJ_set r c S hi hk hne hj⟩
  ·show (roJ r c S i k C s j)[i * c+j]?.getD 0 = _
   rw [at_el]
   unfold roJ
   rw [el_mk r c _ hi hj,if_neg (Nat.lt_irrefl j)]
  ·show (roJ r c S i k C s j)[k * c+j]?.getD 0 = _
   rw [at_el]
   unfold roJ
   rw [el_mk r c _ hk hj,if_neg (Nat.lt_irrefl j)]
 ·have p1:i * c+j < S.length:=by rw [h.2.1];exact place_lt hi hj
  exact gplace_of (i * c) 1 c j j (i * c+j) w'' (by simp) (by simp) (by omega)
 ·have p2:k * c+j < S.length:=by rw [h.2.1];exact place_lt hk hj
  exact gplace_of (k * c) 1 c j j (k * c+j) w'' (by simp) (by simp) (by omega)
def coJ (r c:Nat) (S:List Nat) (i k C s j:Nat):List Nat:=mkM r c (fun p q=>if p < j then (if q = i then aV (mV C (elM c S p i)) (mV s (elM c S p k)) else if q = k then aV (mV C (elM c S p k)) (fN (mV s (elM c S p i))) else elM c S p q) else elM c S p q)
theorem coJ_len (r c:Nat) (S:List Nat) (i k C s j:Nat):(coJ r c S i k C s j).length = r * c:=mkM_len _ _ _
theorem coJ_0 (r c:Nat) (S:List Nat) (i k C s:Nat) (h:S.length = r * c):coJ r c S i k C s 0 = S:=by
 unfold coJ
 rw [← mkM_of r c S h]
 refine mkM_congr (fun p q _ _=>?_)
 rw [mkM_of r c S h,if_neg (by omega)]
 rfl
theorem coJ_all (r c:Nat) (S:List Nat) {i k:Nat} (C s:Nat) (hi:i < c) (hk:k < c):coJ r c S i k C s r = coM r c S i k C s:=by
 unfold coJ coM
 rw [show tuM c r (roM c r (tuM r c S) i k C s) = mkM r c (fun p q=>elM r (roM c r (tuM r c S) i k C s) q p) from rfl]
 refine mkM_congr (fun p q hp hq=>?_)
 rw [if_pos hp,el_ro c r (tuM r c S) i k C s hq hp]
 have el:∀ {a},a < c→elM r (tuM r c S) a p = elM c S p a:=fun {a} ha=>el_mk c r (fun k i=>elM c S i k) ha hp
 rw [el hi,el hk,el hq]
theorem coJ_set (r c:Nat) (S:List Nat) {i k C s j:Nat} (hi:i < c) (hk:k < c) (hne:i ≠ k) (hj:j < r) :
  ((coJ r c S i k C s j).set (j * c+i) (aV (mV C (elM c S j i)) (mV s (elM c S j k)))).set (j * c+k) (aV (mV C (elM c S j k)) (fN (mV s (elM c S j i)))) = coJ r c S i k C s (j+1):=by
 unfold coJ
 rw [mkM_set r c _ _ hj hi,mkM_set r c _ _ hj hk]
 refine mkM_congr (fun q p _ _=>?_)
 by_cases q1:q < j
 ·rw [if_neg (fun e=>by omega),if_neg (fun e=>by omega),if_pos q1,if_pos (show q < j+1 by omega)]
 ·by_cases q2:q = j
  ·subst q2
   by_cases p2:p = k
   ·rw [if_pos ⟨rfl,p2⟩,if_pos (show q < q+1 by omega),if_neg (fun e=>hne (e.symm.trans p2)),if_pos p2]
   ·rw [if_neg (fun e=>p2 e.2)]
    by_cases p1:p = i
    ·rw [if_pos ⟨rfl,p1⟩,if_pos (show q < q+1 by omega),if_pos p1]
    ·rw [if_neg (fun e=>p1 e.2),if_neg (show ¬ q < q by omega),if_pos (show q < q+1 by omega),if_neg p1,if_neg p2]
  ·rw [if_neg (fun e=>q2 e.1),if_neg (fun e=>q2 e.1),if_neg q1,if_neg (show ¬ q < j+1 by omega)]
theorem gCols_okR (r c cap i k C s:Nat) (ao:Option Addr) (S:List Nat) (w:World) (h:Mx w ao cap r c S) (hi:i < c) (hk:k < c) (hne:i ≠ k) (hC:C < 18446744073709551616) (hs:s < 18446744073709551616) (hT:Tab w) :
  Calls Tryz.prog 192 #[.agg #[.int .i64 r,.int .i64 c,.slice ao S.length cap],.int .i64 i,.int .i64 k,.int .u64 C,.int .u64 s] w fun e w'=>∃ g,e = .returned (.tuple #[.agg #[.int .i64 r,.int .i64 c,.slice (some ⟨g,0,none⟩) S.length S.length],.int .i64 0])∧w.heap.size≤g∧RowB w' g (coM r c S i k C s)∧Below w.heap.size w w':=by
 have h36:=h.small
 have r6:=h.2.2.1
 have c6:=h.2.2.2
 rw [← coJ_all r c S C s hi hk]
 refine gCols_row r c S.length cap i k C s i c r k c r ao (coJ r c S i k C s r) w
  (fun w'=>gcheck_any r c ao S.length cap c i k 0 w' (by omega) (mx_ok h) (chk_ok hi hk hne))
  (fun w'=>gcolOf_of r c S.length cap i ao w')
  (fun w'=>gcolOf_of r c S.length cap k ao w')
  (fun w' hb=>?_)
 have hM:=h.below hb
 refine lineturned_of r c S.length cap i c r k c r C s ao (fun j=>coJ r c S i k C s j) (fun j=>j * c+i) (fun j=>j * c+k) (fun j=>elM c S j i) (fun j=>elM c S j k) (fun j=>aV (mV C (elM c S j i)) (mV s (elM c S j k))) (fun j=>aV (mV C (elM c S j k)) (fN (mV s (elM c S j i)))) w' h36 r6 (by show BitsAt w' ao cap (mxL (coJ r c S i k C s 0));rw [coJ_0 r c S i k C s h.2.1];exact hM.1) (fun j=>by rw [coJ_len,h.2.1]) (fun j hj=>?_) (fun w'' j hj=>?_) (fun w'' j hj=>?_) (fun w'' j hb2 hj=>gpair_any _ _ C s w'' (h.el_lt _ _) (h.el_lt _ _) hC hs ((hT.all hb).all hb2))
 ·have p1:j * c+i < S.length:=by rw [h.2.1];exact place_lt hj hi
  have p2:j * c+k < S.length:=by rw [h.2.1];exact place_lt hj hk
  refine ⟨p1,p2,fun e=>hne (by have e':j * c+i = j * c+k:=e;omega),?_,?_,coJ_set r c S hi hk hne hj⟩
  ·show (coJ r c S i k C s j)[j * c+i]?.getD 0 = _
   rw [at_el]
   unfold coJ
   rw [el_mk r c _ hj hi,if_neg (Nat.lt_irrefl j)]
  ·show (coJ r c S i k C s j)[j * c+k]?.getD 0 = _
   rw [at_el]
   unfold coJ
   rw [el_mk r c _ hj hk,if_neg (Nat.lt_irrefl j)]
 ·have p1:j * c+i < S.length:=by rw [h.2.1];exact place_lt hj hi
  exact gplace_of i c r j (j * c) (j * c+i) w'' (cast_mul10 j c) (by simp;omega) (by omega)
 ·have p2:j * c+k < S.length:=by rw [h.2.1];exact place_lt hj hk
  exact gplace_of k c r j (j * c) (j * c+k) w'' (cast_mul10 j c) (by simp;omega) (by omega)
end Go.Proofs.YtlnphkioddknfaaGreatDoor
