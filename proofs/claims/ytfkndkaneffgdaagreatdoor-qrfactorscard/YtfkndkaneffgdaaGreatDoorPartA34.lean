/- Part 34 of the texts. -/
import Derived.Test.YtfkndkaneffgdaaGreatDoorPartA33
import Derived.Deep.RegionWith
import Derived.Deep.RegionLaw
import Derived.Test.YtfkndkaneffgdaaGreatDoorPartA27
import Derived.Deep.RegionHeld3
namespace Go.Proofs.YtfkndkaneffgdaaGreatDoor
open Go.RowKit
attribute [local go_sem ↓] Go.wp_at_zero Go.wp_at_succ
structure LpSt (w wr:World) (g gr p q:Nat) (mo:Option Addr) (mc:Nat) (S:List Nat):Prop where
 bel:Below w.heap.size w wr
 box:BoxM wr g (.int .i64 p) (.int .i64 q) (.slice mo S.length mc)
 res:BoxM wr gr (.int .i64 0) (.int .i64 0) (.slice none 0 0)
 bits:BitsAt wr mo mc (mxL S)
 ne:gr ≠ g
 lo:w.heap.size≤g
theorem LpSt.all {w wr w':World} {g gr p q:Nat} {mo:Option Addr} {mc:Nat} {S:List Nat} (h:LpSt w wr g gr p q mo mc S) (hb:Below wr.heap.size wr w'):LpSt w w' g gr p q mo mc S :=
 ⟨h.bel.trans (hb.mono h.bel.size),h.box.all hb,h.res.all hb,h.bits.below hb,h.ne,h.lo⟩
theorem LpSt.put {w wr:World} {g gr p q:Nat} {mo:Option Addr} {mc:Nat} {S:List Nat} (h:LpSt w wr g gr p q mo mc S) {no:Option Addr} {nc:Nat} {T:List Nat} (hT:BitsAt wr no nc (mxL T)) :
  LpSt w (((wr.setCell ⟨g,0,none⟩ (.int .i64 p)).setCell ⟨g,1,none⟩ (.int .i64 q)).setCell ⟨g,2,none⟩ (.slice no T.length nc)) g gr p q no nc T :=
 ⟨below_putM h.bel h.lo _ _ _,h.box.put _ _ _,((h.res.other (p:=⟨g,0,none⟩) h.ne _).other (p:=⟨g,1,none⟩) h.ne _).other (p:=⟨g,2,none⟩) h.ne _,hT.putM h.box _ _ _,h.ne,h.lo⟩
theorem NewM.any {w:World} {r c:Nat} {S:List Nat} {ao:Option Addr} {cap:Nat} (h:BitsAt w ao cap (mxL S)):NewM 0 w r c S (.agg #[.int .i64 r,.int .i64 c,.slice ao S.length cap]):=by
 refine ⟨ao,cap,rfl,?_,h⟩
 rcases h.2.2 with e | ⟨b,off,e1,_,_⟩
 ·exact .inl e
 ·exact .inr ⟨b,off,e1,Nat.zero_le _⟩
def eyJ (n j:Nat):List Nat:=mkM n n (fun i k=>if k = i∧i < j then 4607182418800017408 else 0)
theorem eyJ_0 (n:Nat):eyJ n 0 = List.replicate (n * n) 0:=by
 rw [mkM_noughts]
 exact mkM_congr (fun i k _ _=>if_neg (by omega))
theorem eyJ_set (n j:Nat) (hj:j < n):(eyJ n j).set (j * n+j) 4607182418800017408 = eyJ n (j+1):=by
 unfold eyJ
 rw [mkM_set n n _ _ hj hj]
 refine mkM_congr (fun x y _ _=>?_)
 by_cases h:x = j∧y = j
 ·rw [if_pos h,if_pos (by omega)]
 ·rw [if_neg h]
  by_cases e:y = x∧x < j
  ·rw [if_pos e,if_pos (by omega)]
  ·rw [if_neg e,if_neg (by omega)]
theorem eyJ_all (n:Nat):eyJ n n = eyM n:=mkM_congr (fun i k hi _=>by
 by_cases e:k = i
 ·rw [if_pos ⟨e,hi⟩,if_pos e]
 ·rw [if_neg (fun h=>e h.1),if_neg e])
theorem eyJ_len (n j:Nat):(eyJ n j).length = n * n:=mkM_len _ _ _
set_option maxRecDepth 20000 in
set_option maxHeartbeats 4000000 in
theorem reye_any (n:Nat) (w:World) (hn:n≤6) :
  Calls Tryz.prog 30 #[.int .i64 n] w fun e w'=>∃ v,e = .returned v∧NewM 0 w' n n (eyM n) v∧Below w.heap.size w w':=by
 have K1:=hide (fun w'=>rzeros_any n n w' hn hn)
 have b0:=below_alloc9 w (.cells #[.int .i64 0,.int .i64 0,.slice none 0 0] 24)
 have X0:=BoxM.new w (.int .i64 0) (.int .i64 0) (.slice none 0 0)
 have s0:=size_alloc9 w (.cells #[.int .i64 0,.int .i64 0,.slice none 0 0] 24)
 have HB0:=hide b0;have HX0:=hide X0;have HS0:=hide s0
 clear b0 X0 s0
 go_enter Tryz.func30,Tryz.ntmps30
 go_wp2_with fail
 refine (uH K1 _).mono ?_
 rintro e w1 ⟨v,rfl,⟨mo,mc,rfl,nw,qs⟩,hb1⟩
 have ba:=below_alloc9 w1 (.cells #[.int .i64 n,.int .i64 n,.slice mo (List.replicate (n * n) 0).length mc] 24)
 have BB:=(uH HB0).trans (hb1.mono (uH HB0).size)
 have L0:=hide (show LpSt w (w1.alloc (.cells #[.int .i64 n,.int .i64 n,.slice mo (eyJ n 0).length mc] 24)) w1.heap.size w.heap.size n n mo mc (eyJ n 0) from by
  rw [eyJ_0]
  exact ⟨BB.trans (ba.mono BB.size),BoxM.new w1 _ _ _,((uH HX0).all hb1).all ba,qs.below ba,by have:=hb1.size;rw [uH HS0] at this;omega,BB.size⟩)
 rw [← eyJ_0]
 clear K1 hb1 ba BB nw qs HB0 HX0 HS0
 go_wp2_with fail
 generalize w1.heap.size = g at *
 go_loopw [4] (fun i wr=>∃ (j:Nat) (no:Option Addr) (nc:Nat),j≤n∧i = .int .i64 j∧Hid (LpSt w wr g w.heap.size n n no nc (eyJ n j))) (fun i _=>n - (intOf i).toNat)
 case atStart=>exact ⟨0,mo,mc,Nat.zero_le _,rfl,L0⟩
 case round =>
  clear L0
  obtain ⟨j,no,nc,hj,rfl,hL⟩:=hrel
  have y0:=(uH hL).box.c0;have y1:=(uH hL).box.c1;have y2:=(uH hL).box.c2
  by_cases hlt:j < n
  ·have hjI:(j:Int) < (n:Int):=by omega
   have C:=hide (rwith_any n n nc j j 4607182418800017408 no (eyJ n j) _ ⟨(uH hL).bits,eyJ_len n j,hn,hn⟩ hlt hlt (by decide))
   rw [eyJ_set n j hlt,show ((4607182418800017408:Nat):Int) = 4607182418800017408 from rfl] at C
   generalize (eyJ n j).length = l at *
   go_wp2_with fail
   refine Calls.mono (uH C) ?_
   rintro e w2 ⟨v,rfl,⟨no',nc',rfl,_,q2⟩,hb2⟩
   have L2:=(uH hL).all hb2
   have f0:=L2.box.free 0;have f1:=L2.box.free 1;have f2:=L2.box.free 2
   have u0:=L2.box.c0;have u1:=L2.box.c1;have u2:=L2.box.c2
   have L3:=hide (L2.put q2)
   clear C hb2 L2 hL y0 y1 y2 q2
   go_wp2_with fail
   go_round
   case rel=>exact ⟨j+1,no',nc',by omega,by go_num,L3⟩
   case measure=>simp [intOf];omega
  ·have hjj:j = n:=by omega
   subst hjj
   rw [eyJ_all] at hL y2
   have r0:=(uH hL).res.c0;have r1:=(uH hL).res.c1;have r2:=(uH hL).res.c2
   have f0:=(uH hL).res.free 0;have f1:=(uH hL).res.free 1;have f2:=(uH hL).res.free 2
   have XP:=(uH hL).res.put (.int .i64 j) (.int .i64 j) (.slice no (eyM j).length nc)
   have z0:=XP.c0;have z1:=XP.c1;have z2:=XP.c2
   have Q:=hide (BitsAt.putM (uH hL).bits (uH hL).res (.int .i64 j) (.int .i64 j) (.slice no (eyM j).length nc))
   have BP:=hide (below_putM (uH hL).bel (Nat.le_refl _) (.int .i64 j) (.int .i64 j) (.slice no (eyM j).length nc))
   clear XP hL
   go_wp2
   exact bodyPost_ret (v:=.agg #[.int .i64 j,.int .i64 j,.slice no (eyM j).length nc]) (by simp [results,Tryz.results30,go_sem,z0,z1,z2]) rfl ⟨_,rfl,NewM.any (uH Q),uH BP⟩
end Go.Proofs.YtfkndkaneffgdaaGreatDoor
namespace Go.Proofs.YtfkndkaneffgdaaGreatDoor
open Go.RowKit
attribute [local go_sem ↓] Go.wp_at_zero Go.wp_at_succ
theorem OwnB.least {base base':Nat} {w:World} {v:Value} {S:List Nat} (h:OwnB base w v S) (hb:base'≤base):OwnB base' w v S:=by
 refine ⟨⟨h.1.1,?_⟩,h.2⟩
 rcases h.1.2 with e | ⟨g,cap,cur,hv,hg,rest⟩
 ·exact .inl e
 ·exact .inr ⟨g,cap,cur,hv,Nat.le_trans hb hg,rest⟩
theorem OwnB.putM {base:Nat} {w:World} {v:Value} {S:List Nat} (h:OwnB base w v S) {b:Nat} {x y z:Value} (_hx:BoxM w b x y z) (hb:b < base) (u u' u'':Value):OwnB base (((w.setCell ⟨b,0,none⟩ u).setCell ⟨b,1,none⟩ u').setCell ⟨b,2,none⟩ u'') v S:=by
 refine ⟨⟨h.1.1,?_⟩,h.2⟩
 rcases h.1.2 with e | ⟨g,cap,cur,hv,hg,hh,rest⟩
 ·exact .inl e
 ·refine .inr ⟨g,cap,cur,hv,hg,?_,rest⟩
  have ne:g ≠ b:=by omega
  rw [Below.heap_setCell _ ⟨b,2,none⟩ u'' g ne,Below.heap_setCell _ ⟨b,1,none⟩ u' g ne,Below.heap_setCell _ ⟨b,0,none⟩ u g ne]
  exact hh
set_option maxRecDepth 20000 in
set_option maxHeartbeats 8000000 in
theorem rcopy_any (r c:Int) (ao:Option Addr) (cap:Nat) (I:List Int) (w:World) (h:BitsAt w ao cap I) (hl:I.length≤17592186043904) :
  Calls Tryz.prog 7 #[.agg #[.int .i64 r,.int .i64 c,.slice ao I.length cap]] w fun e w'=>∃ po pc,e = .returned (.agg #[.int .i64 r,.int .i64 c,.slice po I.length pc])∧OwnB w.heap.size w' (.slice po I.length pc) (natL I)∧Below w.heap.size w w':=by
 have b0:=below_alloc9 w (.cells #[.int .i64 r,.int .i64 c,.slice ao I.length cap] 24)
 have s0:=size_alloc9 w (.cells #[.int .i64 r,.int .i64 c,.slice ao I.length cap] 24)
 have b1:=below_alloc9 (w.alloc (.cells #[.int .i64 r,.int .i64 c,.slice ao I.length cap] 24)) (.cells #[.int .i64 0,.int .i64 0,.slice none 0 0] 24)
 have s1:=size_alloc9 (w.alloc (.cells #[.int .i64 r,.int .i64 c,.slice ao I.length cap] 24)) (.cells #[.int .i64 0,.int .i64 0,.slice none 0 0] 24)
 have bb:=b0.trans (b1.mono b0.size)
 have bits:=h.below bb
 have KB:=hide (fun w1=>boxes2 w (.int .i64 r) (.int .i64 c) (.slice ao I.length cap) (.int .i64 0) (.int .i64 0) (.slice none 0 0) w1)
 rw [s0] at s1
 have KC:=hide (fun w' (hb:Below (w.heap.size+1+1) ((w.alloc (.cells #[.int .i64 r,.int .i64 c,.slice ao I.length cap] 24)).alloc (.cells #[.int .i64 0,.int .i64 0,.slice none 0 0] 24)) w') (hz:w'.heap.size = w.heap.size+1+1)=>(show ∃ po pc w'',(Builtin.append_ #[22,22] 22 #[.slice (some ⟨w.heap.size+1+1,0,none⟩) 0 0,.slice ao I.length cap]).run Tryz.prog (w'.alloc (.cells #[] 30)) = .ok (.slice po I.length pc) w''∧(OwnB (w.heap.size+1+1) w'' (.slice po I.length pc) (natL I)∧Below (w.heap.size+1+1) ((w.alloc (.cells #[.int .i64 r,.int .i64 c,.slice ao I.length cap] 24)).alloc (.cells #[.int .i64 0,.int .i64 0,.slice none 0 0] 24)) w'') from by
  have b2:=below_alloc9 w' (.cells #[] 30)
  have on:=OwnB.nil w' (w.heap.size+1+1) (by omega)
  have bt:=(bits.below (by rw [s1];exact hb)).below b2
  obtain ⟨po,pc,w1,run,own,gr⟩:=copy_bits _ (w.heap.size+1+1) 22 ao cap I _ bt hl on.1 (by simp;omega)
  rw [hz] at run
  exact ⟨po,pc,w1,run,own,hb.trans ((b2.mono (by omega)).grown gr (by simp;omega) (fun g hg=>by cases hg;omega))⟩))
 clear b0 b1 s0 s1 bb bits h
 obtain ⟨l,hl'⟩:∃ l,I.length = l:=⟨_,rfl⟩
 have HL:=hide hl'
 rw [hl'] at KB KC hl ⊢
 clear hl'
 have HK:=hide (fun w' (hb:Below (w.heap.size+1+1) ((w.alloc (.cells #[.int .i64 r,.int .i64 c,.slice ao l cap] 24)).alloc (.cells #[.int .i64 0,.int .i64 0,.slice none 0 0] 24)) w')=>(show w'.cell? ⟨w.heap.size,0,none⟩ = some (.int .i64 r)∧w'.cell? ⟨w.heap.size,1,none⟩ = some (.int .i64 c)∧w'.cell? ⟨w.heap.size,2,none⟩ = some (.slice ao l cap) from
  ⟨(uH KB w' hb).2.1.c0,(uH KB w' hb).2.1.c1,(uH KB w' hb).2.1.c2⟩))
 have HP:=hide (fun w5 (u u' u'':Value) (hb:Below (w.heap.size+1+1) ((w.alloc (.cells #[.int .i64 r,.int .i64 c,.slice ao l cap] 24)).alloc (.cells #[.int .i64 0,.int .i64 0,.slice none 0 0] 24)) w5)=>(show (((w5.setCell ⟨w.heap.size+1,0,none⟩ u).setCell ⟨w.heap.size+1,1,none⟩ u').setCell ⟨w.heap.size+1,2,none⟩ u'').cell? ⟨w.heap.size,0,none⟩ = some (.int .i64 r)∧(((w5.setCell ⟨w.heap.size+1,0,none⟩ u).setCell ⟨w.heap.size+1,1,none⟩ u').setCell ⟨w.heap.size+1,2,none⟩ u'').cell? ⟨w.heap.size,1,none⟩ = some (.int .i64 c)∧(((w5.setCell ⟨w.heap.size+1,0,none⟩ u).setCell ⟨w.heap.size+1,1,none⟩ u').setCell ⟨w.heap.size+1,2,none⟩ u'').cell? ⟨w.heap.size,2,none⟩ = some (.slice ao l cap) from by
  have X:=(uH KB w5 hb).2.1
  have Y:=((X.other (p:=⟨w.heap.size+1,0,none⟩) (by show w.heap.size ≠ w.heap.size+1;omega) u).other (p:=⟨w.heap.size+1,1,none⟩) (by show w.heap.size ≠ w.heap.size+1;omega) u').other (p:=⟨w.heap.size+1,2,none⟩) (by show w.heap.size ≠ w.heap.size+1;omega) u''
  exact ⟨Y.c0,Y.c1,Y.c2⟩))
 go_enter Tryz.func7,Tryz.ntmps7
 go_wp2_with fail
 go_region_held3 (fun w'=>w'.cell? ⟨w.heap.size,0,none⟩ = some (.int .i64 r)∧w'.cell? ⟨w.heap.size,1,none⟩ = some (.int .i64 c)∧w'.cell? ⟨w.heap.size,2,none⟩ = some (.slice ao l cap))
  (first | exact uH HK _ (Below.refl _ _).drew | exact uH HK _ (by assumption) | exact uH HK _ ((Below.refl _ _).drew.alloc (by simp) _) | exact uH HP _ _ _ _ (by assumption) | fail "KK")
  (first | (refine step_append_ex _ (by rfl) _ _ 22 (by rfl) _ _ _ _ (by rfl) (by rfl) (uH KC _ (Below.refl _ _).drew (by first | rfl | simp)) ?_;rintro po pc w5 ⟨own5,bel5⟩;obtain ⟨B5,A5,X5⟩:=uH KB w5 bel5;have u0:=X5.c0;have u1:=X5.c1;have u2:=X5.c2;have f0:=X5.free 0;have f1:=X5.free 1;have f2:=X5.free 2;have HO:=hide own5;have HB:=hide B5;have HX:=hide X5;clear own5 A5 X5 B5) | fail "NO ARM")
 all_goals
  have XP:=(uH HX).put (.int .i64 r) (.int .i64 c) (.slice po l pc)
  have z0:=XP.c0;have z1:=XP.c1;have z2:=XP.c2
  have OP:=hide ((uH HO).putM (uH HX) (by omega) (.int .i64 r) (.int .i64 c) (.slice po l pc))
  have BP:=hide (below_putM (uH HB) (b:=w.heap.size+1) (by omega) (.int .i64 r) (.int .i64 c) (.slice po l pc))
  clear XP HX HO HB
  go_wp2
  exact bodyPost_ret (v:=.agg #[.int .i64 r,.int .i64 c,.slice po l pc]) (by simp [results,Tryz.results7,go_sem,z0,z1,z2]) rfl ⟨po,pc,rfl,(uH OP).least (by omega),uH BP⟩
end Go.Proofs.YtfkndkaneffgdaaGreatDoor
namespace Go.Proofs.YtfkndkaneffgdaaGreatDoor
open Go.RowKit
attribute [local go_sem ↓] Go.wp_at_zero Go.wp_at_succ
theorem BoxM.away {w:World} {g b k:Nat} {x y:Int} {a:Option Addr} {n d:Nat} {z:Int} (hx:BoxM w b (.int .i64 x) (.int .i64 y) (.slice a n d)) (hc:w.cell? ⟨g,k,none⟩ = some (.int .u64 z)):b ≠ g:=by
 rintro rfl
 rw [cell_of_row w b k _ _ _ hx] at hc
 rcases (show k = 0 ∨ k = 1 ∨ k = 2 ∨ 3≤k by omega) with e | e | e | e
 ·subst e;simp at hc
 ·subst e;simp at hc
 ·subst e;simp at hc
 ·rw [Array.getElem?_eq_none (by simp;omega)] at hc;simp at hc
end Go.Proofs.YtfkndkaneffgdaaGreatDoor
namespace Go.Proofs.YtfkndkaneffgdaaGreatDoor
open Go.RowKit
attribute [local go_sem ↓] Go.wp_at_zero Go.wp_at_succ
set_option maxRecDepth 20000 in
set_option maxHeartbeats 4000000 in
theorem r9dot_any (ao bo:Option Addr) (c d:Nat) (I J:List Int) (w:World) (hI:BitsAt w ao c I) (hJ:BitsAt w bo d J) (hl:I.length = J.length) (hn:I.length≤35184372088830) :
  Calls Tryz.prog 38 #[.slice ao I.length c,.slice bo J.length d] w fun e w'=>e = .returned (.int .u64 (dtK I J I.length:Nat))∧Below w.heap.size w w':=by
 have HI:=hide hI;have HJ:=hide hJ
 obtain ⟨n,hnn⟩:∃ n,I.length = n:=⟨_,rfl⟩
 rw [← hl,hnn]
 rw [hnn] at hn hl
 have HN:=hide hnn;have HM:=hide hl.symm
 clear hI hJ hnn hl
 go_enter Tryz.func38,Tryz.ntmps38
 go_wp2_with fail
 go_loopw [5,6] (fun t i wr=>∃ k:Nat,k≤n∧i = .int .i64 k∧t = .int .u64 (dtK I J k:Nat)∧Hid (Below w.heap.size w wr)) (fun _ i _=>n - (intOf i).toNat)
 case atStart=>exact ⟨0,Nat.zero_le _,rfl,rfl,Below.refl _ _⟩
 case round =>
  obtain ⟨k,hk,rfl,rfl,hB⟩:=hrel
  by_cases hlt:k < n
  ·have hkI:(k:Int) < (n:Int):=by omega
   obtain ⟨b1,o1,hao,hb1,hc1⟩:=((uH HI).below hB.out).ne (by rw [uH HN];omega)
   obtain ⟨b2,o2,hbo,hb2,hc2⟩:=((uH HJ).below hB.out).ne (by rw [uH HM];omega)
   have cx:=hc1 k (by rw [uH HN];exact hlt)
   have cy:=hc2 k (by rw [uH HM];exact hlt)
   have C1:=hide (fun w'=>r9mul_any (atB I k) (atB J k) w' ((uH HI).lt k) ((uH HJ).lt k))
   have C2:=hide (fun w'=>r9add_any (dtK I J k) (mV (atB I k) (atB J k)) w' (dtK_lt I J k) (mV_lt _ _))
   have eV:Hid (dtK I J (k+1) = aV (dtK I J k) (mV (atB I k) (atB J k))):=rfl
   subst hao
   subst hbo
   clear hc1 hc2
   generalize aV (dtK I J k) (mV (atB I k) (atB J k)) = o at *
   generalize mV (atB I k) (atB J k) = p at *
   generalize atB I k = x at *
   generalize atB J k = y at *
   generalize dtK I J k = s at *
   have HK:=hide (fun w' (h:Below wr.heap.size wr w')=>(show Below wr.heap.size wr w'∧w'.cell? ⟨b1,o1+k,none⟩ = some (.int .u64 (x:Nat))∧w'.cell? ⟨b2,o2+k,none⟩ = some (.int .u64 (y:Nat)) from ⟨h,cell_keep cx h,cell_keep cy h⟩))
   clear cx cy
   go_wp2_with fail
   go_region_held3 (fun w'=>Below wr.heap.size wr w'∧w'.cell? ⟨b1,o1+k,none⟩ = some (.int .u64 (x:Nat))∧w'.cell? ⟨b2,o2+k,none⟩ = some (.int .u64 (y:Nat)))
    (first | exact uH HK _ (Below.refl _ _).drew | exact uH HK _ (by assumption) | fail "KK")
    (first | (go_at_call 56;refine (uH C1 _).mono ?_;rintro e w1 ⟨rfl,hb3⟩;have hB1:Below wr.heap.size wr w1:=Below.trans (And.left (by assumption)) (hb3.mono (Below.size (And.left (by assumption))));clear hb3) | (go_at_call 66;refine (uH C2 _).mono ?_;rintro e w2 ⟨rfl,hb4⟩;have hB2:Below wr.heap.size wr w2:=Below.trans (And.left (by assumption)) (hb4.mono (Below.size (And.left (by assumption))));clear hb4) | fail "NO ARM")
   have B2:Hid (Below w.heap.size w _):=hB.out.trans (Below.mono (And.left (by assumption)) hB.out.size)
   go_wp2_with fail
   go_round
   case rel=>exact ⟨k+1,by omega,by go_num,by rw [eV.out],B2⟩
   case measure=>simp [intOf];omega
  ·have hkk:k = n:=by omega
   subst hkk
   go_wp2_with fail
   exact bodyPost_ret (v:=.int .u64 (dtK I J k:Nat)) (by simp [results,Tryz.results38,go_sem]) rfl ⟨rfl,hB.out⟩
end Go.Proofs.YtfkndkaneffgdaaGreatDoor
namespace Go.Proofs.YtfkndkaneffgdaaGreatDoor
open Go.RowKit
attribute [local go_sem ↓] Go.wp_at_zero Go.wp_at_succ
set_option maxRecDepth 20000 in
set_option maxHeartbeats 4000000 in
theorem r9sub_of (a b v:Nat) (o:Option Nat) (w:World)
  (hA:∀ i w',(binOp .sub i (.float .f64 a) (.float .f64 b)).run Tryz.prog w' = .ok (.float .f64 (fres o a b w')) (fwld o w'))
  (F1:∀ w',Calls Tryz.prog 85 #[.int .u64 a] w' fun r w''=>r = .returned (.float .f64 a)∧w' = w'')
  (F2:∀ w',Calls Tryz.prog 85 #[.int .u64 b] w' fun r w''=>r = .returned (.float .f64 b)∧w' = w'')
  (N1:∀ u w',Calls Tryz.prog 84 #[.float .f64 (fres o a b u)] w' fun r w''=>r = .returned (.int .u64 v)∧w' = w'') :
  Calls Tryz.prog 54 #[.int .u64 a,.int .u64 b] w fun r w'=>r = .returned (.int .u64 (v:Nat))∧Below w.heap.size w w':=by
 have L1:=hide F1;have L2:=hide F2;have M1:=hide N1
 have B:=hide (below_fwld o w)
 clear F1 F2 N1
 go_enter Tryz.func54,Tryz.ntmps54
 go_wp2_with fail
 refine (uH L1 _).mono ?_
 rintro e w2 ⟨rfl,rfl⟩
 go_wp2_with fail
 refine (uH L2 _).mono ?_
 rintro e w2 ⟨rfl,rfl⟩
 go_wp2_with fail
 refine (uH M1 _ _).mono ?_
 rintro e w2 ⟨rfl,rfl⟩
 clear L1 L2 M1
 go_wp2
 go_ret
 exact ⟨rfl,uH B⟩
theorem r9sub_any (a b:Nat) (w:World) (ha:a < 18446744073709551616) (hb:b < 18446744073709551616) :
  Calls Tryz.prog 54 #[.int .u64 a,.int .u64 b] w fun r w'=>r = .returned (.int .u64 (aV a (fN b):Nat))∧Below w.heap.size w w':=by
 refine r9sub_of a b (aV a (fN b)) (Ieee.double.sub a b) w (fun i w'=>fsub_run i a b w') (fun w'=>f9_any a w' ha) (fun w'=>f9_any b w' hb) (fun u w'=>b9_of _ _ w' (fun w''=>?_))
 rw [fsub_add a b hb]
 cases h:Ieee.double.add a (fN b) with
 | some r =>
  have:=canon_add a (fN b) u w'' ha (fN_lt b hb)
  rw [h] at this
  exact this
 | none =>
  have hn:aN a (fN b) = true:=by
   cases e:aN a (fN b) with
   | true=>rfl
   | false=>rw [fadd_some a (fN b) ha (fN_lt b hb) e] at h;cases h
  rw [(fadd_none a (fN b) ha (fN_lt b hb) hn).2]
  obtain ⟨h3,h4⟩:=fres_none a b u
  have:=canon_any _ w'' h3
  rw [if_pos h4] at this
  exact this
end Go.Proofs.YtfkndkaneffgdaaGreatDoor
