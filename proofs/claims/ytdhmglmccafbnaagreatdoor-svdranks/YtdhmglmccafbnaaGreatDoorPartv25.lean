/- Part 25 of the texts. -/
import Derived.Test.YtdhmglmccafbnaaGreatDoorPartv23
import Derived.Test.YtdhmglmccafbnaaGreatDoorPartv24
import Derived.Test.YtdhmglmccafbnaaGreatDoorPartv22
import Derived.Test.YtdhmglmccafbnaaGreatDoorPartv21
import Derived.Deep.RegionLaw
import Derived.Deep.RegionWith
import Derived.Test.YtdhmglmccafbnaaGreatDoorPartv15
import Derived.Test.YtdhmglmccafbnaaGreatDoorPartv14
import Derived.Test.YtdhmglmccafbnaaGreatDoorPartv19
import Derived.Test.YtdhmglmccafbnaaGreatDoorPartv18
import Derived.Test.YtdhmglmccafbnaaGreatDoorPartv16
import Derived.Test.YtdhmglmccafbnaaGreatDoorPartv17
import Derived.Test.YtdhmglmccafbnaaGreatDoorPartv12
import Derived.Test.YtdhmglmccafbnaaGreatDoorPartv13
import Derived.Deep.Cut
import Derived.BigQuiet
import Derived.Test.YtdhmglmccafbnaaGreatDoorPartv09
import Derived.Deep.RegionHeld3
import Derived.Test.YtdhmglmccafbnaaGreatDoorPartv11
import Derived.Test.YtdhmglmccafbnaaGreatDoorPartv03
import Derived.Test.YtdhmglmccafbnaaGreatDoorPartv04
import Derived.Maps.AppendAt
import Derived.Test.YtdhmglmccafbnaaGreatDoorPartv01
import Derived.Test.YtdhmglmccafbnaaGreatDoorPartv06
import Derived.Lib.BitFns
import Derived.Maps.Own
import Derived.Maps.OwnOps
import Derived.Maps.OwnSet
import Derived.DeepKeys4
import Derived.Test.YtdhmglmccafbnaaGreatDoorPartv08
import Derived.WalkSmall
import Derived.Test.YtdhmglmccafbnaaGreatDoorPartv02
import Derived.Test.YtdhmglmccafbnaaGreatDoorPartv05
import Derived.Test.YtdhmglmccafbnaaGreatDoorPartv07
import Derived.WalkMore
set_option maxHeartbeats 16000000
set_option maxRecDepth 20000
namespace Go.Proofs.YtdhmglmccafbnaaGreatDoor
open Go.RowKit
attribute [local go_sem ↓] Go.wp_at_zero Go.wp_at_succ
theorem less19_any (a b:Nat) (w:World) (ha:a < 18446744073709551616) (hb:b < 18446744073709551616) :
  Calls Tryz.prog 98 #[.int .u64 a,.int .u64 b] w fun r w'=>r = .returned (.bool (ltB a b))∧Below w.heap.size w w':=cless_any a b w ha hb
def sdC (r c:Nat) (S:List Nat) (k:Nat):List Nat:=paM c S 0 k r 1
def sdN (r c:Nat) (S:List Nat) (k:Nat):Nat:=nmV (mxL (sdC r c S k))
def sdG (r c:Nat) (S:List Nat) (p q:Nat):Nat:=dtK (mxL (sdC r c S p)) (mxL (sdC r c S q)) r
def sdZ (xx yy g:Nat):Nat:=dV (aV yy (fN xx)) (aV g g)
def sdU (z:Nat):Nat:=dV 4607182418800017408 (aV (fR z) (sV (aV 4607182418800017408 (mV z z))))
def sdT (z:Nat):Nat:=if fS z = true then fN (sdU z) else sdU z
def sdc (t:Nat):Nat:=dV 4607182418800017408 (sV (aV 4607182418800017408 (mV t t)))
def sds (t:Nat):Nat:=mV (sdc t) t
def sdTT (r c:Nat) (S:List Nat) (p q:Nat):Nat:=sdT (sdZ (sdG r c S p p) (sdG r c S q q) (sdG r c S p q))
structure Sd where
 W:List Nat
 V:List Nat
 still:Bool
def sdB (r c low:Nat) (S:List Nat) (p q:Nat):Bool:=!(ltB low (sdN r c S p)) || (!(ltB low (sdN r c S q)) || !(ltB (xV (mV (sdN r c S p) (sdN r c S q)) (-44)) (fR (sdG r c S p q))))
def sdX (r c p q:Nat) (s:Sd):Sd:=⟨coM r c s.W p q (sdc (sdTT r c s.W p q)) (fN (sds (sdTT r c s.W p q))),coM c c s.V p q (sdc (sdTT r c s.W p q)) (fN (sds (sdTT r c s.W p q))),false⟩
def sdP (r c low p q:Nat) (s:Sd):Sd:=if sdB r c low s.W p q = true then s else sdX r c p q s
def sdI (r c low p:Nat) (s:Sd):Nat→Sd
 | 0=>s
 | t+1=>sdP r c low p (p+1+t) (sdI r c low p s t)
def sdO (r c low:Nat) (s:Sd):Nat→Sd
 | 0=>s
 | p+1=>sdI r c low p (sdO r c low s p) (c - 1 - p)
def sdR (r c low:Nat) (s:Sd):Sd:=sdO r c low ⟨s.W,s.V,true⟩ c
def sdL (r c low:Nat) (s:Sd):Nat→Sd
 | 0=>s
 | n+1=>if (sdL r c low s n).still = true then sdL r c low s n else sdR r c low (sdL r c low s n)
def sdS (S:List Nat) (k:Int):List Nat:=(List.range S.length).map (fun i=>xV (S.getD i 0) k)
def sdNs (r c:Nat) (S:List Nat):List Nat:=(List.range c).map (sdN r c S)
def sdK (I:List Nat):Nat→Nat
 | 0=>0
 | k+1=>if sdK I k < k then sdK I k else if ltB (xV (I.getD 0 0) (-40)) (I.getD k 0) = true then k+1 else k
theorem sdC_len (r c:Nat) (S:List Nat) (k:Nat):(sdC r c S k).length = r:=by unfold sdC paM;rw [mkM_len,Nat.mul_one]
theorem sdS_len (S:List Nat) (k:Int):(sdS S k).length = S.length:=by simp [sdS]
theorem sdNs_len (r c:Nat) (S:List Nat):(sdNs r c S).length = c:=by simp [sdNs]
theorem sdG_lt (r c:Nat) (S:List Nat) (p q:Nat):sdG r c S p q < 18446744073709551616:=dtK_lt _ _ _
theorem sdN_lt (r c:Nat) (S:List Nat) (k:Nat):sdN r c S k < 18446744073709551616:=nmV_lt _
theorem sdU_lt (z:Nat):sdU z < 18446744073709551616:=dV_lt _ _
theorem sdc_lt (t:Nat):sdc t < 18446744073709551616:=dV_lt _ _
theorem sds_lt (t:Nat):sds t < 18446744073709551616:=mV_lt _ _
theorem sdcol_any (r c cap k:Nat) (ao:Option Addr) (S:List Nat) (w:World) (h:Mx w ao cap r c S) (hk:k < c) :
  Calls Tryz.prog 213 #[.agg #[.int .i64 r,.int .i64 c,.slice ao S.length cap],.int .i64 k] w fun e w'=>∃ bo d,e = .returned (.slice bo r d)∧NewB w.heap.size bo (mxL (sdC r c S k))∧BitsAt w' bo d (mxL (sdC r c S k))∧Below w.heap.size w w':=by
 have b0:=below_alloc9 w (.cells #[.int .i64 r,.int .i64 c,.slice ao S.length cap] 25)
 have K:=mPart_ok r c cap 0 k r 1 ao S _ (h.below b0) (by omega) (by omega)
 rw [show ((0:Nat):Int) = 0 from rfl,show ((1:Nat):Int) = 1 from rfl] at K
 simp only [size_alloc9] at K
 have K:=hide K
 have HX:=hide (BoxM.new w (.int .i64 r) (.int .i64 c) (.slice ao S.length cap))
 have HB:=hide b0
 have hl:(sdC r c S k).length = r:=sdC_len r c S k
 change Hid (Calls _ _ _ _ fun e w'=>∃ v,e = .returned (.tuple #[v,.int .i64 0])∧NewM (w.heap.size+1) w' r 1 (sdC r c S k) v∧Below (w.heap.size+1) _ w') at K
 generalize sdC r c S k = T at *
 have y0:=(uH HX).c0;have y1:=(uH HX).c1;have y2:=(uH HX).c2
 clear b0 h
 go_enter Tryz.func213,Tryz.ntmps213
 go_wp2_with fail
 clear y0 y1 y2
 refine Calls.mono (uH K) ?_
 rintro e w1 ⟨v,rfl,hN,hb⟩
 obtain ⟨bo,d,rfl,hnb,hB⟩:=hN
 rw [hl] at *
 have ba:=below_alloc9 w1 (.cells #[.int .i64 r,.int .i64 1,.slice bo r d] 25)
 have z2:=(BoxM.new w1 (.int .i64 r) (.int .i64 1) (.slice bo r d)).c2
 have hb2:Below w.heap.size w w1:=(uH HB).trans (hb.mono (by have:=(uH HB).size;simp at this ⊢))
 have R:=hide (show NewB w.heap.size bo (mxL T)∧BitsAt _ bo d (mxL T)∧Below w.heap.size w _ from ⟨hnb.least (Nat.le_succ _),hB.below ba,hb2.trans (ba.mono hb2.size)⟩)
 clear K HB HX hb hb2 hnb hB ba
 go_wp2_with fail
 exact bodyPost_ret (v:=.slice bo r d) (by simp [results,Tryz.results213,go_sem]) rfl ⟨bo,d,rfl,uH R⟩
theorem sddot_of (ao bo:Option Addr) (n m c d o:Nat) (e0:Int) (w:World)
  (C:Calls Tryz.prog 191 #[.slice ao n c,.slice bo m d] w fun e w'=>e = .returned (.tuple #[.int .u64 (o:Nat),.int .i64 e0])∧Below w.heap.size w w') :
  Calls Tryz.prog 240 #[.slice ao n c,.slice bo m d] w fun e w'=>e = .returned (.int .u64 (o:Nat))∧Below w.heap.size w w':=by
 have K:=hide C
 clear C
 go_enter Tryz.func240,Tryz.ntmps240
 go_wp2_with fail
 refine Calls.mono (uH K) ?_
 rintro e w1 ⟨rfl,hb1⟩
 clear K
 go_wp2
 go_ret
 exact ⟨rfl,hb1⟩
theorem sdnorm_of (ao:Option Addr) (n c o:Nat) (e0:Int) (w:World)
  (C:Calls Tryz.prog 239 #[.slice ao n c] w fun e w'=>e = .returned (.tuple #[.int .u64 (o:Nat),.int .i64 e0])∧Below w.heap.size w w') :
  Calls Tryz.prog 209 #[.slice ao n c] w fun e w'=>e = .returned (.int .u64 (o:Nat))∧Below w.heap.size w w':=by
 have K:=hide C
 clear C
 go_enter Tryz.func209,Tryz.ntmps209
 go_wp2_with fail
 refine Calls.mono (uH K) ?_
 rintro e w1 ⟨rfl,hb1⟩
 clear K
 go_wp2
 go_ret
 exact ⟨rfl,hb1⟩
theorem sdnorm_any (ao:Option Addr) (c:Nat) (I:List Int) (w:World) (hI:BitsAt w ao c I) (hn:I.length≤64) (hT:Tab w) :
  Calls Tryz.prog 209 #[.slice ao I.length c] w fun e w'=>e = .returned (.int .u64 (nmV I:Nat))∧Below w.heap.size w w' :=
 sdnorm_of ao I.length c (nmV I) 0 w (vNorm_ok ao c I w hI hn hT)
theorem good64 {I J:List Int} (h:I.length = J.length) (h6:J.length≤64):goB I J = true:=by
 exact decide_eq_true ⟨by omega,h⟩
theorem sddot_any (ao bo:Option Addr) (c d:Nat) (I J:List Int) (w:World) (hI:BitsAt w ao c I) (hJ:BitsAt w bo d J) (h:I.length = J.length) (h6:J.length≤64) (hT:Tab w) :
  Calls Tryz.prog 240 #[.slice ao I.length c,.slice bo J.length d] w fun e w'=>e = .returned (.int .u64 (dtK I J I.length:Nat))∧Below w.heap.size w w':=by
 have C:=vDot_any ao bo c d I J w hI hJ hT
 rw [if_pos (good64 h h6),if_pos (good64 h h6)] at C
 exact sddot_of ao bo I.length J.length c d _ 0 w C
structure SdSt (w wr:World) (r c:Nat) (ao:Option Addr) (n cap:Nat):Prop where
 bel:Below w.heap.size w wr
 box:BoxM wr w.heap.size (.int .i64 r) (.int .i64 c) (.slice ao n cap)
theorem SdSt.all {w wr w':World} {r c:Nat} {ao:Option Addr} {n cap:Nat} (h:SdSt w wr r c ao n cap) (hb:Below wr.heap.size wr w'):SdSt w w' r c ao n cap:=⟨h.bel.trans (hb.mono h.bel.size),h.box.all hb⟩
theorem SdSt.set {w wr:World} {r c:Nat} {ao:Option Addr} {n cap:Nat} (h:SdSt w wr r c ao n cap) {g:Nat} (hg:w.heap.size < g) (j:Nat) (v:Value):SdSt w (wr.setCell ⟨g,j,none⟩ v) r c ao n cap:=⟨h.bel.setCell (p:=⟨g,j,none⟩) (Nat.le_of_lt hg) _,h.box.other (p:=⟨g,j,none⟩) (by show w.heap.size ≠ g;omega) _⟩
theorem sdnorms_of (r c n cap:Nat) (ao:Option Addr) (f:Nat→Nat) (Q:World→Option Addr→Nat→Nat→Prop) (w:World) (h6:c≤6)
  (C1:∀ w' k,Below w.heap.size w w'→k < c→Calls Tryz.prog 213 #[.agg #[.int .i64 r,.int .i64 c,.slice ao n cap],.int .i64 k] w' fun e w''=>∃ bo d,e = .returned (.slice bo r d)∧Q w'' bo d k∧Below w'.heap.size w' w'')
  (C2:∀ w' bo d k,Below w.heap.size w w'→k < c→Q w' bo d k→Calls Tryz.prog 209 #[.slice bo r d] w' fun e w''=>e = .returned (.int .u64 (f k:Nat))∧Below w'.heap.size w' w'') :
  Calls Tryz.prog 157 #[.agg #[.int .i64 r,.int .i64 c,.slice ao n cap]] w fun e w'=>∃ g,e = .returned (.slice (some ⟨g,0,none⟩) c c)∧w.heap.size≤g∧RowB w' g ((List.range c).map f)∧Below w.heap.size w w':=by
 have K1:=hide C1;have K2:=hide C2
 have hmk:=run_make_row' (P:=Tryz.prog) 23 28 (.int .u64 0) 8 Tryz.underlying23 (by kernel_rfl) rfl .i64 .i64 c (by omega) (by omega)
 have b0:=below_alloc9 w (.cells #[.int .i64 r,.int .i64 c,.slice ao n cap] 25)
 have x0:=BoxM.new w (.int .i64 r) (.int .i64 c) (.slice ao n cap)
 have s0:=size_alloc9 w (.cells #[.int .i64 r,.int .i64 c,.slice ao n cap] 25)
 have y1:=x0.c1
 have hm:=RowB.made (w.alloc (.cells #[.int .i64 r,.int .i64 c,.slice ao n cap] 25)) c
 have b1:=below_alloc9 (w.alloc (.cells #[.int .i64 r,.int .i64 c,.slice ao n cap] 25)) (.cells (madeCells #[.int .u64 0] c) 28)
 have ST:=hide (show SdSt w _ r c ao n cap from (SdSt.mk b0 x0).all b1)
 rw [s0] at hm
 have HM:=hide hm
 clear C1 C2 b0 b1 x0 hm s0
 go_enter Tryz.func157,Tryz.ntmps157
 go_wp2_with fail
 clear hmk y1
 go_loopw [10] (fun i wr=>∃ k:Nat,k≤c∧i = .int .i64 k∧Hid (RowB wr (w.heap.size+1) (eaL f c k))∧Hid (SdSt w wr r c ao n cap)) (fun i _=>c - (intOf i).toNat)
 case atStart=>exact ⟨0,Nat.zero_le _,rfl,by rw [eaL_0];exact HM,ST⟩
 case round =>
  clear HM ST
  obtain ⟨k,hk,rfl,hR,hS⟩:=hrel
  by_cases hlt:k < c
  ·have hkI:(k:Int) < (c:Int):=by omega
   have C:=hide (fun w' h=>uH K1 w' k h hlt)
   have D:=hide (fun w' bo d h q=>uH K2 w' bo d k h hlt q)
   obtain ⟨o,eo⟩:∃ o,f k = o:=⟨_,rfl⟩
   rw [eo] at D
   have eV:=hide eo
   clear eo
   have y0:=(uH hS).box.c0;have y1:=(uH hS).box.c1;have y2:=(uH hS).box.c2
   go_wp2_with fail
   clear y0 y1 y2
   refine (uH C _ (uH hS).bel).mono ?_
   rintro e w2 ⟨bo,d,rfl,hq,hb2⟩
   replace hR:=hide ((uH hR).below hb2 (uH hR).lt)
   replace hS:=hide ((uH hS).all hb2)
   have HQ:=hide hq
   clear hb2 hq C
   go_wp2_with fail
   refine (uH D _ bo d (uH hS).bel (uH HQ)).mono ?_
   rintro e w3 ⟨rfl,hb2⟩
   have hR2:=(uH hR).below hb2 (uH hR).lt
   have S2:=(uH hS).all hb2
   have c0:=hR2.cell k (by rw [eaL_len];exact hlt)
   have f0:=hR2.free k
   have R3:=hide (hR2.set k o)
   have S3:=hide (S2.set (g:=w.heap.size+1) (Nat.lt_succ_self _) k (.int .u64 (o:Int)))
   clear hb2 D hR hS HQ hR2 S2
   go_wp2_with fail
   go_round
   case rel=>exact ⟨k+1,by omega,by go_num,by rw [← eaL_set,uH eV];exact R3,S3⟩
   case measure=>simp [intOf];omega
  ·have hkk:k = c:=by omega
   subst hkk
   go_wp2_with fail
   exact bodyPost_ret (v:=.slice (some ⟨w.heap.size+1,0,none⟩) k k) (by simp [results,Tryz.results157,go_sem]) rfl ⟨_,rfl,Nat.le_succ _,by rw [← eaL_full];exact uH hR,(uH hS).bel⟩
theorem sdnorms_any (r c cap:Nat) (ao:Option Addr) (S:List Nat) (w:World) (h:Mx w ao cap r c S) (hT:Tab w) :
  Calls Tryz.prog 157 #[.agg #[.int .i64 r,.int .i64 c,.slice ao S.length cap]] w fun e w'=>∃ g,e = .returned (.slice (some ⟨g,0,none⟩) c c)∧w.heap.size≤g∧RowB w' g (sdNs r c S)∧Below w.heap.size w w':=by
 refine sdnorms_of r c S.length cap ao (sdN r c S) (fun w' bo d k=>BitsAt w' bo d (mxL (sdC r c S k))) w h.2.2.2 (fun w' k hb hk=>?_) (fun w' bo d k hb hk q=>?_)
 ·refine (sdcol_any r c cap k ao S w' (h.below hb) hk).mono ?_
  rintro e w'' ⟨bo,d,rfl,_,q,hb2⟩
  exact ⟨bo,d,rfl,q,hb2⟩
 ·have:=sdnorm_any bo d (mxL (sdC r c S k)) w' q (by rw [mxL_len,sdC_len];have:=h.2.2.1;omega) (hT.all hb)
  rwa [mxL_len,sdC_len] at this
theorem sdshift_of (r c n cap:Nat) (k:Int) (ao:Option Addr) (I:List Nat) (f:Nat→Nat) (w:World) (hl:I.length = n) (h6:n≤36) (hI:BitsAt w ao cap (mxL I)) (hf:∀ i,i < n→xV (I.getD i 0) k = f i) (hT:Tab w) :
  Calls Tryz.prog 155 #[.agg #[.int .i64 r,.int .i64 c,.slice ao n cap],.int .i64 k] w fun e w'=>∃ g,e = .returned (.agg #[.int .i64 r,.int .i64 c,.slice (some ⟨g,0,none⟩) n n])∧w.heap.size≤g∧RowB w' g ((List.range n).map f)∧Below w.heap.size w w':=by
 have HI:=hide hI;have HT:=hide hT;have HF:=hide hf;have HL:=hide (show (mxL I).length = n from (mxL_len I).trans hl)
 have hmk:=run_make_row' (P:=Tryz.prog) 23 28 (.int .u64 0) 8 Tryz.underlying23 (by kernel_rfl) rfl .i64 .i64 n (by omega) (by omega)
 have KB:=hide (boxes2 w (.int .i64 r) (.int .i64 c) (.slice ao n cap) (.int .i64 0) (.int .i64 0) (.slice none 0 0))
 obtain ⟨b0,x0,x1⟩:=uH KB ((w.alloc (.cells #[.int .i64 r,.int .i64 c,.slice ao n cap] 25)).alloc (.cells #[.int .i64 0,.int .i64 0,.slice none 0 0] 25)) (by have:=Below.refl ((w.alloc (.cells #[.int .i64 r,.int .i64 c,.slice ao n cap] 25)).alloc (.cells #[.int .i64 0,.int .i64 0,.slice none 0 0] 25)).heap.size ((w.alloc (.cells #[.int .i64 r,.int .i64 c,.slice ao n cap] 25)).alloc (.cells #[.int .i64 0,.int .i64 0,.slice none 0 0] 25));simpa only [size_alloc9] using this)
 have s0:((w.alloc (.cells #[.int .i64 r,.int .i64 c,.slice ao n cap] 25)).alloc (.cells #[.int .i64 0,.int .i64 0,.slice none 0 0] 25)).heap.size = w.heap.size+1+1:=by simp only [size_alloc9]
 have y2:=x0.c2
 have hm:=RowB.made ((w.alloc (.cells #[.int .i64 r,.int .i64 c,.slice ao n cap] 25)).alloc (.cells #[.int .i64 0,.int .i64 0,.slice none 0 0] 25)) n
 have b1:=below_alloc9 ((w.alloc (.cells #[.int .i64 r,.int .i64 c,.slice ao n cap] 25)).alloc (.cells #[.int .i64 0,.int .i64 0,.slice none 0 0] 25)) (.cells (madeCells #[.int .u64 0] n) 28)
 have x2:=x0.all b1
 have ST:=hide (show SdSt w _ r c ao n cap from (SdSt.mk b0 x0).all b1)
 have XR:=hide (x1.all b1)
 rw [s0] at hm
 have HM:=hide hm
 have y2':=x2.c2
 clear KB b1 hm x2 b0 x0 x1 s0 hI hT hf
 go_enter Tryz.func155,Tryz.ntmps155
 go_wp2_with fail
 clear hmk y2 y2'
 go_loopw [15] (fun i wr=>∃ k':Nat,k'≤n∧i = .int .i64 k'∧Hid (RowB wr (w.heap.size+1+1) (eaL f n k'))∧Hid (SdSt w wr r c ao n cap)∧Hid (BoxM wr (w.heap.size+1) (.int .i64 0) (.int .i64 0) (.slice none 0 0))) (fun i _=>n - (intOf i).toNat)
 case atStart=>exact ⟨0,Nat.zero_le _,rfl,by rw [eaL_0];exact HM,ST,XR⟩
 case round =>
  clear HM ST XR
  obtain ⟨i,hi,rfl,hR,hS,hX⟩:=hrel
  by_cases hlt:i < n
  ·have hiI:(i:Int) < (n:Int):=by omega
   have hil:i < I.length:=by have:=uH HL;rw [mxL_len] at this;omega
   obtain ⟨b,off,hao,hb,hck⟩:=bits_cell ((uH HI).below (uH hS).bel) hil
   have hv:I.getD i 0 < 18446744073709551616:=by
    rw [← mxL_at]
    exact (uH HI).lt i
   have K:=hide (fun w' (hb:Below w.heap.size w w')=>vscale_any (I.getD i 0) k w' hv ((uH HT).all hb))
   have eF:=uH HF i hlt
   rw [eF] at K
   obtain ⟨o,eo⟩:∃ o,f i = o:=⟨_,rfl⟩
   rw [eo] at K
   have eV:=hide eo
   generalize I.getD i 0 = x at *
   subst hao
   have y2:=(uH hS).box.c2
   clear eo eF hv hb hil
   go_wp2_with fail
   clear y2 hck
   refine (uH K _ (uH hS).bel).mono ?_
   rintro e w3 ⟨rfl,hb2⟩
   have hR2:=(uH hR).below hb2 (uH hR).lt
   have S2:=(uH hS).all hb2
   have X2:=(uH hX).all hb2
   have c0:=hR2.cell i (by rw [eaL_len];exact hlt)
   have f0:=hR2.free i
   have R3:=hide (hR2.set i o)
   have S3:=hide (S2.set (g:=w.heap.size+1+1) (by omega) i (.int .u64 (o:Int)))
   have X3:=hide (X2.other (p:=⟨w.heap.size+1+1,i,none⟩) (by show w.heap.size+1 ≠ w.heap.size+1+1;omega) (.int .u64 (o:Int)))
   clear hb2 K hR hS hX hR2 S2 X2
   go_wp2_with fail
   go_round
   case rel=>exact ⟨i+1,by omega,by go_num,by rw [← eaL_set,uH eV];exact R3,S3,X3⟩
   case measure=>simp [intOf];omega
  ·have hii:i = n:=by omega
   subst hii
   have y0:=(uH hS).box.c0;have y1:=(uH hS).box.c1
   have hXx:=uH hX
   have s0:=hXx.c0;have s1:=hXx.c1;have s2:=hXx.c2
   have f0:=hXx.free 0;have f1:=hXx.free 1;have f2:=hXx.free 2
   have XP:=hXx.put (.int .i64 (r:Nat)) (.int .i64 (c:Nat)) (.slice (some ⟨w.heap.size+1+1,0,none⟩) i i)
   have z0:=XP.c0;have z1:=XP.c1;have z2:=XP.c2
   have RR:=hide ((uH hR).three (g:=w.heap.size+1) (by omega) (.int .i64 (r:Nat)) (.int .i64 (c:Nat)) (.slice (some ⟨w.heap.size+1+1,0,none⟩) i i))
   have BP:=hide (below_putM (uH hS).bel (b:=w.heap.size+1) (by omega) (.int .i64 (r:Nat)) (.int .i64 (c:Nat)) (.slice (some ⟨w.heap.size+1+1,0,none⟩) i i))
   clear XP hXx hX hR hS
   go_wp2_with fail
   exact bodyPost_ret (v:=.agg #[.int .i64 r,.int .i64 c,.slice (some ⟨w.heap.size+1+1,0,none⟩) i i]) (by simp [results,Tryz.results155,go_sem,z0,z1,z2]) rfl ⟨_,rfl,by omega,by rw [← eaL_full];exact uH RR,uH BP⟩
theorem sdshift_any (r c cap:Nat) (k:Int) (ao:Option Addr) (S:List Nat) (w:World) (h:Mx w ao cap r c S) (hT:Tab w) :
  Calls Tryz.prog 155 #[.agg #[.int .i64 r,.int .i64 c,.slice ao S.length cap],.int .i64 k] w fun e w'=>∃ g,e = .returned (.agg #[.int .i64 r,.int .i64 c,.slice (some ⟨g,0,none⟩) S.length S.length])∧w.heap.size≤g∧RowB w' g (sdS S k)∧Below w.heap.size w w' :=
 sdshift_of r c S.length cap k ao S (fun i=>xV (S.getD i 0) k) w rfl h.small h.1 (fun _ _=>rfl) hT
end Go.Proofs.YtdhmglmccafbnaaGreatDoor
namespace Go.Proofs.YtdhmglmccafbnaaGreatDoor
open Go.RowKit
attribute [local go_sem ↓] Go.wp_at_zero Go.wp_at_succ
theorem sdturn_pos (ao bo:Option Addr) (n c d g yy xx v1 v2 z v3 v4 v5 v6 v7 u0 v8 v9 v10 C s:Nat) (w:World)
  (D1:∀ w',Below w.heap.size w w'→Calls Tryz.prog 240 #[.slice bo n d,.slice bo n d] w' fun e w''=>e = .returned (.int .u64 (yy:Nat))∧Below w'.heap.size w' w'')
  (D2:∀ w',Below w.heap.size w w'→Calls Tryz.prog 240 #[.slice ao n c,.slice ao n c] w' fun e w''=>e = .returned (.int .u64 (xx:Nat))∧Below w'.heap.size w' w'')
  (A1:∀ w',Below w.heap.size w w'→Calls Tryz.prog 174 #[.int .u64 (yy:Nat),.int .u64 (xx:Nat)] w' fun e w''=>e = .returned (.int .u64 (v1:Nat))∧Below w'.heap.size w' w'')
  (A2:∀ w',Below w.heap.size w w'→Calls Tryz.prog 260 #[.int .u64 (g:Nat),.int .u64 (g:Nat)] w' fun e w''=>e = .returned (.int .u64 (v2:Nat))∧Below w'.heap.size w' w'')
  (A3:∀ w',Below w.heap.size w w'→Calls Tryz.prog 176 #[.int .u64 (v1:Nat),.int .u64 (v2:Nat)] w' fun e w''=>e = .returned (.int .u64 (z:Nat))∧Below w'.heap.size w' w'')
  (A4:∀ w',Below w.heap.size w w'→Calls Tryz.prog 124 #[.int .u64 (z:Nat)] w' fun e w''=>e = .returned (.int .u64 (v3:Nat))∧Below w'.heap.size w' w'')
  (A5:∀ w',Below w.heap.size w w'→Calls Tryz.prog 175 #[.int .u64 (z:Nat),.int .u64 (z:Nat)] w' fun e w''=>e = .returned (.int .u64 (v4:Nat))∧Below w'.heap.size w' w'')
  (A6:∀ w',Below w.heap.size w w'→Calls Tryz.prog 260 #[.int .u64 4607182418800017408,.int .u64 (v4:Nat)] w' fun e w''=>e = .returned (.int .u64 (v5:Nat))∧Below w'.heap.size w' w'')
  (A7:∀ w',Below w.heap.size w w'→Calls Tryz.prog 261 #[.int .u64 (v5:Nat)] w' fun e w''=>e = .returned (.int .u64 (v6:Nat))∧Below w'.heap.size w' w'')
  (A8:∀ w',Below w.heap.size w w'→Calls Tryz.prog 260 #[.int .u64 (v3:Nat),.int .u64 (v6:Nat)] w' fun e w''=>e = .returned (.int .u64 (v7:Nat))∧Below w'.heap.size w' w'')
  (A9:∀ w',Below w.heap.size w w'→Calls Tryz.prog 176 #[.int .u64 4607182418800017408,.int .u64 (v7:Nat)] w' fun e w''=>e = .returned (.int .u64 (u0:Nat))∧Below w'.heap.size w' w'')
  (AA:∀ w',Below w.heap.size w w'→Calls Tryz.prog 187 #[.int .u64 (z:Nat)] w' fun e w''=>e = .returned (.bool false)∧Below w'.heap.size w' w'')
  (AC:∀ w',Below w.heap.size w w'→Calls Tryz.prog 175 #[.int .u64 (u0:Nat),.int .u64 (u0:Nat)] w' fun e w''=>e = .returned (.int .u64 (v8:Nat))∧Below w'.heap.size w' w'')
  (AD:∀ w',Below w.heap.size w w'→Calls Tryz.prog 260 #[.int .u64 4607182418800017408,.int .u64 (v8:Nat)] w' fun e w''=>e = .returned (.int .u64 (v9:Nat))∧Below w'.heap.size w' w'')
  (AE:∀ w',Below w.heap.size w w'→Calls Tryz.prog 261 #[.int .u64 (v9:Nat)] w' fun e w''=>e = .returned (.int .u64 (v10:Nat))∧Below w'.heap.size w' w'')
  (AF:∀ w',Below w.heap.size w w'→Calls Tryz.prog 176 #[.int .u64 4607182418800017408,.int .u64 (v10:Nat)] w' fun e w''=>e = .returned (.int .u64 (C:Nat))∧Below w'.heap.size w' w'')
  (AG:∀ w',Below w.heap.size w w'→Calls Tryz.prog 175 #[.int .u64 (C:Nat),.int .u64 (u0:Nat)] w' fun e w''=>e = .returned (.int .u64 (s:Nat))∧Below w'.heap.size w' w'') :
  Calls Tryz.prog 241 #[.slice ao n c,.slice bo n d,.int .u64 g] w fun e w'=>e = .returned (.tuple #[.int .u64 (C:Nat),.int .u64 (s:Nat)])∧Below w.heap.size w w':=by
 have HB:=hide (Below.refl w.heap.size w)
 have KD1:=hide D1
 have KD2:=hide D2
 have KA1:=hide A1
 have KA2:=hide A2
 have KA3:=hide A3
 have KA4:=hide A4
 have KA5:=hide A5
 have KA6:=hide A6
 have KA7:=hide A7
 have KA8:=hide A8
 have KA9:=hide A9
 have KAA:=hide AA
 have KAC:=hide AC
 have KAD:=hide AD
 have KAE:=hide AE
 have KAF:=hide AF
 have KAG:=hide AG
 clear D1 D2 A1 A2 A3 A4 A5 A6 A7 A8 A9 AA AC AD AE AF AG
 go_enter Tryz.func241,Tryz.ntmps241
 go_wp2_with fail
 refine (uH KD1 _ (uH HB)).mono ?_
 rintro e w1 ⟨rfl,hb⟩
 replace HB:=hide ((uH HB).trans (hb.mono (uH HB).size))
 clear hb KD1
 go_wp2_with fail
 refine (uH KD2 _ (uH HB)).mono ?_
 rintro e w1 ⟨rfl,hb⟩
 replace HB:=hide ((uH HB).trans (hb.mono (uH HB).size))
 clear hb KD2
 go_wp2_with fail
 refine (uH KA1 _ (uH HB)).mono ?_
 rintro e w1 ⟨rfl,hb⟩
 replace HB:=hide ((uH HB).trans (hb.mono (uH HB).size))
 clear hb KA1
 go_wp2_with fail
 refine (uH KA2 _ (uH HB)).mono ?_
 rintro e w1 ⟨rfl,hb⟩
 replace HB:=hide ((uH HB).trans (hb.mono (uH HB).size))
 clear hb KA2
 go_wp2_with fail
 refine (uH KA3 _ (uH HB)).mono ?_
 rintro e w1 ⟨rfl,hb⟩
 replace HB:=hide ((uH HB).trans (hb.mono (uH HB).size))
 clear hb KA3
 go_wp2_with fail
 refine (uH KA4 _ (uH HB)).mono ?_
 rintro e w1 ⟨rfl,hb⟩
 replace HB:=hide ((uH HB).trans (hb.mono (uH HB).size))
 clear hb KA4
 go_wp2_with fail
 refine (uH KA5 _ (uH HB)).mono ?_
 rintro e w1 ⟨rfl,hb⟩
 replace HB:=hide ((uH HB).trans (hb.mono (uH HB).size))
 clear hb KA5
 go_wp2_with fail
 refine (uH KA6 _ (uH HB)).mono ?_
 rintro e w1 ⟨rfl,hb⟩
 replace HB:=hide ((uH HB).trans (hb.mono (uH HB).size))
 clear hb KA6
 go_wp2_with fail
 refine (uH KA7 _ (uH HB)).mono ?_
 rintro e w1 ⟨rfl,hb⟩
 replace HB:=hide ((uH HB).trans (hb.mono (uH HB).size))
 clear hb KA7
 go_wp2_with fail
 refine (uH KA8 _ (uH HB)).mono ?_
 rintro e w1 ⟨rfl,hb⟩
 replace HB:=hide ((uH HB).trans (hb.mono (uH HB).size))
 clear hb KA8
 go_wp2_with fail
 refine (uH KA9 _ (uH HB)).mono ?_
 rintro e w1 ⟨rfl,hb⟩
 replace HB:=hide ((uH HB).trans (hb.mono (uH HB).size))
 clear hb KA9
 go_wp2_with fail
 refine (uH KAA _ (uH HB)).mono ?_
 rintro e w1 ⟨rfl,hb⟩
 replace HB:=hide ((uH HB).trans (hb.mono (uH HB).size))
 clear hb KAA
 go_wp2_with fail
 refine (uH KAC _ (uH HB)).mono ?_
 rintro e w1 ⟨rfl,hb⟩
 replace HB:=hide ((uH HB).trans (hb.mono (uH HB).size))
 clear hb KAC
 go_wp2_with fail
 refine (uH KAD _ (uH HB)).mono ?_
 rintro e w1 ⟨rfl,hb⟩
 replace HB:=hide ((uH HB).trans (hb.mono (uH HB).size))
 clear hb KAD
 go_wp2_with fail
 refine (uH KAE _ (uH HB)).mono ?_
 rintro e w1 ⟨rfl,hb⟩
 replace HB:=hide ((uH HB).trans (hb.mono (uH HB).size))
 clear hb KAE
 go_wp2_with fail
 refine (uH KAF _ (uH HB)).mono ?_
 rintro e w1 ⟨rfl,hb⟩
 replace HB:=hide ((uH HB).trans (hb.mono (uH HB).size))
 clear hb KAF
 go_wp2_with fail
 refine (uH KAG _ (uH HB)).mono ?_
 rintro e w1 ⟨rfl,hb⟩
 replace HB:=hide ((uH HB).trans (hb.mono (uH HB).size))
 clear hb KAG
 go_wp2_with fail
 exact bodyPost_ret (v:=.tuple #[.int .u64 (C:Nat),.int .u64 (s:Nat)]) (by simp [results,Tryz.results241,go_sem]) rfl ⟨rfl,uH HB⟩
theorem sdturn_neg (ao bo:Option Addr) (n c d g yy xx v1 v2 z v3 v4 v5 v6 v7 u0 t v8 v9 v10 C s:Nat) (w:World)
  (D1:∀ w',Below w.heap.size w w'→Calls Tryz.prog 240 #[.slice bo n d,.slice bo n d] w' fun e w''=>e = .returned (.int .u64 (yy:Nat))∧Below w'.heap.size w' w'')
  (D2:∀ w',Below w.heap.size w w'→Calls Tryz.prog 240 #[.slice ao n c,.slice ao n c] w' fun e w''=>e = .returned (.int .u64 (xx:Nat))∧Below w'.heap.size w' w'')
  (A1:∀ w',Below w.heap.size w w'→Calls Tryz.prog 174 #[.int .u64 (yy:Nat),.int .u64 (xx:Nat)] w' fun e w''=>e = .returned (.int .u64 (v1:Nat))∧Below w'.heap.size w' w'')
  (A2:∀ w',Below w.heap.size w w'→Calls Tryz.prog 260 #[.int .u64 (g:Nat),.int .u64 (g:Nat)] w' fun e w''=>e = .returned (.int .u64 (v2:Nat))∧Below w'.heap.size w' w'')
  (A3:∀ w',Below w.heap.size w w'→Calls Tryz.prog 176 #[.int .u64 (v1:Nat),.int .u64 (v2:Nat)] w' fun e w''=>e = .returned (.int .u64 (z:Nat))∧Below w'.heap.size w' w'')
  (A4:∀ w',Below w.heap.size w w'→Calls Tryz.prog 124 #[.int .u64 (z:Nat)] w' fun e w''=>e = .returned (.int .u64 (v3:Nat))∧Below w'.heap.size w' w'')
  (A5:∀ w',Below w.heap.size w w'→Calls Tryz.prog 175 #[.int .u64 (z:Nat),.int .u64 (z:Nat)] w' fun e w''=>e = .returned (.int .u64 (v4:Nat))∧Below w'.heap.size w' w'')
  (A6:∀ w',Below w.heap.size w w'→Calls Tryz.prog 260 #[.int .u64 4607182418800017408,.int .u64 (v4:Nat)] w' fun e w''=>e = .returned (.int .u64 (v5:Nat))∧Below w'.heap.size w' w'')
  (A7:∀ w',Below w.heap.size w w'→Calls Tryz.prog 261 #[.int .u64 (v5:Nat)] w' fun e w''=>e = .returned (.int .u64 (v6:Nat))∧Below w'.heap.size w' w'')
  (A8:∀ w',Below w.heap.size w w'→Calls Tryz.prog 260 #[.int .u64 (v3:Nat),.int .u64 (v6:Nat)] w' fun e w''=>e = .returned (.int .u64 (v7:Nat))∧Below w'.heap.size w' w'')
  (A9:∀ w',Below w.heap.size w w'→Calls Tryz.prog 176 #[.int .u64 4607182418800017408,.int .u64 (v7:Nat)] w' fun e w''=>e = .returned (.int .u64 (u0:Nat))∧Below w'.heap.size w' w'')
  (AA:∀ w',Below w.heap.size w w'→Calls Tryz.prog 187 #[.int .u64 (z:Nat)] w' fun e w''=>e = .returned (.bool true)∧Below w'.heap.size w' w'')
  (AB:∀ w',Calls Tryz.prog 188 #[.int .u64 (u0:Nat)] w' fun e w''=>e = .returned (.int .u64 (t:Nat))∧w' = w'')
  (AC:∀ w',Below w.heap.size w w'→Calls Tryz.prog 175 #[.int .u64 (t:Nat),.int .u64 (t:Nat)] w' fun e w''=>e = .returned (.int .u64 (v8:Nat))∧Below w'.heap.size w' w'')
  (AD:∀ w',Below w.heap.size w w'→Calls Tryz.prog 260 #[.int .u64 4607182418800017408,.int .u64 (v8:Nat)] w' fun e w''=>e = .returned (.int .u64 (v9:Nat))∧Below w'.heap.size w' w'')
  (AE:∀ w',Below w.heap.size w w'→Calls Tryz.prog 261 #[.int .u64 (v9:Nat)] w' fun e w''=>e = .returned (.int .u64 (v10:Nat))∧Below w'.heap.size w' w'')
  (AF:∀ w',Below w.heap.size w w'→Calls Tryz.prog 176 #[.int .u64 4607182418800017408,.int .u64 (v10:Nat)] w' fun e w''=>e = .returned (.int .u64 (C:Nat))∧Below w'.heap.size w' w'')
  (AG:∀ w',Below w.heap.size w w'→Calls Tryz.prog 175 #[.int .u64 (C:Nat),.int .u64 (t:Nat)] w' fun e w''=>e = .returned (.int .u64 (s:Nat))∧Below w'.heap.size w' w'') :
  Calls Tryz.prog 241 #[.slice ao n c,.slice bo n d,.int .u64 g] w fun e w'=>e = .returned (.tuple #[.int .u64 (C:Nat),.int .u64 (s:Nat)])∧Below w.heap.size w w':=by
 have HB:=hide (Below.refl w.heap.size w)
 have KD1:=hide D1
 have KD2:=hide D2
 have KA1:=hide A1
 have KA2:=hide A2
 have KA3:=hide A3
 have KA4:=hide A4
 have KA5:=hide A5
 have KA6:=hide A6
 have KA7:=hide A7
 have KA8:=hide A8
 have KA9:=hide A9
 have KAA:=hide AA
 have KAB:=hide AB
 have KAC:=hide AC
 have KAD:=hide AD
 have KAE:=hide AE
 have KAF:=hide AF
 have KAG:=hide AG
 clear D1 D2 A1 A2 A3 A4 A5 A6 A7 A8 A9 AA AB AC AD AE AF AG
 go_enter Tryz.func241,Tryz.ntmps241
 go_wp2_with fail
 refine (uH KD1 _ (uH HB)).mono ?_
 rintro e w1 ⟨rfl,hb⟩
 replace HB:=hide ((uH HB).trans (hb.mono (uH HB).size))
 clear hb KD1
 go_wp2_with fail
 refine (uH KD2 _ (uH HB)).mono ?_
 rintro e w1 ⟨rfl,hb⟩
 replace HB:=hide ((uH HB).trans (hb.mono (uH HB).size))
 clear hb KD2
 go_wp2_with fail
 refine (uH KA1 _ (uH HB)).mono ?_
 rintro e w1 ⟨rfl,hb⟩
 replace HB:=hide ((uH HB).trans (hb.mono (uH HB).size))
 clear hb KA1
 go_wp2_with fail
 refine (uH KA2 _ (uH HB)).mono ?_
 rintro e w1 ⟨rfl,hb⟩
 replace HB:=hide ((uH HB).trans (hb.mono (uH HB).size))
 clear hb KA2
 go_wp2_with fail
 refine (uH KA3 _ (uH HB)).mono ?_
 rintro e w1 ⟨rfl,hb⟩
 replace HB:=hide ((uH HB).trans (hb.mono (uH HB).size))
 clear hb KA3
 go_wp2_with fail
 refine (uH KA4 _ (uH HB)).mono ?_
 rintro e w1 ⟨rfl,hb⟩
 replace HB:=hide ((uH HB).trans (hb.mono (uH HB).size))
 clear hb KA4
 go_wp2_with fail
 refine (uH KA5 _ (uH HB)).mono ?_
 rintro e w1 ⟨rfl,hb⟩
 replace HB:=hide ((uH HB).trans (hb.mono (uH HB).size))
 clear hb KA5
 go_wp2_with fail
 refine (uH KA6 _ (uH HB)).mono ?_
 rintro e w1 ⟨rfl,hb⟩
 replace HB:=hide ((uH HB).trans (hb.mono (uH HB).size))
 clear hb KA6
 go_wp2_with fail
 refine (uH KA7 _ (uH HB)).mono ?_
 rintro e w1 ⟨rfl,hb⟩
 replace HB:=hide ((uH HB).trans (hb.mono (uH HB).size))
 clear hb KA7
 go_wp2_with fail
 refine (uH KA8 _ (uH HB)).mono ?_
 rintro e w1 ⟨rfl,hb⟩
 replace HB:=hide ((uH HB).trans (hb.mono (uH HB).size))
 clear hb KA8
 go_wp2_with fail
 refine (uH KA9 _ (uH HB)).mono ?_
 rintro e w1 ⟨rfl,hb⟩
 replace HB:=hide ((uH HB).trans (hb.mono (uH HB).size))
 clear hb KA9
 go_wp2_with fail
 refine (uH KAA _ (uH HB)).mono ?_
 rintro e w1 ⟨rfl,hb⟩
 replace HB:=hide ((uH HB).trans (hb.mono (uH HB).size))
 clear hb KAA
 go_wp2_with fail
 refine (uH KAB _).mono ?_
 rintro e w1 ⟨rfl,rfl⟩
 clear KAB
 go_wp2_with fail
 refine (uH KAC _ (uH HB)).mono ?_
 rintro e w1 ⟨rfl,hb⟩
 replace HB:=hide ((uH HB).trans (hb.mono (uH HB).size))
 clear hb KAC
 go_wp2_with fail
 refine (uH KAD _ (uH HB)).mono ?_
 rintro e w1 ⟨rfl,hb⟩
 replace HB:=hide ((uH HB).trans (hb.mono (uH HB).size))
 clear hb KAD
 go_wp2_with fail
 refine (uH KAE _ (uH HB)).mono ?_
 rintro e w1 ⟨rfl,hb⟩
 replace HB:=hide ((uH HB).trans (hb.mono (uH HB).size))
 clear hb KAE
 go_wp2_with fail
 refine (uH KAF _ (uH HB)).mono ?_
 rintro e w1 ⟨rfl,hb⟩
 replace HB:=hide ((uH HB).trans (hb.mono (uH HB).size))
 clear hb KAF
 go_wp2_with fail
 refine (uH KAG _ (uH HB)).mono ?_
 rintro e w1 ⟨rfl,hb⟩
 replace HB:=hide ((uH HB).trans (hb.mono (uH HB).size))
 clear hb KAG
 go_wp2_with fail
 exact bodyPost_ret (v:=.tuple #[.int .u64 (C:Nat),.int .u64 (s:Nat)]) (by simp [results,Tryz.results241,go_sem]) rfl ⟨rfl,uH HB⟩
theorem add19_one (v:Nat) (w:World) (hv:v < 18446744073709551616) (ht:Tab w):Calls Tryz.prog 260 #[.int .u64 4607182418800017408,.int .u64 (v:Nat)] w fun e w'=>e = .returned (.int .u64 (aV 4607182418800017408 v:Nat))∧Below w.heap.size w w':=by
 have:=vadd_any 4607182418800017408 v w (by decide) hv ht
 rwa [show ((4607182418800017408:Nat):Int) = 4607182418800017408 from rfl] at this
theorem div19_one (v:Nat) (w:World) (hv:v < 18446744073709551616) (ht:Tab w):Calls Tryz.prog 176 #[.int .u64 4607182418800017408,.int .u64 (v:Nat)] w fun e w'=>e = .returned (.int .u64 (dV 4607182418800017408 v:Nat))∧Below w.heap.size w w':=by
 have:=pdiv_any 4607182418800017408 v w (by decide) hv ht
 rwa [show ((4607182418800017408:Nat):Int) = 4607182418800017408 from rfl] at this
theorem sdlast (w:World) (hT:Tab w):∀ t,t < 18446744073709551616→∃ v8 v9 v10,(∀ w',Below w.heap.size w w'→Calls Tryz.prog 175 #[.int .u64 (t:Nat),.int .u64 (t:Nat)] w' fun e w''=>e = .returned (.int .u64 (v8:Nat))∧Below w'.heap.size w' w'')∧(∀ w',Below w.heap.size w w'→Calls Tryz.prog 260 #[.int .u64 4607182418800017408,.int .u64 (v8:Nat)] w' fun e w''=>e = .returned (.int .u64 (v9:Nat))∧Below w'.heap.size w' w'')∧(∀ w',Below w.heap.size w w'→Calls Tryz.prog 261 #[.int .u64 (v9:Nat)] w' fun e w''=>e = .returned (.int .u64 (v10:Nat))∧Below w'.heap.size w' w'')∧(∀ w',Below w.heap.size w w'→Calls Tryz.prog 176 #[.int .u64 4607182418800017408,.int .u64 (v10:Nat)] w' fun e w''=>e = .returned (.int .u64 (sdc t:Nat))∧Below w'.heap.size w' w'')∧(∀ w',Below w.heap.size w w'→Calls Tryz.prog 175 #[.int .u64 (sdc t:Nat),.int .u64 (t:Nat)] w' fun e w''=>e = .returned (.int .u64 (sds t:Nat))∧Below w'.heap.size w' w''):=by
 intro t ht
 have o64:(4607182418800017408:Nat) < 18446744073709551616:=by decide
 have hC:sdc t = dV 4607182418800017408 (sV (aV 4607182418800017408 (mV t t))):=rfl
 have hS:sds t = mV (sdc t) t:=rfl
 have lc:=sdc_lt t
 have k1:=mV_lt t t
 refine ⟨mV t t,aV 4607182418800017408 (mV t t),sV (aV 4607182418800017408 (mV t t)),fun w' hb=>vmul_any t t w' ht ht (hT.all hb),?_,?_,?_,?_⟩
 ·generalize mV t t = v8 at *
  exact fun w' hb=>add19_one v8 w' k1 (hT.all hb)
 ·generalize mV t t = v8 at *
  have k2:=aV_lt 4607182418800017408 v8 o64 k1
  generalize aV 4607182418800017408 v8 = v9 at *
  exact fun w' hb=>psqrt_any v9 w' k2 (hT.all hb)
 ·rw [hC]
  generalize mV t t = v8 at *
  have k2:=aV_lt 4607182418800017408 v8 o64 k1
  generalize aV 4607182418800017408 v8 = v9 at *
  have k3:=sV_lt v9 k2
  generalize sV v9 = v10 at *
  exact fun w' hb=>div19_one v10 w' k3 (hT.all hb)
 ·rw [hS]
  generalize sdc t = C at *
  exact fun w' hb=>vmul_any C t w' lc ht (hT.all hb)
theorem sdturn_any (ao bo:Option Addr) (c d g:Nat) (I J:List Int) (w:World) (hI:BitsAt w ao c I) (hJ:BitsAt w bo d J) (h:I.length = J.length) (h6:I.length≤64) (hg:g < 18446744073709551616) (hT:Tab w) :
  Calls Tryz.prog 241 #[.slice ao I.length c,.slice bo I.length d,.int .u64 g] w fun e w'=>e = .returned (.tuple #[.int .u64 (sdc (sdT (sdZ (dtK I I I.length) (dtK J J I.length) g)):Nat),.int .u64 (sds (sdT (sdZ (dtK I I I.length) (dtK J J I.length) g)):Nat)])∧Below w.heap.size w w':=by
 have o64:(4607182418800017408:Nat) < 18446744073709551616:=by decide
 have D1:∀ w',Below w.heap.size w w'→Calls Tryz.prog 240 #[.slice bo I.length d,.slice bo I.length d] w' fun e w''=>e = .returned (.int .u64 (dtK J J I.length:Nat))∧Below w'.heap.size w' w'':=fun w' hb=>by
  have:=sddot_any bo bo d d J J w' (hJ.below hb) (hJ.below hb) rfl (by omega) (hT.all hb)
  rwa [← h] at this
 have D2:∀ w',Below w.heap.size w w'→Calls Tryz.prog 240 #[.slice ao I.length c,.slice ao I.length c] w' fun e w''=>e = .returned (.int .u64 (dtK I I I.length:Nat))∧Below w'.heap.size w' w'':=fun w' hb =>
  sddot_any ao ao c c I I w' (hI.below hb) (hI.below hb) rfl h6 (hT.all hb)
 have hyy:=dtK_lt J J I.length
 have hxx:=dtK_lt I I I.length
 generalize dtK J J I.length = yy at *
 generalize dtK I I I.length = xx at *
 have A1:∀ w',Below w.heap.size w w'→Calls Tryz.prog 174 #[.int .u64 (yy:Nat),.int .u64 (xx:Nat)] w' fun e w''=>e = .returned (.int .u64 (aV yy (fN xx):Nat))∧Below w'.heap.size w' w'':=fun w' hb=>psub_any yy xx w' hyy hxx (hT.all hb)
 have A2:∀ w',Below w.heap.size w w'→Calls Tryz.prog 260 #[.int .u64 (g:Nat),.int .u64 (g:Nat)] w' fun e w''=>e = .returned (.int .u64 (aV g g:Nat))∧Below w'.heap.size w' w'':=fun w' hb=>vadd_any g g w' hg hg (hT.all hb)
 have l1:=aV_lt yy (fN xx) hyy (fN_lt _ hxx)
 have l2:=aV_lt g g hg hg
 unfold sdZ
 generalize aV yy (fN xx) = v1 at *
 generalize aV g g = v2 at *
 have A3:∀ w',Below w.heap.size w w'→Calls Tryz.prog 176 #[.int .u64 (v1:Nat),.int .u64 (v2:Nat)] w' fun e w''=>e = .returned (.int .u64 (dV v1 v2:Nat))∧Below w'.heap.size w' w'':=fun w' hb=>pdiv_any v1 v2 w' l1 l2 (hT.all hb)
 have hz:=dV_lt v1 v2
 generalize dV v1 v2 = z at *
 have hu:=sdU_lt z
 have hU:sdU z = dV 4607182418800017408 (aV (fR z) (sV (aV 4607182418800017408 (mV z z)))):=rfl
 have A4:∀ w',Below w.heap.size w w'→Calls Tryz.prog 124 #[.int .u64 (z:Nat)] w' fun e w''=>e = .returned (.int .u64 (fR z:Nat))∧Below w'.heap.size w' w'':=fun w' hb=>cabs_any z w' hz
 have A5:∀ w',Below w.heap.size w w'→Calls Tryz.prog 175 #[.int .u64 (z:Nat),.int .u64 (z:Nat)] w' fun e w''=>e = .returned (.int .u64 (mV z z:Nat))∧Below w'.heap.size w' w'':=fun w' hb=>vmul_any z z w' hz hz (hT.all hb)
 have l3:fR z < 18446744073709551616:=by unfold fR;omega
 have l4:=mV_lt z z
 generalize fR z = v3 at *
 generalize mV z z = v4 at *
 have A6:∀ w',Below w.heap.size w w'→Calls Tryz.prog 260 #[.int .u64 4607182418800017408,.int .u64 (v4:Nat)] w' fun e w''=>e = .returned (.int .u64 (aV 4607182418800017408 v4:Nat))∧Below w'.heap.size w' w'':=fun w' hb=>add19_one v4 w' l4 (hT.all hb)
 have l5:=aV_lt 4607182418800017408 v4 o64 l4
 generalize aV 4607182418800017408 v4 = v5 at *
 have A7:∀ w',Below w.heap.size w w'→Calls Tryz.prog 261 #[.int .u64 (v5:Nat)] w' fun e w''=>e = .returned (.int .u64 (sV v5:Nat))∧Below w'.heap.size w' w'':=fun w' hb=>psqrt_any v5 w' l5 (hT.all hb)
 have l6:=sV_lt v5 l5
 generalize sV v5 = v6 at *
 have A8:∀ w',Below w.heap.size w w'→Calls Tryz.prog 260 #[.int .u64 (v3:Nat),.int .u64 (v6:Nat)] w' fun e w''=>e = .returned (.int .u64 (aV v3 v6:Nat))∧Below w'.heap.size w' w'':=fun w' hb=>vadd_any v3 v6 w' l3 l6 (hT.all hb)
 have l7:=aV_lt v3 v6 l3 l6
 generalize aV v3 v6 = v7 at *
 have A9:∀ w',Below w.heap.size w w'→Calls Tryz.prog 176 #[.int .u64 4607182418800017408,.int .u64 (v7:Nat)] w' fun e w''=>e = .returned (.int .u64 (dV 4607182418800017408 v7:Nat))∧Below w'.heap.size w' w'':=fun w' hb=>div19_one v7 w' l7 (hT.all hb)
 rw [← hU] at A9
 have AA:∀ w',Below w.heap.size w w'→Calls Tryz.prog 187 #[.int .u64 (z:Nat)] w' fun e w''=>e = .returned (.bool (fS z))∧Below w'.heap.size w' w'':=fun w' hb=>ssign_any z w' hz
 clear hU o64 l1 l2 l3 l4 l5 l6 l7
 unfold sdT
 generalize sdU z = u0 at *
 cases hs:fS z with
 | false =>
  rw [hs] at AA
  simp only [Bool.false_eq_true,if_false]
  obtain ⟨v8,v9,v10,B1,B2,B3,B4,B5⟩:=sdlast w hT u0 hu
  exact sdturn_pos ao bo I.length c d g yy xx v1 v2 z v3 v4 v5 v6 v7 u0 v8 v9 v10 (sdc u0) (sds u0) w D1 D2 A1 A2 A3 A4 A5 A6 A7 A8 A9 AA B1 B2 B3 B4 B5
 | true =>
  rw [hs] at AA
  simp only [if_true]
  obtain ⟨v8,v9,v10,B1,B2,B3,B4,B5⟩:=sdlast w hT (fN u0) (fN_lt _ hu)
  exact sdturn_neg ao bo I.length c d g yy xx v1 v2 z v3 v4 v5 v6 v7 u0 (fN u0) v8 v9 v10 (sdc (fN u0)) (sds (fN u0)) w D1 D2 A1 A2 A3 A4 A5 A6 A7 A8 A9 AA (fun w'=>sminus_any u0 w' hu) B1 B2 B3 B4 B5
end Go.Proofs.YtdhmglmccafbnaaGreatDoor
namespace Go.Proofs.YtdhmglmccafbnaaGreatDoor
open Go.RowKit
attribute [local go_sem ↓] Go.wp_at_zero Go.wp_at_succ
theorem BoxM.three {w:World} {b g:Nat} {x y z:Value} (h:BoxM w b x y z) (hg:b ≠ g) (u u' u'':Value):BoxM (((w.setCell ⟨g,0,none⟩ u).setCell ⟨g,1,none⟩ u').setCell ⟨g,2,none⟩ u'') b x y z :=
 ((h.other (p:=⟨g,0,none⟩) hg u).other (p:=⟨g,1,none⟩) hg u').other (p:=⟨g,2,none⟩) hg u''
end Go.Proofs.YtdhmglmccafbnaaGreatDoor
namespace Go.Proofs.YtdhmglmccafbnaaGreatDoor
open Go.RowKit
attribute [local go_sem ↓] Go.wp_at_zero Go.wp_at_succ
theorem region_cut {P:Program} {c:Code} {Q:Exit→Act→World→Prop} {a:Act} {w:World} {T:Type} (f:Act→T→Act) (J:T→World→Prop) (h:Code.wp P c (Exit.then (fun a' w'=>∃ t:T,a' = f a t∧J t w') (fun _ _ _=>False)) a w) (k:∀ t w',J t w'→Q .normal (f a t) w'):Code.wp P c Q a w :=
 Code.wp_mono (fun e a' w' h=>by
  cases e <;> first
   | (obtain ⟨t,ha,hj⟩:=h; rw [ha]; exact k t w' hj)
   | exact h.elim) h
end Go.Proofs.YtdhmglmccafbnaaGreatDoor
namespace Go.Proofs.YtdhmglmccafbnaaGreatDoor
open Go.RowKit
attribute [local go_sem ↓] Go.wp_at_zero Go.wp_at_succ
structure RdSt (w wr:World) (r c N M:Nat) (s:Sd) (wo vo:Option Addr) (wc vc:Nat):Prop where
 bel:Below w.heap.size w wr
 bw:BoxM wr w.heap.size (.int .i64 r) (.int .i64 c) (.slice wo N wc)
 bv:BoxM wr (w.heap.size+1) (.int .i64 c) (.int .i64 c) (.slice vo M vc)
 b6:BoxM wr (w.heap.size+1+1) (.int .i64 0) (.int .i64 0) (.slice none 0 0)
 b7:BoxM wr (w.heap.size+1+1+1) (.int .i64 0) (.int .i64 0) (.slice none 0 0)
 mw:Mx wr wo wc r c s.W
 mv:Mx wr vo vc c c s.V
 hN:s.W.length = N
 hM:s.V.length = M
theorem RdSt.all {w wr w':World} {r c N M:Nat} {s:Sd} {wo vo:Option Addr} {wc vc:Nat} (h:RdSt w wr r c N M s wo vo wc vc) (hb:Below wr.heap.size wr w'):RdSt w w' r c N M s wo vo wc vc :=
 ⟨h.bel.trans (hb.mono h.bel.size),h.bw.all hb,h.bv.all hb,h.b6.all hb,h.b7.all hb,h.mw.below hb,h.mv.below hb,h.hN,h.hM⟩
theorem RdSt.start {w:World} {r c N M:Nat} {s:Sd} {wo vo:Option Addr} {wc vc:Nat} (mw:Mx w wo wc r c s.W) (mv:Mx w vo vc c c s.V) (hN:s.W.length = N) (hM:s.V.length = M) :
  RdSt w ((((w.alloc (.cells #[.int .i64 r,.int .i64 c,.slice wo N wc] 25)).alloc (.cells #[.int .i64 c,.int .i64 c,.slice vo M vc] 25)).alloc (.cells #[.int .i64 0,.int .i64 0,.slice none 0 0] 25)).alloc (.cells #[.int .i64 0,.int .i64 0,.slice none 0 0] 25)) r c N M s wo vo wc vc:=by
 have b0:=below_alloc9 w (.cells #[.int .i64 r,.int .i64 c,.slice wo N wc] 25)
 have s0:=size_alloc9 w (.cells #[.int .i64 r,.int .i64 c,.slice wo N wc] 25)
 have x0:=BoxM.new w (.int .i64 r) (.int .i64 c) (.slice wo N wc)
 generalize w.alloc (.cells #[.int .i64 r,.int .i64 c,.slice wo N wc] 25) = wa at *
 have b1:=below_alloc9 wa (.cells #[.int .i64 c,.int .i64 c,.slice vo M vc] 25)
 have s1:=size_alloc9 wa (.cells #[.int .i64 c,.int .i64 c,.slice vo M vc] 25)
 have x1:=BoxM.new wa (.int .i64 c) (.int .i64 c) (.slice vo M vc)
 generalize wa.alloc (.cells #[.int .i64 c,.int .i64 c,.slice vo M vc] 25) = wb at *
 have b2:=below_alloc9 wb (.cells #[.int .i64 0,.int .i64 0,.slice none 0 0] 25)
 have s2:=size_alloc9 wb (.cells #[.int .i64 0,.int .i64 0,.slice none 0 0] 25)
 have x2:=BoxM.new wb (.int .i64 0) (.int .i64 0) (.slice none 0 0)
 generalize wb.alloc (.cells #[.int .i64 0,.int .i64 0,.slice none 0 0] 25) = wd at *
 have b3:=below_alloc9 wd (.cells #[.int .i64 0,.int .i64 0,.slice none 0 0] 25)
 have x3:=BoxM.new wd (.int .i64 0) (.int .i64 0) (.slice none 0 0)
 generalize wd.alloc (.cells #[.int .i64 0,.int .i64 0,.slice none 0 0] 25) = we at *
 rw [s2,s1,s0] at x3
 rw [s1,s0] at x2
 rw [s0] at x1
 have q:=b0.trans (b1.mono b0.size)
 have q2:=q.trans (b2.mono q.size)
 have q3:=q2.trans (b3.mono q2.size)
 exact ⟨q3,((x0.all b1).all b2).all b3,(x1.all b2).all b3,x2.all b3,x3,mw.below q3,mv.below q3,hN,hM⟩
theorem Mx.putM {w:World} {ao:Option Addr} {cap r c:Nat} {S:List Nat} (h:Mx w ao cap r c S) {g:Nat} {x y:Int} {a:Option Addr} {n d:Nat} (hx:BoxM w g (.int .i64 x) (.int .i64 y) (.slice a n d)) (u u' u'':Value):Mx (((w.setCell ⟨g,0,none⟩ u).setCell ⟨g,1,none⟩ u').setCell ⟨g,2,none⟩ u'') ao cap r c S:=⟨BitsAt.putM h.1 hx u u' u'',h.2⟩
theorem RdSt.putW {w wr:World} {r c N M:Nat} {s:Sd} {wo vo wo':Option Addr} {wc vc wc':Nat} (h:RdSt w wr r c N M s wo vo wc vc) {W:List Nat} (hW:Mx wr wo' wc' r c W) (hN:W.length = N) (b:Bool) :
  RdSt w (((wr.setCell ⟨w.heap.size,0,none⟩ (.int .i64 r)).setCell ⟨w.heap.size,1,none⟩ (.int .i64 c)).setCell ⟨w.heap.size,2,none⟩ (.slice wo' N wc')) r c N M ⟨W,s.V,b⟩ wo' vo wc' vc :=
 ⟨below_putM (b:=w.heap.size) h.bel (Nat.le_refl _) _ _ _,h.bw.put _ _ _,h.bv.three (by omega) _ _ _,h.b6.three (by omega) _ _ _,h.b7.three (by omega) _ _ _,hW.putM h.bw _ _ _,h.mv.putM h.bw _ _ _,hN,h.hM⟩
theorem RdSt.putV {w wr:World} {r c N M:Nat} {s:Sd} {wo vo vo':Option Addr} {wc vc vc':Nat} (h:RdSt w wr r c N M s wo vo wc vc) {V:List Nat} (hV:Mx wr vo' vc' c c V) (hM:V.length = M) (b:Bool) :
  RdSt w (((wr.setCell ⟨w.heap.size+1,0,none⟩ (.int .i64 c)).setCell ⟨w.heap.size+1,1,none⟩ (.int .i64 c)).setCell ⟨w.heap.size+1,2,none⟩ (.slice vo' M vc')) r c N M ⟨s.W,V,b⟩ wo vo' wc vc' :=
 ⟨below_putM (b:=w.heap.size+1) h.bel (Nat.le_succ _) _ _ _,h.bw.three (by omega) _ _ _,h.bv.put _ _ _,h.b6.three (by omega) _ _ _,h.b7.three (by omega) _ _ _,h.mw.putM h.bv _ _ _,hV.putM h.bv _ _ _,h.hN,hM⟩
def RdAns (w':World) (r c N M:Nat) (s:Sd) (e:Ending):Prop :=
 ∃ wo wc vo vc,e = .returned (.tuple #[.agg #[.int .i64 r,.int .i64 c,.slice wo N wc],.agg #[.int .i64 c,.int .i64 c,.slice vo M vc],.bool s.still])∧Mx w' wo wc r c s.W∧Mx w' vo vc c c s.V∧s.W.length = N∧s.V.length = M
theorem sdnorm_col (r c k d:Nat) (bo:Option Addr) (S:List Nat) (w:World) (h:BitsAt w bo d (mxL (sdC r c S k))) (h6:r≤6) (hT:Tab w) :
  Calls Tryz.prog 209 #[.slice bo r d] w fun e w'=>e = .returned (.int .u64 (sdN r c S k:Nat))∧Below w.heap.size w w':=by
 have:=sdnorm_any bo d (mxL (sdC r c S k)) w h (by rw [mxL_len,sdC_len];omega) hT
 rwa [mxL_len,sdC_len] at this
theorem sddot_col (r c p q d d2:Nat) (bo bo2:Option Addr) (S:List Nat) (w:World) (h:BitsAt w bo d (mxL (sdC r c S p))) (h2:BitsAt w bo2 d2 (mxL (sdC r c S q))) (h6:r≤6) (hT:Tab w) :
  Calls Tryz.prog 240 #[.slice bo r d,.slice bo2 r d2] w fun e w'=>e = .returned (.int .u64 (sdG r c S p q:Nat))∧Below w.heap.size w w':=by
 have:=sddot_any bo bo2 d d2 (mxL (sdC r c S p)) (mxL (sdC r c S q)) w h h2 (by rw [mxL_len,sdC_len,mxL_len,sdC_len]) (by rw [mxL_len,sdC_len];omega) hT
 rwa [mxL_len,sdC_len,mxL_len,sdC_len] at this
theorem sdturn_col (r c p q d d2:Nat) (bo bo2:Option Addr) (S:List Nat) (w:World) (h:BitsAt w bo d (mxL (sdC r c S p))) (h2:BitsAt w bo2 d2 (mxL (sdC r c S q))) (h6:r≤6) (hT:Tab w) :
  Calls Tryz.prog 241 #[.slice bo r d,.slice bo2 r d2,.int .u64 (sdG r c S p q:Nat)] w fun e w'=>e = .returned (.tuple #[.int .u64 (sdc (sdTT r c S p q):Nat),.int .u64 (sds (sdTT r c S p q):Nat)])∧Below w.heap.size w w':=by
 have:=sdturn_any bo bo2 d d2 (sdG r c S p q) (mxL (sdC r c S p)) (mxL (sdC r c S q)) w h h2 (by rw [mxL_len,sdC_len,mxL_len,sdC_len]) (by rw [mxL_len,sdC_len];omega) (sdG_lt _ _ _ _ _) hT
 rwa [mxL_len,sdC_len] at this
theorem sdB_low {r c low:Nat} {S:List Nat} {p:Nat} (h:ltB low (sdN r c S p) = false) (q:Nat):sdB r c low S p q = true:=by unfold sdB;rw [h];rfl
theorem sdP_be {r c low p q:Nat} {s:Sd} (h:sdB r c low s.W p q = true):sdP r c low p q s = s:=by unfold sdP;rw [if_pos h]
theorem sdI_skip {r c low p:Nat} {s:Sd} {t:Nat} (h:ltB low (sdN r c (sdI r c low p s t).W p) = false):∀ k,sdI r c low p s (t+k) = sdI r c low p s t
 | 0=>rfl
 | k+1=>by
  have e:sdI r c low p s (t+(k+1)) = sdP r c low p (p+1+(t+k)) (sdI r c low p s (t+k)):=rfl
  rw [e,sdI_skip h k]
  exact sdP_be (sdB_low h _)
theorem sdround_of (r c N M low wc0 vc0:Nat) (wo0 vo0:Option Addr) (W0 V0:List Nat) (w:World) (mw:Mx w wo0 wc0 r c W0) (mv:Mx w vo0 vc0 c c V0) (hN:W0.length = N) (hM:V0.length = M) (hlow:low < 18446744073709551616) (hT:Tab w) :
  Calls Tryz.prog 210 #[.agg #[.int .i64 r,.int .i64 c,.slice wo0 N wc0],.agg #[.int .i64 c,.int .i64 c,.slice vo0 M vc0],.int .u64 low] w fun e w'=>RdAns w' r c N M (sdO r c low ⟨W0,V0,true⟩ c) e∧Below w.heap.size w w':=by
 have ST:=hide (RdSt.start (s:=⟨W0,V0,true⟩) mw mv hN hM)
 have HT:=hide hT
 have hc6:c≤6:=mw.2.2.2
 have hr6:r≤6:=mw.2.2.1
 have RN:=hide (show r * c = N∧c * c = M from ⟨mw.2.1.symm.trans hN,mv.2.1.symm.trans hM⟩)
 have OI:=hide (fun p (h:p < c)=>(show sdO r c low ⟨W0,V0,true⟩ (p+1) = sdI r c low p (sdO r c low ⟨W0,V0,true⟩ p) (c - 1 - p) from rfl))
 generalize hS0:(⟨W0,V0,true⟩:Sd) = s0 at *
 have e0:s0.still = true:=by rw [← hS0]
 clear mw mv hN hM hT
 go_enter Tryz.func210,Tryz.ntmps210
 have y1:=(uH ST).bw.c1
 go_wp2_with fail
 go_step3
 go_wp2_with fail
 go_step3
 go_wp2_with fail
 clear y1
 go_loopg [9,21] c (fun g b a wr=>∃ (p:Nat) (wo vo:Option Addr) (wc vc:Nat),p+g = c∧a = .int .i64 p∧b = .bool (sdO r c low s0 p).still∧Hid (RdSt w wr r c N M (sdO r c low s0 p) wo vo wc vc))
 case atStart=>exact ⟨0,wo0,vo0,wc0,vc0,Nat.zero_add _,rfl,by show Value.bool true = .bool s0.still;rw [e0],ST⟩
 case round =>
  clear ST
  obtain ⟨p,wo,vo,wc,vc,hp,rfl,rfl,ST⟩:=hrel
  cases gk with
  | succ gh =>
   have hpc:p < c:=by omega
   have hpI:(p:Int) < (c:Int):=by omega
   obtain ⟨p1,hp1⟩:∃ p1,p1 = p+1:=⟨_,rfl⟩
   have e1:IntKind.i64.wrap ((p:Int)+1) = (p1:Int):=(wrap_in _ (by omega)).trans (by omega)
   have e2:(p:Int)+1 = (p1:Int):=by omega
   have HP1:=hide hp1
   clear hp1
   have OE:=hide (uH OI p hpc)
   have PO:=hide (show ∀ P:Sd→Prop,P (sdI r c low p (sdO r c low s0 p) (c - 1 - p))→P (sdO r c low s0 (p+1)) from fun P h=>by rw [uH OE];exact h)
   generalize hsp:sdO r c low s0 p = sp at *
   clear hsp OE
   go_wp2_with fail
   go_loopg [9,11] (c - 1 - p) (fun g2 b a wr=>∃ (t:Nat) (wo vo:Option Addr) (wc vc:Nat),t+g2 = c - 1 - p∧a = .int .i64 ((p1+t:Nat):Int)∧b = .bool (sdI r c low p sp t).still∧Hid (RdSt w wr r c N M (sdI r c low p sp t) wo vo wc vc))
   case atStart=>exact ⟨0,wo,vo,wc,vc,Nat.zero_add _,rfl,rfl,ST⟩
   case round =>
    clear ST
    obtain ⟨t,wo,vo,wc,vc,ht,rfl,rfl,ST⟩:=hrel
    obtain ⟨q,hq⟩:∃ q,p1+t = q:=⟨_,rfl⟩
    have SK:=hide (fun h k=>sdI_skip (r:=r) (c:=c) (low:=low) (p:=p) (s:=sp) (t:=t) h k)
    have SU:=hide (show sdI r c low p sp (t+1) = sdP r c low p (p+1+t) (sdI r c low p sp t) from rfl)
    rw [show p+1+t = q from by have:=uH HP1;omega] at SU
    rw [hq]
    generalize hs:sdI r c low p sp t = s at *
    have y1:=(uH ST).bw.c1
    cases gk with
    | succ g2 =>
     have hqc:q < c:=by have:=uH HP1;omega
     have hqI:(q:Int) < (c:Int):=by omega
     have hne:p ≠ q:=by have:=uH HP1;omega
     go_wp2_with fail
     clear y1
     refine at_world (fun W=>RdSt w W r c N M s wo vo wc vc) (uH ST) ?_
     clear ST
     rintro V st
     have KP:=hide (fun w' (h:Below V.heap.size V w')=>sdcol_any r c wc p wo s.W w' (st.mw.below h) hpc)
     have KQ:=hide (fun w' (h:Below V.heap.size V w')=>sdcol_any r c wc q wo s.W w' (st.mw.below h) hqc)
     rw [st.hN] at KP KQ
     have HK:=hide (fun w' (h:Below V.heap.size V w')=>(show Below V.heap.size V w'∧(w'.cell? ⟨w.heap.size,0,none⟩ = some (.int .i64 (r:Nat))∧w'.cell? ⟨w.heap.size,1,none⟩ = some (.int .i64 (c:Nat))∧w'.cell? ⟨w.heap.size,2,none⟩ = some (.slice wo N wc)) from ⟨h,(st.bw.all h).c0,(st.bw.all h).c1,(st.bw.all h).c2⟩))
     have ST:=hide st
     clear st
     go_region_held3 (fun w'=>Below V.heap.size V w'∧(w'.cell? ⟨w.heap.size,0,none⟩ = some (.int .i64 (r:Nat))∧w'.cell? ⟨w.heap.size,1,none⟩ = some (.int .i64 (c:Nat))∧w'.cell? ⟨w.heap.size,2,none⟩ = some (.slice wo N wc)))
      (first | exact uH HK _ (Below.refl _ _).drew | exact uH HK _ (by assumption) | fail "KK")
      (first | (go_at_call 213;with_reducible refine Calls.mono (uH KP _ (And.left (by assumption))) ?_;rintro e w6 ⟨bo1,d1,rfl,_,hq1,hb5⟩;have HQ1:=hide hq1;have hB5:Below V.heap.size V w6:=Below.trans (And.left (by assumption)) (hb5.mono (Below.size (And.left (by assumption))));clear hb5 hq1 KP) | (go_at_call 213;with_reducible refine Calls.mono (uH KQ _ (And.left (by assumption))) ?_;rintro e w7 ⟨bo2,d2,rfl,_,hq2,hb5⟩;have HQ2:=hide hq2;replace HQ1:=hide ((uH HQ1).below hb5);have hB5:Below V.heap.size V w7:=Below.trans (And.left (by assumption)) (hb5.mono (Below.size (And.left (by assumption))));clear hb5 hq2 KQ) | fail "NO ARM")
     all_goals
      have BB:=And.left (by assumption:Below V.heap.size V _∧_)
      replace ST:=hide ((uH ST).all BB)
      clear BB HK
      first
       | refine at_then (fun W=>RdSt w W r c N M s wo vo wc vc∧BitsAt W bo1 d1 (mxL (sdC r c s.W p))∧BitsAt W bo2 d2 (mxL (sdC r c s.W q))) ⟨uH ST,uH HQ1,uH HQ2⟩ ?_
       | refine at_world (fun W=>RdSt w W r c N M s wo vo wc vc∧BitsAt W bo1 d1 (mxL (sdC r c s.W p))∧BitsAt W bo2 d2 (mxL (sdC r c s.W q))) ⟨uH ST,uH HQ1,uH HQ2⟩ ?_
      clear ST HQ1 HQ2
      rintro U ⟨st,q1,q2⟩
      have ST:=hide st;have HQ1:=hide q1;have HQ2:=hide q2
      clear st q1 q2
      go_wp2_with fail
      have K:=hide (sdnorm_col r c p d1 bo1 s.W _ (uH HQ1) hr6 ((uH HT).all (uH ST).bel))
      refine Calls.mono (uH K) ?_
      rintro e w3 ⟨rfl,hb⟩
      replace ST:=hide ((uH ST).all hb);replace HQ1:=hide ((uH HQ1).below hb);replace HQ2:=hide ((uH HQ2).below hb)
      clear hb K
      go_wp2_with fail
      have K:=hide (sdnorm_col r c q d2 bo2 s.W _ (uH HQ2) hr6 ((uH HT).all (uH ST).bel))
      refine Calls.mono (uH K) ?_
      rintro e w3 ⟨rfl,hb⟩
      replace ST:=hide ((uH ST).all hb);replace HQ1:=hide ((uH HQ1).below hb);replace HQ2:=hide ((uH HQ2).below hb)
      clear hb K
      go_wp2_with fail
      have K:=hide (sddot_col r c p q d1 d2 bo1 bo2 s.W _ (uH HQ1) (uH HQ2) hr6 ((uH HT).all (uH ST).bel))
      refine Calls.mono (uH K) ?_
      rintro e w3 ⟨rfl,hb⟩
      replace ST:=hide ((uH ST).all hb);replace HQ1:=hide ((uH HQ1).below hb);replace HQ2:=hide ((uH HQ2).below hb)
      clear hb K
      have TT:=hide (fun W (q1:BitsAt W bo1 d1 (mxL (sdC r c s.W p))) (q2:BitsAt W bo2 d2 (mxL (sdC r c s.W q))) (hT:Tab W)=>sdturn_col r c p q d1 d2 bo1 bo2 s.W W q1 q2 hr6 hT)
      have SB:=hide (show sdB r c low s.W p q = (!(ltB low (sdN r c s.W p)) || (!(ltB low (sdN r c s.W q)) || !(ltB (xV (mV (sdN r c s.W p) (sdN r c s.W q)) (-44)) (fR (sdG r c s.W p q))))) from rfl)
      have lx:=sdN_lt r c s.W p;have ly:=sdN_lt r c s.W q;have lg:=sdG_lt r c s.W p q
      generalize sdN r c s.W p = x at *
      generalize sdN r c s.W q = y at *
      generalize sdG r c s.W p q = g at *
      have K1:=hide (fun w'=>less19_any low x w' hlow lx)
      have K2:=hide (fun w'=>less19_any low y w' hlow ly)
      have K3:=hide (fun w' (hT:Tab w')=>vmul_any x y w' lx ly hT)
      have K4:=hide (fun w' (hT:Tab w')=>vscale_any (mV x y) (-44) w' (mV_lt _ _) hT)
      have K5:=hide (fun w'=>cabs_any g w' lg)
      have K6:=hide (fun w'=>less19_any (xV (mV x y) (-44)) (fR g) w' (xV_lt _ _ (mV_lt _ _)) (show fR _ < 18446744073709551616 by unfold fR;omega))
      clear lx ly
      go_wp2_with fail
      refine (uH K1 _).mono ?_
      rintro e w3 ⟨rfl,hb⟩
      replace ST:=hide ((uH ST).all hb);replace HQ1:=hide ((uH HQ1).below hb);replace HQ2:=hide ((uH HQ2).below hb)
      clear hb K1
      cases h1:ltB low x
      ·clear HQ1 HQ2 TT SB K2 K3 K4 K5 K6
       have EE:=hide (uH SK h1 (c - 1 - p - t))
       rw [show t+(c - 1 - p - t) = c - 1 - p by omega] at EE
       go_wp2_with fail
       go_roundg gh
       case measure=>omega
       case rel=>exact ⟨p+1,wo,vo,wc,vc,by omega,by go_num,by refine uH PO (fun x=>Value.bool s.still = .bool x.still) ?_;rw [uH EE],hide (by refine uH PO (fun x=>RdSt w _ r c N M x wo vo wc vc) ?_;rw [uH EE];exact uH ST)⟩
      ·clear SK
       go_wp2_with fail
       refine (uH K2 _).mono ?_
       rintro e w3 ⟨rfl,hb⟩
       replace ST:=hide ((uH ST).all hb);replace HQ1:=hide ((uH HQ1).below hb);replace HQ2:=hide ((uH HQ2).below hb)
       clear hb K2
       cases h2:ltB low y
       ·clear HQ1 HQ2 TT K3 K4 K5 K6
        have hs1:sdP r c low p q s = s:=sdP_be (by rw [uH SB,h1,h2];rfl)
        rw [hs1] at SU
        go_wp2_with fail
        go_roundg g2
        case measure=>omega
        case rel=>exact ⟨t+1,wo,vo,wc,vc,by omega,by go_num,by rw [uH SU],hide (by rw [uH SU];exact uH ST)⟩
       ·go_wp2_with fail
        refine (uH K3 _ ((uH HT).all (uH ST).bel)).mono ?_
        rintro e w3 ⟨rfl,hb⟩
        replace ST:=hide ((uH ST).all hb);replace HQ1:=hide ((uH HQ1).below hb);replace HQ2:=hide ((uH HQ2).below hb)
        clear hb K3
        go_wp2_with fail
        refine (uH K4 _ ((uH HT).all (uH ST).bel)).mono ?_
        rintro e w3 ⟨rfl,hb⟩
        replace ST:=hide ((uH ST).all hb);replace HQ1:=hide ((uH HQ1).below hb);replace HQ2:=hide ((uH HQ2).below hb)
        clear hb K4
        go_wp2_with fail
        refine (uH K5 _).mono ?_
        rintro e w3 ⟨rfl,hb⟩
        replace ST:=hide ((uH ST).all hb);replace HQ1:=hide ((uH HQ1).below hb);replace HQ2:=hide ((uH HQ2).below hb)
        clear hb K5
        go_wp2_with fail
        refine (uH K6 _).mono ?_
        rintro e w3 ⟨rfl,hb⟩
        replace ST:=hide ((uH ST).all hb);replace HQ1:=hide ((uH HQ1).below hb);replace HQ2:=hide ((uH HQ2).below hb)
        clear hb K6
        cases h3:ltB (xV (mV x y) (-44)) (fR g)
        ·clear HQ1 HQ2 TT
         have hs1:sdP r c low p q s = s:=sdP_be (by rw [uH SB,h1,h2,h3];rfl)
         rw [hs1] at SU
         go_wp2_with fail
         go_roundg g2
         case measure=>omega
         case rel=>exact ⟨t+1,wo,vo,wc,vc,by omega,by go_num,by rw [uH SU],hide (by rw [uH SU];exact uH ST)⟩
        ·have hs1:sdP r c low p q s = sdX r c p q s:=by
          unfold sdP
          rw [if_neg (by rw [uH SB,h1,h2,h3];decide)]
         rw [hs1] at SU
         go_wp2_with fail
         refine (uH TT _ (uH HQ1) (uH HQ2) ((uH HT).all (uH ST).bel)).mono ?_
         rintro e w3 ⟨rfl,hb⟩
         replace ST:=hide ((uH ST).all hb)
         clear hb TT HQ1 HQ2 SB h1 h2 h3
         unfold sdX at SU
         have lC:=sdc_lt (sdTT r c s.W p q);have lS:=sds_lt (sdTT r c s.W p q)
         generalize sdc (sdTT r c s.W p q) = C at *
         generalize sds (sdTT r c s.W p q) = S at *
         have KM:=hide (fun w'=>sminus_any S w' lS)
         have lM:=fN_lt S lS
         generalize fN S = S' at *
         go_wp2_with fail
         refine at_world (fun W=>RdSt w W r c N M s wo vo wc vc) (uH ST) ?_
         clear ST
         rintro V2 st
         have st:=st.all (Below.refl V2.heap.size V2).drew
         have KC:=hide (fun w' (hb:Below V2.drew.heap.size V2.drew w')=>gCols_ok r c wc p q C S' wo s.W w' (st.mw.below hb) hpc hqc hne lC lM ((uH HT).all (st.bel.trans (hb.mono st.bel.size))))
         rw [st.hN] at KC
         have ST:=hide st
         clear st
         refine region_cut (T:=Option Addr × Nat) (fun a t=>((((((((((a.put (some 71) (.agg #[.int .i64 (r:Nat),.int .i64 (c:Nat),.slice wo N wc])).put (some 72) (.int .i64 (p:Nat))).put (some 73) (.int .i64 (q:Nat))).put (some 74) (.int .u64 (C:Nat))).put (some 75) (.int .u64 (S:Nat))).put (some 76) (.int .u64 (S':Nat))).put (some 77) (.tuple #[.agg #[.int .i64 (r:Nat),.int .i64 (c:Nat),.slice t.1 N t.2],.int .i64 0])).put (some 70) (.tuple #[.agg #[.int .i64 (r:Nat),.int .i64 (c:Nat),.slice t.1 N t.2],.int .i64 0])).put (some 78) (.agg #[.int .i64 (r:Nat),.int .i64 (c:Nat),.slice t.1 N t.2])).put (some 79) (.int .i64 0))) (fun t w'=>RdSt w w' r c N M ⟨coM r c s.W p q C S',s.V,false⟩ t.1 vo t.2 vc) ?_ ?_
         ·have y0:=(uH ST).bw.c0;have y1:=(uH ST).bw.c1;have y2:=(uH ST).bw.c2
          refine wp_region_held_drew (S:=fun w'=>True) (by kernel_rfl) ?_ (fun hHeld=>?_)
          ·exact trivial
          refine wpAnyH_take (i:=1) (oi:={ dst:=some 72,op:=Op.move (Operand.tmp 10),type:=3,pos := "turns.go:44",after:=#[],guard:=none }) (v:=.int .i64 (p:Nat)) rfl (by kernel_rfl) (by kernel_rfl) (by kernel_rfl) (fun _ _ _ h=>h) (Or.inl ⟨by rfl,?_⟩) (by assumption) ?_
          ·(intro w hSw;(try dsimp only at hSw);go_simp)
          simp only [Act.put,List.setIfInBounds_toArray,List.set_cons_zero,List.set_cons_succ]
          refine wpAnyH_take (i:=2) (oi:={ dst:=some 73,op:=Op.move (Operand.tmp 11),type:=3,pos := "turns.go:44",after:=#[],guard:=none }) (v:=.int .i64 (q:Nat)) rfl (by kernel_rfl) (by kernel_rfl) (by kernel_rfl) (fun _ _ _ h=>h) (Or.inl ⟨by rfl,?_⟩) (by assumption) ?_
          ·(intro w hSw;(try dsimp only at hSw);go_simp)
          simp only [Act.put,List.setIfInBounds_toArray,List.set_cons_zero,List.set_cons_succ]
          refine wpAnyH_take (i:=3) (oi:={ dst:=some 74,op:=Op.move (Operand.tmp 17),type:=28,pos := "turns.go:44",after:=#[],guard:=none }) (v:=.int .u64 (C:Nat)) rfl (by kernel_rfl) (by kernel_rfl) (by kernel_rfl) (fun _ _ _ h=>h) (Or.inl ⟨by rfl,?_⟩) (by assumption) ?_
          ·(intro w hSw;(try dsimp only at hSw);go_simp)
          simp only [Act.put,List.setIfInBounds_toArray,List.set_cons_zero,List.set_cons_succ]
          refine wpAnyH_take (i:=4) (oi:={ dst:=some 75,op:=Op.move (Operand.tmp 18),type:=28,pos := "turns.go:44",after:=#[],guard:=none }) (v:=.int .u64 (S:Nat)) rfl (by kernel_rfl) (by kernel_rfl) (by kernel_rfl) (fun _ _ _ h=>h) (Or.inl ⟨by rfl,?_⟩) (by assumption) ?_
          ·(intro w hSw;(try dsimp only at hSw);go_simp)
          simp only [Act.put,List.setIfInBounds_toArray,List.set_cons_zero,List.set_cons_succ]
          refine wpAnyH_ready (rs:=[0,5]) (by kernel_rfl) (by simp) ?_
          refine AllReadyH.cons (o:={ dst:=some 71,op:=Op.load 25 (Operand.tmp 3),type:=25,pos := "turns.go:44",after:=#[],guard:=none }) rfl (fun K hK=>?_) (AllReadyH.cons (o:={ dst:=some 76,op:=Op.call { callee:=Callee.value (Operand.func 188),args:=#[Operand.tmp 75],argTypes:=#[28] },type:=28,pos := "turns.go:44",after:=#[{ on:=4,ground:=Ground.data }],guard:=none }) rfl (fun K hK=>?_) AllReadyH.nil)
          ·go_simp
           refine hK.out _ _ ?_ (fun hHeld=>?_)
           ·exact trivial
           clear hK K
           refine wpAnyH_ready (rs:=[5]) (by kernel_rfl) (by simp) ?_
           refine AllReadyH.cons (o:={ dst:=some 76,op:=Op.call { callee:=Callee.value (Operand.func 188),args:=#[Operand.tmp 75],argTypes:=#[28] },type:=28,pos := "turns.go:44",after:=#[{ on:=4,ground:=Ground.data }],guard:=none }) rfl (fun K hK=>?_) AllReadyH.nil
           go_simp
           refine (uH KM _).mono ?_
           rintro e w5 ⟨rfl,rfl⟩
           go_wp2_with fail
           refine hK.out _ _ ?_ (fun hHeld=>?_)
           ·exact trivial
           clear hK K
           refine wpAnyH_ready (rs:=[6]) (by kernel_rfl) (by simp) ?_
           refine AllReadyH.cons (o:={ dst:=some 77,op:=Op.call { callee:=Callee.value (Operand.func 200),args:=#[Operand.tmp 71,Operand.tmp 72,Operand.tmp 73,Operand.tmp 74,Operand.tmp 76],argTypes:=#[25,3,3,28,28] },type:=33,pos := "turns.go:44",after:=#[{ on:=0,ground:=Ground.data },{ on:=1,ground:=Ground.data },{ on:=2,ground:=Ground.data },{ on:=3,ground:=Ground.data },{ on:=5,ground:=Ground.data },{ on:=5,ground:=Ground.chain }],guard:=none }) rfl (fun K hK=>?_) AllReadyH.nil
           go_simp
           refine (uH KC _ (Below.refl _ _)).mono ?_
           rintro e w6 ⟨v,rfl,⟨wo2,wc2,rfl,_,hq2⟩,hb⟩
           have st:=(uH ST).all hb
           have hl2:(coM r c s.W p q C S').length = N:=(coM_len _ _ _ _ _ _ _).trans (uH RN).1
           rw [hl2]
           have z0:=st.bw.c0;have z1:=st.bw.c1;have z2:=st.bw.c2;have f0:=st.bw.free 0;have f1:=st.bw.free 1;have f2:=st.bw.free 2
           have S2:=hide (show RdSt w _ r c N M ⟨coM r c s.W p q C S',s.V,false⟩ wo2 vo wc2 vc from st.putW (⟨hq2,coM_len _ _ _ _ _ _ _,hr6,hc6⟩:Mx w6 wo2 wc2 r c (coM r c s.W p q C S')) hl2 false)
           clear st hq2 hb hl2
           go_wp2_with fail
           refine hK.out _ _ ?_ (fun hHeld=>?_)
           ·exact trivial
           clear hK K
           refine wpAnyH_take (i:=7) (oi:={ dst:=some 70,op:=Op.move (Operand.tmp 77),type:=33,pos := "turns.go:44",after:=#[{ on:=6,ground:=Ground.data }],guard:=none }) (v:=.tuple #[.agg #[.int .i64 (r:Nat),.int .i64 (c:Nat),.slice wo2 N wc2],.int .i64 0]) rfl (by kernel_rfl) (by kernel_rfl) (by kernel_rfl) (fun _ _ _ h=>h) (Or.inl ⟨by rfl,?_⟩) (by assumption) ?_
           ·(intro w hSw;(try dsimp only at hSw);go_simp)
           simp only [Act.put,List.setIfInBounds_toArray,List.set_cons_zero,List.set_cons_succ]
           refine wpAnyH_take (i:=8) (oi:={ dst:=some 78,op:=Op.extract (Operand.tmp 70) 0,type:=25,pos := "turns.go:44",after:=#[{ on:=7,ground:=Ground.data }],guard:=none }) (v:=.agg #[.int .i64 (r:Nat),.int .i64 (c:Nat),.slice wo2 N wc2]) rfl (by kernel_rfl) (by kernel_rfl) (by kernel_rfl) (fun _ _ _ h=>h) (Or.inl ⟨by rfl,?_⟩) (by assumption) ?_
           ·(intro w hSw;(try dsimp only at hSw);go_simp)
           simp only [Act.put,List.setIfInBounds_toArray,List.set_cons_zero,List.set_cons_succ]
           refine wpAnyH_take (i:=9) (oi:={ dst:=some 79,op:=Op.extract (Operand.tmp 70) 1,type:=32,pos := "turns.go:44",after:=#[{ on:=7,ground:=Ground.data },{ on:=10,ground:=Ground.gcOnly Departure.lateStores }],guard:=none }) (v:=.int .i64 0) rfl (by kernel_rfl) (by kernel_rfl) (by kernel_rfl) (fun _ _ _ h=>h) (Or.inl ⟨by rfl,?_⟩) (by assumption) ?_
           ·(intro w hSw;(try dsimp only at hSw);go_simp)
           simp only [Act.put,List.setIfInBounds_toArray,List.set_cons_zero,List.set_cons_succ]
           refine wpAnyH_ready (rs:=[10]) (by kernel_rfl) (by simp) ?_
           refine AllReadyH.cons (o:={ dst:=none,op:=Op.store 25 (Operand.tmp 3) (Operand.tmp 78),type:=0,pos := "turns.go:44",after:=#[{ on:=8,ground:=Ground.data },{ on:=6,ground:=Ground.chain },{ on:=0,ground:=Ground.phase },{ on:=1,ground:=Ground.phase },{ on:=2,ground:=Ground.phase },{ on:=3,ground:=Ground.phase },{ on:=4,ground:=Ground.phase },{ on:=5,ground:=Ground.phase },{ on:=6,ground:=Ground.phase },{ on:=7,ground:=Ground.phase },{ on:=8,ground:=Ground.phase },{ on:=9,ground:=Ground.textOnly Departure.lateStores }],guard:=none }) rfl (fun K hK=>?_) AllReadyH.nil
           go_simp
           refine hK.out _ _ ?_ (fun hHeld=>?_)
           ·exact trivial
           clear hK K
           refine wpAnyH_done (by kernel_rfl) ?_ _
           exact ⟨⟨wo2,wc2⟩,by first | rfl | simp [Act.put],uH S2⟩
          ·go_simp
           refine (uH KM _).mono ?_
           rintro e w5 ⟨rfl,rfl⟩
           go_wp2_with fail
           refine hK.out _ _ ?_ (fun hHeld=>?_)
           ·exact trivial
           clear hK K
           refine wpAnyH_ready (rs:=[0]) (by kernel_rfl) (by simp) ?_
           refine AllReadyH.cons (o:={ dst:=some 71,op:=Op.load 25 (Operand.tmp 3),type:=25,pos := "turns.go:44",after:=#[],guard:=none }) rfl (fun K hK=>?_) AllReadyH.nil
           go_simp
           refine hK.out _ _ ?_ (fun hHeld=>?_)
           ·exact trivial
           clear hK K
           refine wpAnyH_ready (rs:=[6]) (by kernel_rfl) (by simp) ?_
           refine AllReadyH.cons (o:={ dst:=some 77,op:=Op.call { callee:=Callee.value (Operand.func 200),args:=#[Operand.tmp 71,Operand.tmp 72,Operand.tmp 73,Operand.tmp 74,Operand.tmp 76],argTypes:=#[25,3,3,28,28] },type:=33,pos := "turns.go:44",after:=#[{ on:=0,ground:=Ground.data },{ on:=1,ground:=Ground.data },{ on:=2,ground:=Ground.data },{ on:=3,ground:=Ground.data },{ on:=5,ground:=Ground.data },{ on:=5,ground:=Ground.chain }],guard:=none }) rfl (fun K hK=>?_) AllReadyH.nil
           go_simp
           refine (uH KC _ (Below.refl _ _)).mono ?_
           rintro e w6 ⟨v,rfl,⟨wo2,wc2,rfl,_,hq2⟩,hb⟩
           have st:=(uH ST).all hb
           have hl2:(coM r c s.W p q C S').length = N:=(coM_len _ _ _ _ _ _ _).trans (uH RN).1
           rw [hl2]
           have z0:=st.bw.c0;have z1:=st.bw.c1;have z2:=st.bw.c2;have f0:=st.bw.free 0;have f1:=st.bw.free 1;have f2:=st.bw.free 2
           have S2:=hide (show RdSt w _ r c N M ⟨coM r c s.W p q C S',s.V,false⟩ wo2 vo wc2 vc from st.putW (⟨hq2,coM_len _ _ _ _ _ _ _,hr6,hc6⟩:Mx w6 wo2 wc2 r c (coM r c s.W p q C S')) hl2 false)
           clear st hq2 hb hl2
           go_wp2_with fail
           refine hK.out _ _ ?_ (fun hHeld=>?_)
           ·exact trivial
           clear hK K
           refine wpAnyH_take (i:=7) (oi:={ dst:=some 70,op:=Op.move (Operand.tmp 77),type:=33,pos := "turns.go:44",after:=#[{ on:=6,ground:=Ground.data }],guard:=none }) (v:=.tuple #[.agg #[.int .i64 (r:Nat),.int .i64 (c:Nat),.slice wo2 N wc2],.int .i64 0]) rfl (by kernel_rfl) (by kernel_rfl) (by kernel_rfl) (fun _ _ _ h=>h) (Or.inl ⟨by rfl,?_⟩) (by assumption) ?_
           ·(intro w hSw;(try dsimp only at hSw);go_simp)
           simp only [Act.put,List.setIfInBounds_toArray,List.set_cons_zero,List.set_cons_succ]
           refine wpAnyH_take (i:=8) (oi:={ dst:=some 78,op:=Op.extract (Operand.tmp 70) 0,type:=25,pos := "turns.go:44",after:=#[{ on:=7,ground:=Ground.data }],guard:=none }) (v:=.agg #[.int .i64 (r:Nat),.int .i64 (c:Nat),.slice wo2 N wc2]) rfl (by kernel_rfl) (by kernel_rfl) (by kernel_rfl) (fun _ _ _ h=>h) (Or.inl ⟨by rfl,?_⟩) (by assumption) ?_
           ·(intro w hSw;(try dsimp only at hSw);go_simp)
           simp only [Act.put,List.setIfInBounds_toArray,List.set_cons_zero,List.set_cons_succ]
           refine wpAnyH_take (i:=9) (oi:={ dst:=some 79,op:=Op.extract (Operand.tmp 70) 1,type:=32,pos := "turns.go:44",after:=#[{ on:=7,ground:=Ground.data },{ on:=10,ground:=Ground.gcOnly Departure.lateStores }],guard:=none }) (v:=.int .i64 0) rfl (by kernel_rfl) (by kernel_rfl) (by kernel_rfl) (fun _ _ _ h=>h) (Or.inl ⟨by rfl,?_⟩) (by assumption) ?_
           ·(intro w hSw;(try dsimp only at hSw);go_simp)
           simp only [Act.put,List.setIfInBounds_toArray,List.set_cons_zero,List.set_cons_succ]
           refine wpAnyH_ready (rs:=[10]) (by kernel_rfl) (by simp) ?_
           refine AllReadyH.cons (o:={ dst:=none,op:=Op.store 25 (Operand.tmp 3) (Operand.tmp 78),type:=0,pos := "turns.go:44",after:=#[{ on:=8,ground:=Ground.data },{ on:=6,ground:=Ground.chain },{ on:=0,ground:=Ground.phase },{ on:=1,ground:=Ground.phase },{ on:=2,ground:=Ground.phase },{ on:=3,ground:=Ground.phase },{ on:=4,ground:=Ground.phase },{ on:=5,ground:=Ground.phase },{ on:=6,ground:=Ground.phase },{ on:=7,ground:=Ground.phase },{ on:=8,ground:=Ground.phase },{ on:=9,ground:=Ground.textOnly Departure.lateStores }],guard:=none }) rfl (fun K hK=>?_) AllReadyH.nil
           go_simp
           refine hK.out _ _ ?_ (fun hHeld=>?_)
           ·exact trivial
           clear hK K
           refine wpAnyH_done (by kernel_rfl) ?_ _
           exact ⟨⟨wo2,wc2⟩,by first | rfl | simp [Act.put],uH S2⟩
         rintro ⟨wo2,wc2⟩ V3 st
         simp only [Act.put,List.setIfInBounds_toArray,List.set_cons_zero,List.set_cons_succ]
         have ST:=hide st
         clear st
         go_wp2_with fail
         refine at_world (fun W=>RdSt w W r c N M ⟨coM r c s.W p q C S',s.V,false⟩ wo2 vo wc2 vc) (uH ST) ?_
         clear ST
         rintro V4 st
         have st:=st.all (Below.refl V4.heap.size V4).drew
         have hM2:s.V.length = M:=st.hM
         have KC:=hide (fun w' (hb:Below V4.drew.heap.size V4.drew w')=>gCols_ok c c vc p q C S' vo s.V w' (st.mv.below hb) hpc hqc hne lC lM ((uH HT).all (st.bel.trans (hb.mono st.bel.size))))
         rw [hM2] at KC
         have ST:=hide st
         clear st hM2
         refine region_cut (T:=Option Addr × Nat) (fun a t=>((((((((((a.put (some 81) (.agg #[.int .i64 (c:Nat),.int .i64 (c:Nat),.slice vo M vc])).put (some 82) (.int .i64 (p:Nat))).put (some 83) (.int .i64 (q:Nat))).put (some 84) (.int .u64 (C:Nat))).put (some 85) (.int .u64 (S:Nat))).put (some 86) (.int .u64 (S':Nat))).put (some 87) (.tuple #[.agg #[.int .i64 (c:Nat),.int .i64 (c:Nat),.slice t.1 M t.2],.int .i64 0])).put (some 80) (.tuple #[.agg #[.int .i64 (c:Nat),.int .i64 (c:Nat),.slice t.1 M t.2],.int .i64 0])).put (some 88) (.agg #[.int .i64 (c:Nat),.int .i64 (c:Nat),.slice t.1 M t.2])).put (some 89) (.int .i64 0))) (fun t w'=>RdSt w w' r c N M ⟨coM r c s.W p q C S',coM c c s.V p q C S',false⟩ wo2 t.1 wc2 t.2) ?_ ?_
         ·have y0:=(uH ST).bv.c0;have y1:=(uH ST).bv.c1;have y2:=(uH ST).bv.c2
          refine wp_region_held_drew (S:=fun w'=>True) (by kernel_rfl) ?_ (fun hHeld=>?_)
          ·exact trivial
          refine wpAnyH_take (i:=1) (oi:={ dst:=some 82,op:=Op.move (Operand.tmp 10),type:=3,pos := "turns.go:45",after:=#[],guard:=none }) (v:=.int .i64 (p:Nat)) rfl (by kernel_rfl) (by kernel_rfl) (by kernel_rfl) (fun _ _ _ h=>h) (Or.inl ⟨by rfl,?_⟩) (by assumption) ?_
          ·(intro w hSw;(try dsimp only at hSw);go_simp)
          simp only [Act.put,List.setIfInBounds_toArray,List.set_cons_zero,List.set_cons_succ]
          refine wpAnyH_take (i:=2) (oi:={ dst:=some 83,op:=Op.move (Operand.tmp 11),type:=3,pos := "turns.go:45",after:=#[],guard:=none }) (v:=.int .i64 (q:Nat)) rfl (by kernel_rfl) (by kernel_rfl) (by kernel_rfl) (fun _ _ _ h=>h) (Or.inl ⟨by rfl,?_⟩) (by assumption) ?_
          ·(intro w hSw;(try dsimp only at hSw);go_simp)
          simp only [Act.put,List.setIfInBounds_toArray,List.set_cons_zero,List.set_cons_succ]
          refine wpAnyH_take (i:=3) (oi:={ dst:=some 84,op:=Op.move (Operand.tmp 17),type:=28,pos := "turns.go:45",after:=#[],guard:=none }) (v:=.int .u64 (C:Nat)) rfl (by kernel_rfl) (by kernel_rfl) (by kernel_rfl) (fun _ _ _ h=>h) (Or.inl ⟨by rfl,?_⟩) (by assumption) ?_
          ·(intro w hSw;(try dsimp only at hSw);go_simp)
          simp only [Act.put,List.setIfInBounds_toArray,List.set_cons_zero,List.set_cons_succ]
          refine wpAnyH_take (i:=4) (oi:={ dst:=some 85,op:=Op.move (Operand.tmp 18),type:=28,pos := "turns.go:45",after:=#[],guard:=none }) (v:=.int .u64 (S:Nat)) rfl (by kernel_rfl) (by kernel_rfl) (by kernel_rfl) (fun _ _ _ h=>h) (Or.inl ⟨by rfl,?_⟩) (by assumption) ?_
          ·(intro w hSw;(try dsimp only at hSw);go_simp)
          simp only [Act.put,List.setIfInBounds_toArray,List.set_cons_zero,List.set_cons_succ]
          refine wpAnyH_ready (rs:=[0,5]) (by kernel_rfl) (by simp) ?_
          refine AllReadyH.cons (o:={ dst:=some 81,op:=Op.load 25 (Operand.tmp 4),type:=25,pos := "turns.go:45",after:=#[],guard:=none }) rfl (fun K hK=>?_) (AllReadyH.cons (o:={ dst:=some 86,op:=Op.call { callee:=Callee.value (Operand.func 188),args:=#[Operand.tmp 85],argTypes:=#[28] },type:=28,pos := "turns.go:45",after:=#[{ on:=4,ground:=Ground.data }],guard:=none }) rfl (fun K hK=>?_) AllReadyH.nil)
          ·go_simp
           refine hK.out _ _ ?_ (fun hHeld=>?_)
           ·exact trivial
           clear hK K
           refine wpAnyH_ready (rs:=[5]) (by kernel_rfl) (by simp) ?_
           refine AllReadyH.cons (o:={ dst:=some 86,op:=Op.call { callee:=Callee.value (Operand.func 188),args:=#[Operand.tmp 85],argTypes:=#[28] },type:=28,pos := "turns.go:45",after:=#[{ on:=4,ground:=Ground.data }],guard:=none }) rfl (fun K hK=>?_) AllReadyH.nil
           go_simp
           refine (uH KM _).mono ?_
           rintro e w5 ⟨rfl,rfl⟩
           go_wp2_with fail
           refine hK.out _ _ ?_ (fun hHeld=>?_)
           ·exact trivial
           clear hK K
           refine wpAnyH_ready (rs:=[6]) (by kernel_rfl) (by simp) ?_
           refine AllReadyH.cons (o:={ dst:=some 87,op:=Op.call { callee:=Callee.value (Operand.func 200),args:=#[Operand.tmp 81,Operand.tmp 82,Operand.tmp 83,Operand.tmp 84,Operand.tmp 86],argTypes:=#[25,3,3,28,28] },type:=33,pos := "turns.go:45",after:=#[{ on:=0,ground:=Ground.data },{ on:=1,ground:=Ground.data },{ on:=2,ground:=Ground.data },{ on:=3,ground:=Ground.data },{ on:=5,ground:=Ground.data },{ on:=5,ground:=Ground.chain }],guard:=none }) rfl (fun K hK=>?_) AllReadyH.nil
           go_simp
           refine (uH KC _ (Below.refl _ _)).mono ?_
           rintro e w6 ⟨v,rfl,⟨vo2,vc2,rfl,_,hq2⟩,hb⟩
           have st:=(uH ST).all hb
           have hl2:(coM c c s.V p q C S').length = M:=(coM_len _ _ _ _ _ _ _).trans (uH RN).2
           rw [hl2]
           have z0:=st.bv.c0;have z1:=st.bv.c1;have z2:=st.bv.c2;have f0:=st.bv.free 0;have f1:=st.bv.free 1;have f2:=st.bv.free 2
           have S2:=hide (show RdSt w _ r c N M ⟨coM r c s.W p q C S',coM c c s.V p q C S',false⟩ wo2 vo2 wc2 vc2 from st.putV (⟨hq2,coM_len _ _ _ _ _ _ _,hc6,hc6⟩:Mx w6 vo2 vc2 c c (coM c c s.V p q C S')) hl2 false)
           clear st hq2 hb hl2
           go_wp2_with fail
           refine hK.out _ _ ?_ (fun hHeld=>?_)
           ·exact trivial
           clear hK K
           refine wpAnyH_take (i:=7) (oi:={ dst:=some 80,op:=Op.move (Operand.tmp 87),type:=33,pos := "turns.go:45",after:=#[{ on:=6,ground:=Ground.data }],guard:=none }) (v:=.tuple #[.agg #[.int .i64 (c:Nat),.int .i64 (c:Nat),.slice vo2 M vc2],.int .i64 0]) rfl (by kernel_rfl) (by kernel_rfl) (by kernel_rfl) (fun _ _ _ h=>h) (Or.inl ⟨by rfl,?_⟩) (by assumption) ?_
           ·(intro w hSw;(try dsimp only at hSw);go_simp)
           simp only [Act.put,List.setIfInBounds_toArray,List.set_cons_zero,List.set_cons_succ]
           refine wpAnyH_take (i:=8) (oi:={ dst:=some 88,op:=Op.extract (Operand.tmp 80) 0,type:=25,pos := "turns.go:45",after:=#[{ on:=7,ground:=Ground.data }],guard:=none }) (v:=.agg #[.int .i64 (c:Nat),.int .i64 (c:Nat),.slice vo2 M vc2]) rfl (by kernel_rfl) (by kernel_rfl) (by kernel_rfl) (fun _ _ _ h=>h) (Or.inl ⟨by rfl,?_⟩) (by assumption) ?_
           ·(intro w hSw;(try dsimp only at hSw);go_simp)
           simp only [Act.put,List.setIfInBounds_toArray,List.set_cons_zero,List.set_cons_succ]
           refine wpAnyH_take (i:=9) (oi:={ dst:=some 89,op:=Op.extract (Operand.tmp 80) 1,type:=32,pos := "turns.go:45",after:=#[{ on:=7,ground:=Ground.data },{ on:=10,ground:=Ground.gcOnly Departure.lateStores }],guard:=none }) (v:=.int .i64 0) rfl (by kernel_rfl) (by kernel_rfl) (by kernel_rfl) (fun _ _ _ h=>h) (Or.inl ⟨by rfl,?_⟩) (by assumption) ?_
           ·(intro w hSw;(try dsimp only at hSw);go_simp)
           simp only [Act.put,List.setIfInBounds_toArray,List.set_cons_zero,List.set_cons_succ]
           refine wpAnyH_ready (rs:=[10]) (by kernel_rfl) (by simp) ?_
           refine AllReadyH.cons (o:={ dst:=none,op:=Op.store 25 (Operand.tmp 4) (Operand.tmp 88),type:=0,pos := "turns.go:45",after:=#[{ on:=8,ground:=Ground.data },{ on:=6,ground:=Ground.chain },{ on:=0,ground:=Ground.phase },{ on:=1,ground:=Ground.phase },{ on:=2,ground:=Ground.phase },{ on:=3,ground:=Ground.phase },{ on:=4,ground:=Ground.phase },{ on:=5,ground:=Ground.phase },{ on:=6,ground:=Ground.phase },{ on:=7,ground:=Ground.phase },{ on:=8,ground:=Ground.phase },{ on:=9,ground:=Ground.textOnly Departure.lateStores }],guard:=none }) rfl (fun K hK=>?_) AllReadyH.nil
           go_simp
           refine hK.out _ _ ?_ (fun hHeld=>?_)
           ·exact trivial
           clear hK K
           refine wpAnyH_done (by kernel_rfl) ?_ _
           exact ⟨⟨vo2,vc2⟩,by first | rfl | simp [Act.put],uH S2⟩
          ·go_simp
           refine (uH KM _).mono ?_
           rintro e w5 ⟨rfl,rfl⟩
           go_wp2_with fail
           refine hK.out _ _ ?_ (fun hHeld=>?_)
           ·exact trivial
           clear hK K
           refine wpAnyH_ready (rs:=[0]) (by kernel_rfl) (by simp) ?_
           refine AllReadyH.cons (o:={ dst:=some 81,op:=Op.load 25 (Operand.tmp 4),type:=25,pos := "turns.go:45",after:=#[],guard:=none }) rfl (fun K hK=>?_) AllReadyH.nil
           go_simp
           refine hK.out _ _ ?_ (fun hHeld=>?_)
           ·exact trivial
           clear hK K
           refine wpAnyH_ready (rs:=[6]) (by kernel_rfl) (by simp) ?_
           refine AllReadyH.cons (o:={ dst:=some 87,op:=Op.call { callee:=Callee.value (Operand.func 200),args:=#[Operand.tmp 81,Operand.tmp 82,Operand.tmp 83,Operand.tmp 84,Operand.tmp 86],argTypes:=#[25,3,3,28,28] },type:=33,pos := "turns.go:45",after:=#[{ on:=0,ground:=Ground.data },{ on:=1,ground:=Ground.data },{ on:=2,ground:=Ground.data },{ on:=3,ground:=Ground.data },{ on:=5,ground:=Ground.data },{ on:=5,ground:=Ground.chain }],guard:=none }) rfl (fun K hK=>?_) AllReadyH.nil
           go_simp
           refine (uH KC _ (Below.refl _ _)).mono ?_
           rintro e w6 ⟨v,rfl,⟨vo2,vc2,rfl,_,hq2⟩,hb⟩
           have st:=(uH ST).all hb
           have hl2:(coM c c s.V p q C S').length = M:=(coM_len _ _ _ _ _ _ _).trans (uH RN).2
           rw [hl2]
           have z0:=st.bv.c0;have z1:=st.bv.c1;have z2:=st.bv.c2;have f0:=st.bv.free 0;have f1:=st.bv.free 1;have f2:=st.bv.free 2
           have S2:=hide (show RdSt w _ r c N M ⟨coM r c s.W p q C S',coM c c s.V p q C S',false⟩ wo2 vo2 wc2 vc2 from st.putV (⟨hq2,coM_len _ _ _ _ _ _ _,hc6,hc6⟩:Mx w6 vo2 vc2 c c (coM c c s.V p q C S')) hl2 false)
           clear st hq2 hb hl2
           go_wp2_with fail
           refine hK.out _ _ ?_ (fun hHeld=>?_)
           ·exact trivial
           clear hK K
           refine wpAnyH_take (i:=7) (oi:={ dst:=some 80,op:=Op.move (Operand.tmp 87),type:=33,pos := "turns.go:45",after:=#[{ on:=6,ground:=Ground.data }],guard:=none }) (v:=.tuple #[.agg #[.int .i64 (c:Nat),.int .i64 (c:Nat),.slice vo2 M vc2],.int .i64 0]) rfl (by kernel_rfl) (by kernel_rfl) (by kernel_rfl) (fun _ _ _ h=>h) (Or.inl ⟨by rfl,?_⟩) (by assumption) ?_
           ·(intro w hSw;(try dsimp only at hSw);go_simp)
           simp only [Act.put,List.setIfInBounds_toArray,List.set_cons_zero,List.set_cons_succ]
           refine wpAnyH_take (i:=8) (oi:={ dst:=some 88,op:=Op.extract (Operand.tmp 80) 0,type:=25,pos := "turns.go:45",after:=#[{ on:=7,ground:=Ground.data }],guard:=none }) (v:=.agg #[.int .i64 (c:Nat),.int .i64 (c:Nat),.slice vo2 M vc2]) rfl (by kernel_rfl) (by kernel_rfl) (by kernel_rfl) (fun _ _ _ h=>h) (Or.inl ⟨by rfl,?_⟩) (by assumption) ?_
           ·(intro w hSw;(try dsimp only at hSw);go_simp)
           simp only [Act.put,List.setIfInBounds_toArray,List.set_cons_zero,List.set_cons_succ]
           refine wpAnyH_take (i:=9) (oi:={ dst:=some 89,op:=Op.extract (Operand.tmp 80) 1,type:=32,pos := "turns.go:45",after:=#[{ on:=7,ground:=Ground.data },{ on:=10,ground:=Ground.gcOnly Departure.lateStores }],guard:=none }) (v:=.int .i64 0) rfl (by kernel_rfl) (by kernel_rfl) (by kernel_rfl) (fun _ _ _ h=>h) (Or.inl ⟨by rfl,?_⟩) (by assumption) ?_
           ·(intro w hSw;(try dsimp only at hSw);go_simp)
           simp only [Act.put,List.setIfInBounds_toArray,List.set_cons_zero,List.set_cons_succ]
           refine wpAnyH_ready (rs:=[10]) (by kernel_rfl) (by simp) ?_
           refine AllReadyH.cons (o:={ dst:=none,op:=Op.store 25 (Operand.tmp 4) (Operand.tmp 88),type:=0,pos := "turns.go:45",after:=#[{ on:=8,ground:=Ground.data },{ on:=6,ground:=Ground.chain },{ on:=0,ground:=Ground.phase },{ on:=1,ground:=Ground.phase },{ on:=2,ground:=Ground.phase },{ on:=3,ground:=Ground.phase },{ on:=4,ground:=Ground.phase },{ on:=5,ground:=Ground.phase },{ on:=6,ground:=Ground.phase },{ on:=7,ground:=Ground.phase },{ on:=8,ground:=Ground.phase },{ on:=9,ground:=Ground.textOnly Departure.lateStores }],guard:=none }) rfl (fun K hK=>?_) AllReadyH.nil
           go_simp
           refine hK.out _ _ ?_ (fun hHeld=>?_)
           ·exact trivial
           clear hK K
           refine wpAnyH_done (by kernel_rfl) ?_ _
           exact ⟨⟨vo2,vc2⟩,by first | rfl | simp [Act.put],uH S2⟩
         rintro ⟨vo2,vc2⟩ V5 st
         simp only [Act.put,List.setIfInBounds_toArray,List.set_cons_zero,List.set_cons_succ]
         have ST:=hide st
         clear st
         go_wp2_with fail
         go_roundg g2
         case measure=>omega
         case rel=>exact ⟨t+1,wo2,vo2,wc2,vc2,by omega,by go_num,by rw [uH SU],hide (by rw [uH SU];exact uH ST)⟩
    | zero =>
     have hqI:¬ ((q:Int) < (c:Int)):=by have:=uH HP1;omega
     have htt:t = c - 1 - p:=by omega
     go_wp2_with fail
     clear y1
     go_roundg gh
     case measure=>omega
     case rel=>exact ⟨p+1,wo,vo,wc,vc,by omega,by go_num,by refine uH PO (fun x=>Value.bool s.still = .bool x.still) ?_;rw [← htt,hs],hide (by refine uH PO (fun x=>RdSt w wr r c N M x wo vo wc vc) ?_;rw [← htt,hs];exact uH ST)⟩
  | zero =>
   have hpp:p = c:=by omega
   subst hpp
   refine at_world (fun W=>RdSt w W r p N M (sdO r p low s0 p) wo vo wc vc) (uH ST) ?_
   clear ST
   rintro V st
   generalize hsO:sdO r p low s0 p = s at *
   have st:=st.all (Below.refl V.heap.size V).drew
   have y0:=st.bw.c0;have y1:=st.bw.c1;have y2:=st.bw.c2;have u0:=st.bv.c0;have u1:=st.bv.c1;have u2:=st.bv.c2
   have s0:=st.b6.c0;have s1:=st.b6.c1;have s2:=st.b6.c2;have f0:=st.b6.free 0;have f1:=st.b6.free 1;have f2:=st.b6.free 2
   have X6:=st.b6.put (.int .i64 (r:Nat)) (.int .i64 (p:Nat)) (.slice wo N wc)
   have X7:=st.b7.three (g:=w.heap.size+1+1) (by omega) (.int .i64 (r:Nat)) (.int .i64 (p:Nat)) (.slice wo N wc)
   have t0:=X7.c0;have t1:=X7.c1;have t2:=X7.c2;have g0:=X7.free 0;have g1:=X7.free 1;have g2:=X7.free 2
   have X8:=X7.put (.int .i64 (p:Nat)) (.int .i64 (p:Nat)) (.slice vo M vc)
   have X9:=X6.three (g:=w.heap.size+1+1+1) (by omega) (.int .i64 (p:Nat)) (.int .i64 (p:Nat)) (.slice vo M vc)
   have a0:=X9.c0;have a1:=X9.c1;have a2:=X9.c2;have b0:=X8.c0;have b1:=X8.c1;have b2:=X8.c2
   have FIN:=hide (show Mx ((((((V.drew.setCell ⟨w.heap.size+1+1,0,none⟩ (.int .i64 (r:Nat))).setCell ⟨w.heap.size+1+1,1,none⟩ (.int .i64 (p:Nat))).setCell ⟨w.heap.size+1+1,2,none⟩ (.slice wo N wc)).setCell ⟨w.heap.size+1+1+1,0,none⟩ (.int .i64 (p:Nat))).setCell ⟨w.heap.size+1+1+1,1,none⟩ (.int .i64 (p:Nat))).setCell ⟨w.heap.size+1+1+1,2,none⟩ (.slice vo M vc)) wo wc r p s.W∧Mx ((((((V.drew.setCell ⟨w.heap.size+1+1,0,none⟩ (.int .i64 (r:Nat))).setCell ⟨w.heap.size+1+1,1,none⟩ (.int .i64 (p:Nat))).setCell ⟨w.heap.size+1+1,2,none⟩ (.slice wo N wc)).setCell ⟨w.heap.size+1+1+1,0,none⟩ (.int .i64 (p:Nat))).setCell ⟨w.heap.size+1+1+1,1,none⟩ (.int .i64 (p:Nat))).setCell ⟨w.heap.size+1+1+1,2,none⟩ (.slice vo M vc)) vo vc p p s.V∧Below w.heap.size w ((((((V.drew.setCell ⟨w.heap.size+1+1,0,none⟩ (.int .i64 (r:Nat))).setCell ⟨w.heap.size+1+1,1,none⟩ (.int .i64 (p:Nat))).setCell ⟨w.heap.size+1+1,2,none⟩ (.slice wo N wc)).setCell ⟨w.heap.size+1+1+1,0,none⟩ (.int .i64 (p:Nat))).setCell ⟨w.heap.size+1+1+1,1,none⟩ (.int .i64 (p:Nat))).setCell ⟨w.heap.size+1+1+1,2,none⟩ (.slice vo M vc))∧s.W.length = N∧s.V.length = M from ⟨(st.mw.putM st.b6 _ _ _).putM X7 _ _ _,(st.mv.putM st.b6 _ _ _).putM X7 _ _ _,below_putM (b:=w.heap.size+1+1+1) (below_putM (b:=w.heap.size+1+1) st.bel (by omega) _ _ _) (by omega) _ _ _,st.hN,st.hM⟩)
   have H0:=hide (show V.drew.cell? ⟨w.heap.size,0,none⟩ = some (.int .i64 (r:Nat))∧V.drew.cell? ⟨w.heap.size,1,none⟩ = some (.int .i64 (p:Nat))∧V.drew.cell? ⟨w.heap.size,2,none⟩ = some (.slice wo N wc)∧V.drew.cell? ⟨w.heap.size+1,0,none⟩ = some (.int .i64 (p:Nat))∧V.drew.cell? ⟨w.heap.size+1,1,none⟩ = some (.int .i64 (p:Nat))∧V.drew.cell? ⟨w.heap.size+1,2,none⟩ = some (.slice vo M vc) from ⟨y0,y1,y2,u0,u1,u2⟩)
   have YY:=(st.bw.three (g:=w.heap.size+1+1) (by omega) (.int .i64 (r:Nat)) (.int .i64 (p:Nat)) (.slice wo N wc));have UU:=(st.bv.three (g:=w.heap.size+1+1) (by omega) (.int .i64 (r:Nat)) (.int .i64 (p:Nat)) (.slice wo N wc))
   have H1:=hide (And.intro YY.c0 (And.intro YY.c1 (And.intro YY.c2 (And.intro UU.c0 (And.intro UU.c1 UU.c2)))))
   have Y2:=YY.three (g:=w.heap.size+1+1+1) (by omega) (.int .i64 (p:Nat)) (.int .i64 (p:Nat)) (.slice vo M vc);have U2:=UU.three (g:=w.heap.size+1+1+1) (by omega) (.int .i64 (p:Nat)) (.int .i64 (p:Nat)) (.slice vo M vc)
   have H2:=hide (And.intro Y2.c0 (And.intro Y2.c1 (And.intro Y2.c2 (And.intro U2.c0 (And.intro U2.c1 U2.c2)))))
   clear st X6 X7 X8 X9 OI e0 YY UU Y2 U2
   generalize hst:s.still = b at *
   go_wp2_with fail
   refine wp_region_held_drew (S:=fun w'=>w'.cell? ⟨w.heap.size,0,none⟩ = some (.int .i64 (r:Nat))∧w'.cell? ⟨w.heap.size,1,none⟩ = some (.int .i64 (p:Nat))∧w'.cell? ⟨w.heap.size,2,none⟩ = some (.slice wo N wc)∧w'.cell? ⟨w.heap.size+1,0,none⟩ = some (.int .i64 (p:Nat))∧w'.cell? ⟨w.heap.size+1,1,none⟩ = some (.int .i64 (p:Nat))∧w'.cell? ⟨w.heap.size+1,2,none⟩ = some (.slice vo M vc)) (by kernel_rfl) ?_ (fun hHeld=>?_)
   ·exact uH H0
   generalize V.drew = U at *
   refine wpAnyH_take (i:=0) (oi:={ dst:=some 91,op:=Op.load 25 (Operand.tmp 3),type:=25,pos := "turns.go:49",after:=#[],guard:=none }) (v:=.agg #[.int .i64 (r:Nat),.int .i64 (p:Nat),.slice wo N wc]) rfl (by kernel_rfl) (by kernel_rfl) (by kernel_rfl) (fun _ _ _ h=>h) (Or.inl ⟨by rfl,?_⟩) (by assumption) ?_
   ·(intro w hSw;(try dsimp only at hSw);go_simp)
   simp only [Act.put,List.setIfInBounds_toArray,List.set_cons_zero,List.set_cons_succ]
   refine wpAnyH_take (i:=1) (oi:={ dst:=some 92,op:=Op.load 25 (Operand.tmp 4),type:=25,pos := "turns.go:49",after:=#[{ on:=3,ground:=Ground.gcOnly Departure.lateStores }],guard:=none }) (v:=.agg #[.int .i64 (p:Nat),.int .i64 (p:Nat),.slice vo M vc]) rfl (by kernel_rfl) (by kernel_rfl) (by kernel_rfl) (fun _ _ _ h=>h) (Or.inl ⟨by rfl,?_⟩) (by assumption) ?_
   ·(intro w hSw;(try dsimp only at hSw);go_simp)
   simp only [Act.put,List.setIfInBounds_toArray,List.set_cons_zero,List.set_cons_succ]
   refine wpAnyH_take (i:=2) (oi:={ dst:=some 93,op:=Op.move (Operand.tmp 9),type:=4,pos := "turns.go:49",after:=#[{ on:=4,ground:=Ground.gcOnly Departure.lateStores }],guard:=none }) (v:=.bool b) rfl (by kernel_rfl) (by kernel_rfl) (by kernel_rfl) (fun _ _ _ h=>h) (Or.inl ⟨by rfl,?_⟩) (by assumption) ?_
   ·(intro w hSw;(try dsimp only at hSw);go_simp)
   simp only [Act.put,List.setIfInBounds_toArray,List.set_cons_zero,List.set_cons_succ]
   refine wpAnyH_ready (rs:=[3]) (by kernel_rfl) (by simp) ?_
   refine AllReadyH.cons (o:={ dst:=none,op:=Op.store 25 (Operand.tmp 6) (Operand.tmp 91),type:=0,pos := "turns.go:49",after:=#[{ on:=0,ground:=Ground.data },{ on:=0,ground:=Ground.phase },{ on:=1,ground:=Ground.textOnly Departure.lateStores },{ on:=2,ground:=Ground.textOnly Departure.lateStores }],guard:=none }) rfl (fun K hK=>?_) AllReadyH.nil
   go_simp
   refine hK.out _ _ ?_ (fun hHeld=>?_)
   ·exact uH H1
   clear hK K
   refine wpAnyH_ready (rs:=[4]) (by kernel_rfl) (by simp) ?_
   refine AllReadyH.cons (o:={ dst:=none,op:=Op.store 25 (Operand.tmp 7) (Operand.tmp 92),type:=0,pos := "turns.go:49",after:=#[{ on:=1,ground:=Ground.data },{ on:=3,ground:=Ground.chain },{ on:=0,ground:=Ground.phase },{ on:=1,ground:=Ground.phase },{ on:=2,ground:=Ground.textOnly Departure.lateStores },{ on:=3,ground:=Ground.phase }],guard:=none }) rfl (fun K hK=>?_) AllReadyH.nil
   go_simp
   refine hK.out _ _ ?_ (fun hHeld=>?_)
   ·exact uH H2
   clear hK K
   refine wpAnyH_take (i:=5) (oi:={ dst:=some 8,op:=Op.assign (Operand.tmp 93),type:=4,pos := "turns.go:49",after:=#[{ on:=2,ground:=Ground.data },{ on:=4,ground:=Ground.chain },{ on:=0,ground:=Ground.phase },{ on:=1,ground:=Ground.phase },{ on:=2,ground:=Ground.phase },{ on:=3,ground:=Ground.phase },{ on:=4,ground:=Ground.phase }],guard:=none }) (v:=.bool b) rfl (by kernel_rfl) (by kernel_rfl) (by kernel_rfl) (fun _ _ _ h=>h) (Or.inl ⟨by rfl,?_⟩) (by assumption) ?_
   ·(intro w hSw;(try dsimp only at hSw);go_simp)
   simp only [Act.put,List.setIfInBounds_toArray,List.set_cons_zero,List.set_cons_succ]
   refine wpAnyH_done (by kernel_rfl) ?_ _
   skip
   go_wp2_with fail
   try rw [Exit.noGoto_ret]
   exact bodyPost_ret (v:=.tuple #[.agg #[.int .i64 r,.int .i64 p,.slice wo N wc],.agg #[.int .i64 p,.int .i64 p,.slice vo M vc],.bool b]) (by simp [results,Tryz.results210,go_sem,a0,a1,a2,b0,b1,b2]) rfl ⟨⟨wo,wc,vo,vc,by rw [hsO,hst],by rw [hsO];exact (uH FIN).1,by rw [hsO];exact (uH FIN).2.1,by rw [hsO];exact (uH FIN).2.2.2⟩,(uH FIN).2.2.1⟩
end Go.Proofs.YtdhmglmccafbnaaGreatDoor
namespace Go.Proofs.YtdhmglmccafbnaaGreatDoor
open Go.RowKit
attribute [local go_sem ↓] Go.wp_at_zero Go.wp_at_succ
structure TdSt (w wr:World) (g r c N M:Nat) (s:Sd) (wo vo:Option Addr) (wc vc:Nat):Prop where
 bel:Below w.heap.size w wr
 bw:BoxM wr w.heap.size (.int .i64 r) (.int .i64 c) (.slice wo N wc)
 b4:BoxM wr (w.heap.size+1) (.int .i64 0) (.int .i64 0) (.slice none 0 0)
 b5:BoxM wr (w.heap.size+1+1) (.int .i64 0) (.int .i64 0) (.slice none 0 0)
 bv:BoxM wr g (.int .i64 c) (.int .i64 c) (.slice vo M vc)
 hg:w.heap.size+1+1 < g
 mw:Mx wr wo wc r c s.W
 mv:Mx wr vo vc c c s.V
 hN:s.W.length = N
 hM:s.V.length = M
theorem TdSt.all {w wr w':World} {g r c N M:Nat} {s:Sd} {wo vo:Option Addr} {wc vc:Nat} (h:TdSt w wr g r c N M s wo vo wc vc) (hb:Below wr.heap.size wr w'):TdSt w w' g r c N M s wo vo wc vc :=
 ⟨h.bel.trans (hb.mono h.bel.size),h.bw.all hb,h.b4.all hb,h.b5.all hb,h.bv.all hb,h.hg,h.mw.below hb,h.mv.below hb,h.hN,h.hM⟩
theorem TdSt.put {w wr:World} {g r c N M:Nat} {s s':Sd} {wo vo wo' vo':Option Addr} {wc vc wc' vc':Nat} (h:TdSt w wr g r c N M s wo vo wc vc) (hW:Mx wr wo' wc' r c s'.W) (hV:Mx wr vo' vc' c c s'.V) (hN:s'.W.length = N) (hM:s'.V.length = M) :
  TdSt w ((((((wr.setCell ⟨w.heap.size,0,none⟩ (.int .i64 r)).setCell ⟨w.heap.size,1,none⟩ (.int .i64 c)).setCell ⟨w.heap.size,2,none⟩ (.slice wo' N wc')).setCell ⟨g,0,none⟩ (.int .i64 c)).setCell ⟨g,1,none⟩ (.int .i64 c)).setCell ⟨g,2,none⟩ (.slice vo' M vc')) g r c N M s' wo' vo' wc' vc':=by
 have hg:=h.hg
 have x:=h.bw.put (.int .i64 r) (.int .i64 c) (.slice wo' N wc')
 have y:=h.bv.three (g:=w.heap.size) (by omega) (.int .i64 r) (.int .i64 c) (.slice wo' N wc')
 exact ⟨below_putM (b:=g) (below_putM (b:=w.heap.size) h.bel (Nat.le_refl _) _ _ _) (by omega) _ _ _,x.three (by omega) _ _ _,(h.b4.three (by omega) _ _ _).three (by omega) _ _ _,(h.b5.three (by omega) _ _ _).three (by omega) _ _ _,y.put _ _ _,hg,(hW.putM h.bw _ _ _).putM y _ _ _,(hV.putM h.bw _ _ _).putM y _ _ _,hN,hM⟩
theorem TdSt.out {w wr:World} {g r c N M:Nat} {s:Sd} {wo vo:Option Addr} {wc vc:Nat} (h:TdSt w wr g r c N M s wo vo wc vc) (F:World)
  (hF:F = ((((((wr.setCell ⟨w.heap.size+1,0,none⟩ (.int .i64 r)).setCell ⟨w.heap.size+1,1,none⟩ (.int .i64 c)).setCell ⟨w.heap.size+1,2,none⟩ (.slice wo N wc)).setCell ⟨w.heap.size+1+1,0,none⟩ (.int .i64 c)).setCell ⟨w.heap.size+1+1,1,none⟩ (.int .i64 c)).setCell ⟨w.heap.size+1+1,2,none⟩ (.slice vo M vc))) :
  BoxM F (w.heap.size+1) (.int .i64 r) (.int .i64 c) (.slice wo N wc)∧BoxM F (w.heap.size+1+1) (.int .i64 c) (.int .i64 c) (.slice vo M vc)∧Mx F wo wc r c s.W∧Mx F vo vc c c s.V∧Below w.heap.size w F∧s.W.length = N∧s.V.length = M:=by
 subst hF
 have x:=h.b4.put (.int .i64 r) (.int .i64 c) (.slice wo N wc)
 have y:=h.b5.three (g:=w.heap.size+1) (by omega) (.int .i64 r) (.int .i64 c) (.slice wo N wc)
 exact ⟨x.three (by omega) _ _ _,y.put _ _ _,(h.mw.putM h.b4 _ _ _).putM y _ _ _,(h.mv.putM h.b4 _ _ _).putM y _ _ _,below_putM (b:=w.heap.size+1+1) (below_putM (b:=w.heap.size+1) h.bel (by omega) _ _ _) (by omega) _ _ _,h.hN,h.hM⟩
theorem sdL_stop {r c low:Nat} {s:Sd} {n:Nat} (h:(sdL r c low s n).still = true):∀ k,sdL r c low s (n+k) = sdL r c low s n
 | 0=>rfl
 | k+1=>by
  have e:sdL r c low s (n+(k+1)) = if (sdL r c low s (n+k)).still = true then sdL r c low s (n+k) else sdR r c low (sdL r c low s (n+k)):=rfl
  rw [e,sdL_stop h k,if_pos h]
theorem sdL_go {r c low:Nat} {s:Sd} {n:Nat} (h:(sdL r c low s n).still = false):sdL r c low s (n+1) = sdR r c low (sdL r c low s n):=by
 show (if (sdL r c low s n).still = true then sdL r c low s n else sdR r c low (sdL r c low s n)) = _
 rw [h]
 rfl
def sdW (r c:Nat) (S:List Nat) (n:Nat):Sd:=sdL r c (xV (nmV (mxL S)) (-44)) ⟨S,eyM c,false⟩ n
theorem sdturned_of (r c N M k wc:Nat) (wo:Option Addr) (W:List Nat) (w:World) (mw:Mx w wo wc r c W) (hN:W.length = N) (hM:c * c = M) (hk:k≤1000) (hT:Tab w) :
  Calls Tryz.prog 154 #[.agg #[.int .i64 r,.int .i64 c,.slice wo N wc],.int .i64 k] w fun e w'=>RdAns w' r c N M (sdW r c W k) e∧Below w.heap.size w w':=by
 have b3:=boxes3 w (.int .i64 r) (.int .i64 c) (.slice wo N wc) (.int .i64 0) (.int .i64 0) (.slice none 0 0) (.int .i64 0) (.int .i64 0) (.slice none 0 0) (((w.alloc (.cells #[.int .i64 r,.int .i64 c,.slice wo N wc] 25)).alloc (.cells #[.int .i64 0,.int .i64 0,.slice none 0 0] 25)).alloc (.cells #[.int .i64 0,.int .i64 0,.slice none 0 0] 25)) (by have:=Below.refl (((w.alloc (.cells #[.int .i64 r,.int .i64 c,.slice wo N wc] 25)).alloc (.cells #[.int .i64 0,.int .i64 0,.slice none 0 0] 25)).alloc (.cells #[.int .i64 0,.int .i64 0,.slice none 0 0] 25)).heap.size (((w.alloc (.cells #[.int .i64 r,.int .i64 c,.slice wo N wc] 25)).alloc (.cells #[.int .i64 0,.int .i64 0,.slice none 0 0] 25)).alloc (.cells #[.int .i64 0,.int .i64 0,.slice none 0 0] 25));simpa only [size_alloc9] using this)
 have s3:(((w.alloc (.cells #[.int .i64 r,.int .i64 c,.slice wo N wc] 25)).alloc (.cells #[.int .i64 0,.int .i64 0,.slice none 0 0] 25)).alloc (.cells #[.int .i64 0,.int .i64 0,.slice none 0 0] 25)).heap.size = w.heap.size+1+1+1:=by simp only [size_alloc9]
 obtain ⟨b0,x0,x1,x2⟩:=b3
 have HB:=hide b0;have HX:=hide (And.intro x0 (And.intro x1 x2));have S3:=hide s3
 have hr6:=mw.2.2.1;have hc6:=mw.2.2.2
 have LW:=hide (show (mxL W).length = N from (mxL_len W).trans hN)
 have MW:=hide mw;have HT:=hide hT
 have y1:=x0.c1
 have SW:=hide (show sdW r c W k = sdL r c (xV (nmV (mxL W)) (-44)) ⟨W,eyM c,false⟩ k from rfl)
 generalize sdW r c W k = OUT at *
 clear b0 x0 x1 x2 s3 mw hT
 go_enter Tryz.func154,Tryz.ntmps154
 go_wp2_with fail
 clear y1
 refine (mEye_ok c _ hc6).mono ?_
 rintro e w3 ⟨v,rfl,⟨vo,vc,rfl,_,hv⟩,hb⟩
 rw [show (eyM c).length = M from (mkM_len _ _ _).trans hM]
 rw [uH S3] at hb
 have hsz:w.heap.size+1+1+1≤w3.heap.size:=by have:=hb.size;have:=uH S3;omega
 have ba:=below_alloc9 w3 (.cells #[.int .i64 c,.int .i64 c,.slice vo M vc] 25)
 have xv:=BoxM.new w3 (.int .i64 c) (.int .i64 c) (.slice vo M vc)
 have hb0:=(uH HB).trans (hb.mono (by omega))
 have hX:=uH HX
 have ST:=hide (show TdSt w _ w3.heap.size r c N M ⟨W,eyM c,false⟩ wo vo wc vc from ⟨hb0.trans (ba.mono hb0.size),(hX.1.below hb (by omega)).all ba,(hX.2.1.below hb (by omega)).all ba,(hX.2.2.below hb (by omega)).all ba,xv,by omega,((uH MW).below hb0).below ba,⟨hv.below ba,(show (eyM c).length = c * c from mkM_len _ _ _),hc6,hc6⟩,hN,(show (eyM c).length = M from (mkM_len _ _ _).trans hM)⟩)
 clear hb ba xv hb0 hX HX HB S3 hv
 have y2:=(uH ST).bw.c2
 go_wp2_with fail
 clear y2
 generalize w3.alloc (.cells #[.int .i64 c,.int .i64 c,.slice vo M vc] 25) = w4 at *
 generalize w3.heap.size = g at *
 have K:=hide (sdnorm_any wo wc (mxL W) w4 (uH ST).mw.1 (by rw [uH LW];have:=(uH MW).small;omega) ((uH HT).all (uH ST).bel))
 rw [uH LW] at K
 refine Calls.mono (uH K) ?_
 rintro e w5 ⟨rfl,hb⟩
 replace ST:=hide ((uH ST).all hb)
 clear hb K
 have hnm:=nmV_lt (mxL W)
 go_wp2_with fail
 refine (vscale_any (nmV (mxL W)) (-44) _ hnm ((uH HT).all (uH ST).bel)).mono ?_
 rintro e w6 ⟨rfl,hb⟩
 replace ST:=hide ((uH ST).all hb)
 have hlow:=xV_lt (nmV (mxL W)) (-44) hnm
 clear hb hnm LW MW
 generalize xV (nmV (mxL W)) (-44) = low at *
 go_wp2_with fail
 go_loopw [22] (fun a wr=>∃ (i:Nat) (wo vo:Option Addr) (wc vc:Nat),i≤k∧a = .int .i64 i∧(sdL r c low ⟨W,eyM c,false⟩ i).still = false∧Hid (TdSt w wr g r c N M (sdL r c low ⟨W,eyM c,false⟩ i) wo vo wc vc)) (fun a _=>k - (intOf a).toNat)
 case atStart=>exact ⟨0,wo,vo,wc,vc,Nat.zero_le _,rfl,rfl,ST⟩
 case round =>
  clear ST
  obtain ⟨i,wo,vo,wc,vc,hi,rfl,hst,ST⟩:=hrel
  by_cases hik:i < k
  ·have hiI:(i:Int) < (k:Int):=by omega
   have SU:=hide (show sdL r c low ⟨W,eyM c,false⟩ (i+1) = sdR r c low (sdL r c low ⟨W,eyM c,false⟩ i) from sdL_go hst)
   have SE:=hide (fun h=>sdL_stop (r:=r) (c:=c) (low:=low) (s:=⟨W,eyM c,false⟩) (n:=i+1) h (k - (i+1)))
   rw [show i+1+(k - (i+1)) = k by omega,← uH SW] at SE
   generalize hs2e:sdL r c low ⟨W,eyM c,false⟩ (i+1) = s2 at *
   have HE2:=hide hs2e
   clear hs2e
   generalize sdL r c low ⟨W,eyM c,false⟩ i = s at *
   have K:=hide (fun W' (h:TdSt w W' g r c N M s wo vo wc vc)=>sdround_of r c N M low wc vc wo vo s.W s.V W' h.mw h.mv h.hN h.hM hlow ((uH HT).all h.bel))
   rw [show sdO r c low ⟨s.W,s.V,true⟩ c = s2 from (uH SU).symm] at K
   have y0:=(uH ST).bw.c0;have y1:=(uH ST).bw.c1;have y2:=(uH ST).bw.c2;have u0:=(uH ST).bv.c0;have u1:=(uH ST).bv.c1;have u2:=(uH ST).bv.c2
   go_wp2_with fail
   clear y0 y1 y2 u0 u1 u2
   refine (uH K _ (uH ST)).mono ?_
   rintro e w7 ⟨⟨wo2,wc2,vo2,vc2,rfl,hW,hV,hN2,hM2⟩,hb⟩
   have st:=(uH ST).all hb
   have S2:=hide (st.put hW hV hN2 hM2)
   have hg:=st.hg
   have s0:=st.bw.c0;have s1:=st.bw.c1;have s2':=st.bw.c2;have f0:=st.bw.free 0;have f1:=st.bw.free 1;have f2:=st.bw.free 2
   have X7:=st.bv.three (g:=w.heap.size) (by omega) (.int .i64 (r:Nat)) (.int .i64 (c:Nat)) (.slice wo2 N wc2)
   have t0:=X7.c0;have t1:=X7.c1;have t2:=X7.c2;have g0:=X7.free 0;have g1:=X7.free 1;have g2:=X7.free 2
   clear st X7 ST hb K hW hV hN2 hM2 hg
   cases hs2:s2.still
   ·go_wp2_with fail
    go_round
    case rel=>exact ⟨i+1,wo2,vo2,wc2,vc2,by omega,by go_num,by rw [uH HE2];exact hs2,by rw [uH HE2];exact S2⟩
    case measure=>simp [intOf];omega
   ·have EE:=hide (uH SE hs2)
    clear SE SU
    go_wp2_with fail
    clear s0 s1 s2' f0 f1 f2 t0 t1 t2 g0 g1 g2
    refine at_world (fun W=>TdSt w W g r c N M s2 wo2 vo2 wc2 vc2) (uH S2) ?_
    clear S2
    rintro V st
    have st:=st.all (Below.refl V.heap.size V).drew
    have y0:=st.bw.c0;have y1:=st.bw.c1;have y2:=st.bw.c2;have u0:=st.bv.c0;have u1:=st.bv.c1;have u2:=st.bv.c2
    have s0:=st.b4.c0;have s1:=st.b4.c1;have s2:=st.b4.c2;have f0:=st.b4.free 0;have f1:=st.b4.free 1;have f2:=st.b4.free 2
    have X7:=st.b5.three (g:=w.heap.size+1) (by omega) (.int .i64 (r:Nat)) (.int .i64 (c:Nat)) (.slice wo2 N wc2)
    have t0:=X7.c0;have t1:=X7.c1;have t2:=X7.c2;have g0:=X7.free 0;have g1:=X7.free 1;have g2:=X7.free 2
    have FIN:=hide (st.out _ rfl)
    have a0:=(uH FIN).1.c0;have a1:=(uH FIN).1.c1;have a2:=(uH FIN).1.c2;have b0:=(uH FIN).2.1.c0;have b1:=(uH FIN).2.1.c1;have b2:=(uH FIN).2.1.c2
    have H0:=hide (And.intro y0 (And.intro y1 (And.intro y2 (And.intro u0 (And.intro u1 u2)))))
    have hg:=st.hg
    have YY:=(st.bw.three (g:=w.heap.size+1) (by omega) (.int .i64 (r:Nat)) (.int .i64 (c:Nat)) (.slice wo2 N wc2));have UU:=(st.bv.three (g:=w.heap.size+1) (by omega) (.int .i64 (r:Nat)) (.int .i64 (c:Nat)) (.slice wo2 N wc2))
    have H1:=hide (And.intro YY.c0 (And.intro YY.c1 (And.intro YY.c2 (And.intro UU.c0 (And.intro UU.c1 UU.c2)))))
    have Y2:=YY.three (g:=w.heap.size+1+1) (by omega) (.int .i64 (c:Nat)) (.int .i64 (c:Nat)) (.slice vo2 M vc2);have U2:=UU.three (g:=w.heap.size+1+1) (by omega) (.int .i64 (c:Nat)) (.int .i64 (c:Nat)) (.slice vo2 M vc2)
    have H2:=hide (And.intro Y2.c0 (And.intro Y2.c1 (And.intro Y2.c2 (And.intro U2.c0 (And.intro U2.c1 U2.c2)))))
    clear st X7 YY UU Y2 U2 hg
    go_wp2_with fail
    refine wp_region_held_drew (S:=fun w'=>w'.cell? ⟨w.heap.size,0,none⟩ = some (.int .i64 (r:Nat))∧w'.cell? ⟨w.heap.size,1,none⟩ = some (.int .i64 (c:Nat))∧w'.cell? ⟨w.heap.size,2,none⟩ = some (.slice wo2 N wc2)∧w'.cell? ⟨g,0,none⟩ = some (.int .i64 (c:Nat))∧w'.cell? ⟨g,1,none⟩ = some (.int .i64 (c:Nat))∧w'.cell? ⟨g,2,none⟩ = some (.slice vo2 M vc2)) (by kernel_rfl) ?_ (fun hHeld=>?_)
    ·exact uH H0
    generalize V.drew = U at *
    refine wpAnyH_take (i:=0) (oi:={ dst:=some 33,op:=Op.load 25 (Operand.tmp 2),type:=25,pos := "turns.go:23",after:=#[],guard:=none }) (v:=.agg #[.int .i64 (r:Nat),.int .i64 (c:Nat),.slice wo2 N wc2]) rfl (by kernel_rfl) (by kernel_rfl) (by kernel_rfl) (fun _ _ _ h=>h) (Or.inl ⟨by rfl,?_⟩) (by assumption) ?_
    ·(intro w hSw;(try dsimp only at hSw);go_simp)
    simp only [Act.put,List.setIfInBounds_toArray,List.set_cons_zero,List.set_cons_succ]
    refine wpAnyH_take (i:=1) (oi:={ dst:=some 34,op:=Op.load 25 (Operand.tmp 7),type:=25,pos := "turns.go:23",after:=#[{ on:=2,ground:=Ground.gcOnly Departure.lateStores }],guard:=none }) (v:=.agg #[.int .i64 (c:Nat),.int .i64 (c:Nat),.slice vo2 M vc2]) rfl (by kernel_rfl) (by kernel_rfl) (by kernel_rfl) (fun _ _ _ h=>h) (Or.inl ⟨by rfl,?_⟩) (by assumption) ?_
    ·(intro w hSw;(try dsimp only at hSw);go_simp)
    simp only [Act.put,List.setIfInBounds_toArray,List.set_cons_zero,List.set_cons_succ]
    refine wpAnyH_ready (rs:=[2]) (by kernel_rfl) (by simp) ?_
    refine AllReadyH.cons (o:={ dst:=none,op:=Op.store 25 (Operand.tmp 4) (Operand.tmp 33),type:=0,pos := "turns.go:23",after:=#[{ on:=0,ground:=Ground.data },{ on:=0,ground:=Ground.phase },{ on:=1,ground:=Ground.textOnly Departure.lateStores }],guard:=none }) rfl (fun K hK=>?_) AllReadyH.nil
    go_simp
    refine hK.out _ _ ?_ (fun hHeld=>?_)
    ·exact uH H1
    clear hK K
    refine wpAnyH_ready (rs:=[3]) (by kernel_rfl) (by simp) ?_
    refine AllReadyH.cons (o:={ dst:=none,op:=Op.store 25 (Operand.tmp 5) (Operand.tmp 34),type:=0,pos := "turns.go:23",after:=#[{ on:=1,ground:=Ground.data },{ on:=2,ground:=Ground.chain },{ on:=0,ground:=Ground.phase },{ on:=1,ground:=Ground.phase },{ on:=2,ground:=Ground.phase }],guard:=none }) rfl (fun K hK=>?_) AllReadyH.nil
    go_simp
    refine hK.out _ _ ?_ (fun hHeld=>?_)
    ·exact uH H2
    clear hK K
    refine wpAnyH_take (i:=4) (oi:={ dst:=some 6,op:=Op.assign (Operand.const (Value.bool true)),type:=4,pos := "turns.go:23",after:=#[{ on:=3,ground:=Ground.chain },{ on:=0,ground:=Ground.phase },{ on:=1,ground:=Ground.phase },{ on:=2,ground:=Ground.phase },{ on:=3,ground:=Ground.phase }],guard:=none }) (v:=.bool true) rfl (by kernel_rfl) (by kernel_rfl) (by kernel_rfl) (fun _ _ _ h=>h) (Or.inl ⟨by rfl,?_⟩) (by assumption) ?_
    ·(intro w hSw;(try dsimp only at hSw);go_simp)
    simp only [Act.put,List.setIfInBounds_toArray,List.set_cons_zero,List.set_cons_succ]
    refine wpAnyH_done (by kernel_rfl) ?_ _
    skip
    go_wp2_with fail
    exact bodyPost_ret (v:=.tuple #[.agg #[.int .i64 r,.int .i64 c,.slice wo2 N wc2],.agg #[.int .i64 c,.int .i64 c,.slice vo2 M vc2],.bool true]) (by simp [results,Tryz.results154,go_sem,a0,a1,a2,b0,b1,b2]) rfl ⟨⟨wo2,wc2,vo2,vc2,by rw [uH EE,hs2],by rw [uH EE];exact (uH FIN).2.2.1,by rw [uH EE];exact (uH FIN).2.2.2.1,by rw [uH EE];exact (uH FIN).2.2.2.2.2⟩,(uH FIN).2.2.2.2.1⟩
  ·have hkk:i = k:=by omega
   subst hkk
   rw [← uH SW] at hst ST
   refine at_world (fun W=>TdSt w W g r c N M OUT wo vo wc vc) (uH ST) ?_
   clear ST SW
   rintro V st
   have st:=st.all (Below.refl V.heap.size V).drew
   have y0:=st.bw.c0;have y1:=st.bw.c1;have y2:=st.bw.c2;have u0:=st.bv.c0;have u1:=st.bv.c1;have u2:=st.bv.c2
   have s0:=st.b4.c0;have s1:=st.b4.c1;have s2:=st.b4.c2;have f0:=st.b4.free 0;have f1:=st.b4.free 1;have f2:=st.b4.free 2
   have X7:=st.b5.three (g:=w.heap.size+1) (by omega) (.int .i64 (r:Nat)) (.int .i64 (c:Nat)) (.slice wo N wc)
   have t0:=X7.c0;have t1:=X7.c1;have t2:=X7.c2;have g0:=X7.free 0;have g1:=X7.free 1;have g2:=X7.free 2
   have FIN:=hide (st.out _ rfl)
   have a0:=(uH FIN).1.c0;have a1:=(uH FIN).1.c1;have a2:=(uH FIN).1.c2;have b0:=(uH FIN).2.1.c0;have b1:=(uH FIN).2.1.c1;have b2:=(uH FIN).2.1.c2
   have H0:=hide (And.intro y0 (And.intro y1 (And.intro y2 (And.intro u0 (And.intro u1 u2)))))
   have hg:=st.hg
   have YY:=(st.bw.three (g:=w.heap.size+1) (by omega) (.int .i64 (r:Nat)) (.int .i64 (c:Nat)) (.slice wo N wc));have UU:=(st.bv.three (g:=w.heap.size+1) (by omega) (.int .i64 (r:Nat)) (.int .i64 (c:Nat)) (.slice wo N wc))
   have H1:=hide (And.intro YY.c0 (And.intro YY.c1 (And.intro YY.c2 (And.intro UU.c0 (And.intro UU.c1 UU.c2)))))
   have Y2:=YY.three (g:=w.heap.size+1+1) (by omega) (.int .i64 (c:Nat)) (.int .i64 (c:Nat)) (.slice vo M vc);have U2:=UU.three (g:=w.heap.size+1+1) (by omega) (.int .i64 (c:Nat)) (.int .i64 (c:Nat)) (.slice vo M vc)
   have H2:=hide (And.intro Y2.c0 (And.intro Y2.c1 (And.intro Y2.c2 (And.intro U2.c0 (And.intro U2.c1 U2.c2)))))
   clear st X7 YY UU Y2 U2 hg
   go_wp2_with fail
   refine wp_region_held_drew (S:=fun w'=>w'.cell? ⟨w.heap.size,0,none⟩ = some (.int .i64 (r:Nat))∧w'.cell? ⟨w.heap.size,1,none⟩ = some (.int .i64 (c:Nat))∧w'.cell? ⟨w.heap.size,2,none⟩ = some (.slice wo N wc)∧w'.cell? ⟨g,0,none⟩ = some (.int .i64 (c:Nat))∧w'.cell? ⟨g,1,none⟩ = some (.int .i64 (c:Nat))∧w'.cell? ⟨g,2,none⟩ = some (.slice vo M vc)) (by kernel_rfl) ?_ (fun hHeld=>?_)
   ·exact uH H0
   generalize V.drew = U at *
   refine wpAnyH_take (i:=0) (oi:={ dst:=some 36,op:=Op.load 25 (Operand.tmp 2),type:=25,pos := "turns.go:26",after:=#[],guard:=none }) (v:=.agg #[.int .i64 (r:Nat),.int .i64 (c:Nat),.slice wo N wc]) rfl (by kernel_rfl) (by kernel_rfl) (by kernel_rfl) (fun _ _ _ h=>h) (Or.inl ⟨by rfl,?_⟩) (by assumption) ?_
   ·(intro w hSw;(try dsimp only at hSw);go_simp)
   simp only [Act.put,List.setIfInBounds_toArray,List.set_cons_zero,List.set_cons_succ]
   refine wpAnyH_take (i:=1) (oi:={ dst:=some 37,op:=Op.load 25 (Operand.tmp 7),type:=25,pos := "turns.go:26",after:=#[{ on:=2,ground:=Ground.gcOnly Departure.lateStores }],guard:=none }) (v:=.agg #[.int .i64 (c:Nat),.int .i64 (c:Nat),.slice vo M vc]) rfl (by kernel_rfl) (by kernel_rfl) (by kernel_rfl) (fun _ _ _ h=>h) (Or.inl ⟨by rfl,?_⟩) (by assumption) ?_
   ·(intro w hSw;(try dsimp only at hSw);go_simp)
   simp only [Act.put,List.setIfInBounds_toArray,List.set_cons_zero,List.set_cons_succ]
   refine wpAnyH_ready (rs:=[2]) (by kernel_rfl) (by simp) ?_
   refine AllReadyH.cons (o:={ dst:=none,op:=Op.store 25 (Operand.tmp 4) (Operand.tmp 36),type:=0,pos := "turns.go:26",after:=#[{ on:=0,ground:=Ground.data },{ on:=0,ground:=Ground.phase },{ on:=1,ground:=Ground.textOnly Departure.lateStores }],guard:=none }) rfl (fun K hK=>?_) AllReadyH.nil
   go_simp
   refine hK.out _ _ ?_ (fun hHeld=>?_)
   ·exact uH H1
   clear hK K
   refine wpAnyH_ready (rs:=[3]) (by kernel_rfl) (by simp) ?_
   refine AllReadyH.cons (o:={ dst:=none,op:=Op.store 25 (Operand.tmp 5) (Operand.tmp 37),type:=0,pos := "turns.go:26",after:=#[{ on:=1,ground:=Ground.data },{ on:=2,ground:=Ground.chain },{ on:=0,ground:=Ground.phase },{ on:=1,ground:=Ground.phase },{ on:=2,ground:=Ground.phase }],guard:=none }) rfl (fun K hK=>?_) AllReadyH.nil
   go_simp
   refine hK.out _ _ ?_ (fun hHeld=>?_)
   ·exact uH H2
   clear hK K
   refine wpAnyH_take (i:=4) (oi:={ dst:=some 6,op:=Op.assign (Operand.const (Value.bool false)),type:=4,pos := "turns.go:26",after:=#[{ on:=3,ground:=Ground.chain },{ on:=0,ground:=Ground.phase },{ on:=1,ground:=Ground.phase },{ on:=2,ground:=Ground.phase },{ on:=3,ground:=Ground.phase }],guard:=none }) (v:=.bool false) rfl (by kernel_rfl) (by kernel_rfl) (by kernel_rfl) (fun _ _ _ h=>h) (Or.inl ⟨by rfl,?_⟩) (by assumption) ?_
   ·(intro w hSw;(try dsimp only at hSw);go_simp)
   simp only [Act.put,List.setIfInBounds_toArray,List.set_cons_zero,List.set_cons_succ]
   refine wpAnyH_done (by kernel_rfl) ?_ _
   skip
   go_wp2_with fail
   exact bodyPost_ret (v:=.tuple #[.agg #[.int .i64 r,.int .i64 c,.slice wo N wc],.agg #[.int .i64 c,.int .i64 c,.slice vo M vc],.bool false]) (by simp [results,Tryz.results154,go_sem,a0,a1,a2,b0,b1,b2]) rfl ⟨⟨wo,wc,vo,vc,by rw [hst],(uH FIN).2.2.1,(uH FIN).2.2.2.1,(uH FIN).2.2.2.2.2⟩,(uH FIN).2.2.2.2.1⟩
end Go.Proofs.YtdhmglmccafbnaaGreatDoor
namespace Go.Proofs.YtdhmglmccafbnaaGreatDoor
open Go.RowKit
attribute [local go_sem ↓] Go.wp_at_zero Go.wp_at_succ
def sdJ (f:Nat→Bool):Nat→Nat
 | 0=>0
 | j+1=>if f j = true then sdJ f j else j+1
theorem sdJ_le (f:Nat→Bool):∀ j,sdJ f j≤j
 | 0=>Nat.le_refl _
 | j+1=>by
  unfold sdJ
  split
  ·exact Nat.le_succ_of_le (sdJ_le f j)
  ·exact Nat.le_refl _
theorem sdJ_up (f:Nat→Bool):∀ n j,sdJ f n≤j→j < n→f j = true
 | 0,j,_,h=>absurd h (Nat.not_lt_zero _)
 | n+1,j,h1,h2=>by
  unfold sdJ at h1
  split at h1
  ·rename_i hf
   rcases Nat.lt_or_ge j n with e | e
   ·exact sdJ_up f n j h1 e
   ·obtain rfl:j = n:=by omega
    exact hf
  ·omega
theorem sdJ_end (f:Nat→Bool):∀ n,0 < sdJ f n→f (sdJ f n - 1) = false
 | 0,h=>absurd h (Nat.not_lt_zero _)
 | n+1,h=>by
  unfold sdJ at h ⊢
  split at h
  ·rename_i hf
   rw [if_pos hf]
   exact sdJ_end f n h
  ·rename_i hf
   rw [if_neg hf]
   exact Bool.eq_false_iff.2 hf
def sdQ (I:List Nat):Nat→List Nat
 | 0=>[]
 | i+1=>(sdQ I i).take (sdJ (fun j=>ltB (I.getD ((sdQ I i).getD j 0) 0) (I.getD i 0)) i) ++ i :: (sdQ I i).drop (sdJ (fun j=>ltB (I.getD ((sdQ I i).getD j 0) 0) (I.getD i 0)) i)
def sdF (I:List Nat) (i j:Nat):Bool:=ltB (I.getD ((sdQ I i).getD j 0) 0) (I.getD i 0)
def sdA (n:Nat) (I:List Nat) (i j:Nat):List Nat:=(sdQ I i).take j ++ i :: ((sdQ I i).drop j ++ (List.range n).drop (i+1))
theorem sdQ_len (I:List Nat):∀ i,(sdQ I i).length = i
 | 0=>rfl
 | i+1=>by
  have h:=sdQ_len I i
  have hj:=sdJ_le (fun j=>ltB (I.getD ((sdQ I i).getD j 0) 0) (I.getD i 0)) i
  unfold sdQ
  simp only [List.length_append,List.length_take,List.length_cons,List.length_drop,h]
  omega
theorem sdQ_mem (I:List Nat):∀ i,∀ x ∈ sdQ I i,x < i
 | 0,x,h=>by cases h
 | i+1,x,h=>by
  have hi:=sdQ_mem I i
  unfold sdQ at h
  rcases List.mem_append.1 h with e | e
  ·exact Nat.lt_succ_of_lt (hi x (List.mem_of_mem_take e))
  ·rcases List.mem_cons.1 e with e | e
   ·omega
   ·exact Nat.lt_succ_of_lt (hi x (List.mem_of_mem_drop e))
theorem sdA_len {n:Nat} (I:List Nat) {i j:Nat} (hi:i < n) (hj:j≤i):(sdA n I i j).length = n:=by
 unfold sdA
 simp only [List.length_append,List.length_take,List.length_cons,List.length_drop,sdQ_len,List.length_range]
 omega
theorem set_two (A B:List Nat) (x y:Nat):((A ++ x :: y :: B).set (A.length+1) x).set A.length y = A ++ y :: x :: B:=by
 induction A with
 | nil=>rfl
 | cons a A ih=>simp only [List.cons_append,List.length_cons,List.set_cons_succ,ih]
theorem at_two (A B:List Nat) (x y:Nat):(A ++ x :: y :: B)[A.length+1]?.getD 0 = y∧(A ++ x :: y :: B)[A.length]?.getD 0 = x:=by
 induction A with
 | nil=>exact ⟨rfl,rfl⟩
 | cons a A ih=>simpa only [List.cons_append,List.length_cons,List.getElem?_cons_succ] using ih
theorem sdA_step {n:Nat} (I:List Nat) {i j:Nat} (hj:j < i):(sdA n I i (j+1))[j+1]?.getD 0 = i∧(sdA n I i (j+1))[j]?.getD 0 = (sdQ I i).getD j 0∧((sdA n I i (j+1)).set (j+1) ((sdQ I i).getD j 0)).set j i = sdA n I i j:=by
 have hl:=sdQ_len I i
 have h1:(sdQ I i).take (j+1) = (sdQ I i).take j ++ [(sdQ I i).getD j 0]:=by
  rw [List.take_add_one,List.getD_eq_getElem?_getD,List.getElem?_eq_getElem (by omega)]
  rfl
 have h2:(sdQ I i).drop j = (sdQ I i).getD j 0 :: (sdQ I i).drop (j+1):=by
  rw [List.drop_eq_getElem_cons (by omega),List.getD_eq_getElem?_getD,List.getElem?_eq_getElem (by omega)]
  rfl
 have h3:((sdQ I i).take j).length = j:=by rw [List.length_take];omega
 have e1:sdA n I i (j+1) = (sdQ I i).take j ++ (sdQ I i).getD j 0 :: i :: ((sdQ I i).drop (j+1) ++ (List.range n).drop (i+1)):=by
  unfold sdA
  rw [h1,List.append_assoc]
  rfl
 have e2:sdA n I i j = (sdQ I i).take j ++ i :: (sdQ I i).getD j 0 :: ((sdQ I i).drop (j+1) ++ (List.range n).drop (i+1)):=by
  unfold sdA
  rw [h2]
  rfl
 have a:=at_two ((sdQ I i).take j) ((sdQ I i).drop (j+1) ++ (List.range n).drop (i+1)) ((sdQ I i).getD j 0) i
 have b:=set_two ((sdQ I i).take j) ((sdQ I i).drop (j+1) ++ (List.range n).drop (i+1)) ((sdQ I i).getD j 0) i
 rw [h3,← e1] at a b
 rw [← e2] at b
 exact ⟨a.1,a.2,b⟩
theorem range_drop (n i:Nat) (h:i < n):(List.range n).drop i = i :: (List.range n).drop (i+1):=by
 rw [List.drop_eq_getElem_cons (by simpa using h)]
 simp
def sdE (n:Nat) (I:List Nat) (i:Nat):List Nat:=sdQ I i ++ (List.range n).drop i
theorem sdE_in {n:Nat} (I:List Nat) {i:Nat} (hi:i < n):sdE n I i = sdA n I i i:=by
 unfold sdE sdA
 have e1:(sdQ I i).take i = sdQ I i:=List.take_of_length_le (by rw [sdQ_len];exact Nat.le_refl _)
 have e2:(sdQ I i).drop i = []:=List.drop_of_length_le (by rw [sdQ_len];exact Nat.le_refl _)
 rw [range_drop n i hi,e1,e2]
 rfl
theorem sdE_out (n:Nat) (I:List Nat) (i:Nat):sdA n I i (sdJ (sdF I i) i) = sdE n I (i+1):=by
 unfold sdE sdA
 rw [show sdQ I (i+1) = (sdQ I i).take (sdJ (sdF I i) i) ++ i :: (sdQ I i).drop (sdJ (sdF I i) i) from rfl]
 simp
theorem sdE_0 (n:Nat) (I:List Nat):sdE n I 0 = List.range n:=by unfold sdE sdQ;simp
theorem sdE_full (n:Nat) (I:List Nat):sdE n I n = sdQ I n:=by unfold sdE;simp
theorem sdE_1 {n:Nat} (I:List Nat) (hn:0 < n):sdE n I 1 = List.range n:=by
 rw [← sdE_0 n I,sdE_in I hn,← sdE_out]
 rfl
theorem sdins_of (n g fn:Nat) (caps:Array Value) (A:Nat→Nat→List Nat) (P:Nat→Nat→Nat) (J:Nat→Nat) (o:Nat→Nat→Int) (w:World) (h6:n≤1000) (hn:0 < n)
  (hcf:∀ args w,(callFunc fn args).run Tryz.prog w = .ok (.enter fn args) w)
  (hA:∀ i j,i < n→j≤i→(A i j).length = n)
  (hP:∀ i j,i < n→j < i→(A i (j+1))[j+1]?.getD 0 = i∧(A i (j+1))[j]?.getD 0 = P i j∧((A i (j+1)).set (j+1) (P i j)).set j i = A i j∧P i j < n)
  (hJ:∀ i,i < n→J i≤i∧(∀ j,J i≤j→j < i→o i (P i j) < 0)∧∀ j,J i = j+1→¬ o i (P i j) < 0)
  (hN:∀ i,i+1 < n→A i (J i) = A (i+1) (i+1)) (E:List Nat) (hE:∀ i,i+1 = n→A i (J i) = E) (hR:1 < n→RowI w g (A 1 1)) (hR1:n = 1→RowI w g E)
  (C:∀ w',w.grownBy w' (some g)→∀ x y,x < n→y < n→Calls Tryz.prog fn (#[.int .i64 (x:Nat),.int .i64 (y:Nat)] ++ caps) w' fun e w''=>e = .returned (.int .i64 (o x y))∧Below w'.heap.size w' w'') :
  Calls Tryz.prog 272 #[.slice (some ⟨g,0,none⟩) n n,.int .i64 0,.int .i64 n,.func (.func fn) #[] caps] w fun e w'=>e = .returned (.tuple #[])∧RowI w' g E∧w.grownBy w' (some g):=by
 have KC:=hide C;have KA:=hide hA;have KP:=hide hP;have KJ:=hide hJ;have KN:=hide hN;have KE:=hide hE
 have RR:=hide (show RowI w g (if n = 1 then E else A 1 1) from by
  by_cases e:n = 1
  ·rw [if_pos e];exact hR1 e
  ·rw [if_neg e];exact hR (by omega))
 have G0:=hide (grown_below14 (Below.refl w.heap.size w) (some g))
 clear C hA hP hJ hN hE hR hR1
 go_enter Tryz.func272,Tryz.ntmps272
 go_wp2_with fail
 go_loopw [8] (fun a wr=>∃ i:Nat,0 < i∧i≤n∧a = .int .i64 i∧Hid (RowI wr g (if n = i then E else A i i))∧Hid (w.grownBy wr (some g))) (fun a _=>n - (intOf a).toNat)
 case atStart=>exact ⟨1,by omega,by omega,rfl,RR,G0⟩
 case round =>
  clear RR G0
  obtain ⟨i,h0,hi,rfl,hS,hG⟩:=hrel
  by_cases hlt:i < n
  ·have hiI:(i:Int) < (n:Int):=by omega
   have hS2:=hide (show RowI wr g (A i i) from by have:=uH hS;rwa [if_neg (by omega)] at this)
   clear hS
   obtain ⟨j1,j2,j3⟩:=uH KJ i hlt
   have J1:=hide j1;have J2:=hide j2;have J3:=hide j3
   clear j1 j2 j3
   go_wp2_with fail
   go_loopw [9] (fun a wq=>∃ j:Nat,J i≤j∧j≤i∧a = .int .i64 j∧Hid (RowI wq g (A i j))∧Hid (w.grownBy wq (some g))) (fun a _=>(intOf a).toNat)
   case atStart=>exact ⟨i,uH J1,Nat.le_refl _,rfl,hS2,hG⟩
   case round =>
    clear hS2 hG
    obtain ⟨m,h2,h3,rfl,hS,hG⟩:=hrel
    rcases Nat.eq_zero_or_pos m with hz | hz
    ·subst hz
     have hj0:J i = 0:=by omega
     have hG3:=hide (grown_trans14 (uH hG) (grown_below14 ((Below.refl wr.heap.size wr).drew) (some g)))
     have hS3:=hide (show RowI _ g (if n = i+1 then E else A (i+1) (i+1)) from by
      have:=uH hS
      by_cases e:n = i+1
      ·rw [if_pos e,← uH KE i e.symm,hj0];exact this
      ·rw [if_neg e,← uH KN i (by omega),hj0];exact this)
     clear hS hG J2 J3
     rw [show ((0:Nat):Int) = 0 from rfl]
     go_wp2_with fail
     refine wp_region_held_drew (S:=fun w'=>True) (by kernel_rfl) ?_ (fun hHeld=>?_)
     ·exact trivial
     refine wpAnyH_take (i:=0) (oi:={ dst:=some 18,op:=Op.move (Operand.tmp 9),type:=3,pos := "zsortanyfunc.go:12",after:=#[],guard:=none }) (v:=.int .i64 0) rfl (by kernel_rfl) (by kernel_rfl) (by kernel_rfl) (fun _ _ _ h=>h) (Or.inl ⟨by rfl,?_⟩) (by assumption) ?_
     ·(intro w hSw;(try dsimp only at hSw);go_simp)
     simp only [Act.put,List.setIfInBounds_toArray,List.set_cons_zero,List.set_cons_succ]
     refine wpAnyH_take (i:=1) (oi:={ dst:=some 19,op:=Op.move (Operand.tmp 1),type:=3,pos := "zsortanyfunc.go:12",after:=#[],guard:=none }) (v:=.int .i64 0) rfl (by kernel_rfl) (by kernel_rfl) (by kernel_rfl) (fun _ _ _ h=>h) (Or.inl ⟨by rfl,?_⟩) (by assumption) ?_
     ·(intro w hSw;(try dsimp only at hSw);go_simp)
     simp only [Act.put,List.setIfInBounds_toArray,List.set_cons_zero,List.set_cons_succ]
     refine wpAnyH_take (i:=2) (oi:={ dst:=some 20,op:=Op.binOp BinOp.gtr 3 (Operand.tmp 18) (Operand.tmp 19) 3,type:=4,pos := "zsortanyfunc.go:12",after:=#[{ on:=0,ground:=Ground.data },{ on:=1,ground:=Ground.data }],guard:=none }) (v:=.bool false) rfl (by kernel_rfl) (by kernel_rfl) (by kernel_rfl) (fun _ _ _ h=>h) (Or.inl ⟨by rfl,?_⟩) (by assumption) ?_
     ·(intro w hSw;(try dsimp only at hSw);go_simp)
     simp only [Act.put,List.setIfInBounds_toArray,List.set_cons_zero,List.set_cons_succ]
     refine wpAnyH_take (i:=3) (oi:={ dst:=some 21,op:=Op.move (Operand.tmp 20),type:=4,pos := "zsortanyfunc.go:12",after:=#[{ on:=2,ground:=Ground.data }],guard:=none }) (v:=.bool false) rfl (by kernel_rfl) (by kernel_rfl) (by kernel_rfl) (fun _ _ _ h=>h) (Or.inl ⟨by rfl,?_⟩) (by assumption) ?_
     ·(intro w hSw;(try dsimp only at hSw);go_simp)
     simp only [Act.put,List.setIfInBounds_toArray,List.set_cons_zero,List.set_cons_succ]
     refine wpAnyH_take (i:=4) (oi:={ dst:=some 22,op:=Op.move (Operand.tmp 3),type:=199,pos := "zsortanyfunc.go:12",after:=#[{ on:=3,ground:=Ground.guard }],guard:=some (3,true) }) (v:=undef) rfl (by kernel_rfl) (by kernel_rfl) (by kernel_rfl) (fun _ _ _ h=>h) (Or.inr ⟨by rfl,rfl⟩) (by assumption) ?_
     simp only [Act.put,List.setIfInBounds_toArray,List.set_cons_zero,List.set_cons_succ]
     refine wpAnyH_take (i:=5) (oi:={ dst:=some 23,op:=Op.move (Operand.tmp 0),type:=118,pos := "zsortanyfunc.go:12",after:=#[{ on:=3,ground:=Ground.guard }],guard:=some (3,true) }) (v:=undef) rfl (by kernel_rfl) (by kernel_rfl) (by kernel_rfl) (fun _ _ _ h=>h) (Or.inr ⟨by rfl,rfl⟩) (by assumption) ?_
     simp only [Act.put,List.setIfInBounds_toArray,List.set_cons_zero,List.set_cons_succ]
     refine wpAnyH_take (i:=6) (oi:={ dst:=some 24,op:=Op.move (Operand.tmp 9),type:=3,pos := "zsortanyfunc.go:12",after:=#[{ on:=3,ground:=Ground.guard }],guard:=some (3,true) }) (v:=undef) rfl (by kernel_rfl) (by kernel_rfl) (by kernel_rfl) (fun _ _ _ h=>h) (Or.inr ⟨by rfl,rfl⟩) (by assumption) ?_
     simp only [Act.put,List.setIfInBounds_toArray,List.set_cons_zero,List.set_cons_succ]
     refine wpAnyH_take (i:=7) (oi:={ dst:=some 25,op:=Op.indexAddr 118 (Operand.tmp 23) (Operand.tmp 24),type:=0,pos := "zsortanyfunc.go:12",after:=#[{ on:=5,ground:=Ground.data },{ on:=6,ground:=Ground.data },{ on:=3,ground:=Ground.guard }],guard:=some (3,true) }) (v:=undef) rfl (by kernel_rfl) (by kernel_rfl) (by kernel_rfl) (fun _ _ _ h=>h) (Or.inr ⟨by rfl,rfl⟩) (by assumption) ?_
     simp only [Act.put,List.setIfInBounds_toArray,List.set_cons_zero,List.set_cons_succ]
     refine wpAnyH_take (i:=8) (oi:={ dst:=some 26,op:=Op.load 3 (Operand.tmp 25),type:=3,pos := "zsortanyfunc.go:12",after:=#[{ on:=7,ground:=Ground.data },{ on:=3,ground:=Ground.guard }],guard:=some (3,true) }) (v:=undef) rfl (by kernel_rfl) (by kernel_rfl) (by kernel_rfl) (fun _ _ _ h=>h) (Or.inr ⟨by rfl,rfl⟩) (by assumption) ?_
     simp only [Act.put,List.setIfInBounds_toArray,List.set_cons_zero,List.set_cons_succ]
     refine wpAnyH_take (i:=9) (oi:={ dst:=some 27,op:=Op.move (Operand.tmp 0),type:=118,pos := "zsortanyfunc.go:12",after:=#[{ on:=3,ground:=Ground.guard }],guard:=some (3,true) }) (v:=undef) rfl (by kernel_rfl) (by kernel_rfl) (by kernel_rfl) (fun _ _ _ h=>h) (Or.inr ⟨by rfl,rfl⟩) (by assumption) ?_
     simp only [Act.put,List.setIfInBounds_toArray,List.set_cons_zero,List.set_cons_succ]
     refine wpAnyH_take (i:=10) (oi:={ dst:=some 28,op:=Op.move (Operand.tmp 9),type:=3,pos := "zsortanyfunc.go:12",after:=#[{ on:=3,ground:=Ground.guard }],guard:=some (3,true) }) (v:=undef) rfl (by kernel_rfl) (by kernel_rfl) (by kernel_rfl) (fun _ _ _ h=>h) (Or.inr ⟨by rfl,rfl⟩) (by assumption) ?_
     simp only [Act.put,List.setIfInBounds_toArray,List.set_cons_zero,List.set_cons_succ]
     refine wpAnyH_take (i:=11) (oi:={ dst:=some 29,op:=Op.binOp BinOp.sub 3 (Operand.tmp 28) (Operand.const (Value.int IntKind.i64 1)) 3,type:=3,pos := "zsortanyfunc.go:12",after:=#[{ on:=10,ground:=Ground.data },{ on:=3,ground:=Ground.guard }],guard:=some (3,true) }) (v:=undef) rfl (by kernel_rfl) (by kernel_rfl) (by kernel_rfl) (fun _ _ _ h=>h) (Or.inr ⟨by rfl,rfl⟩) (by assumption) ?_
     simp only [Act.put,List.setIfInBounds_toArray,List.set_cons_zero,List.set_cons_succ]
     refine wpAnyH_take (i:=12) (oi:={ dst:=some 30,op:=Op.indexAddr 118 (Operand.tmp 27) (Operand.tmp 29),type:=0,pos := "zsortanyfunc.go:12",after:=#[{ on:=9,ground:=Ground.data },{ on:=11,ground:=Ground.data },{ on:=3,ground:=Ground.guard }],guard:=some (3,true) }) (v:=undef) rfl (by kernel_rfl) (by kernel_rfl) (by kernel_rfl) (fun _ _ _ h=>h) (Or.inr ⟨by rfl,rfl⟩) (by assumption) ?_
     simp only [Act.put,List.setIfInBounds_toArray,List.set_cons_zero,List.set_cons_succ]
     refine wpAnyH_take (i:=13) (oi:={ dst:=some 31,op:=Op.load 3 (Operand.tmp 30),type:=3,pos := "zsortanyfunc.go:12",after:=#[{ on:=12,ground:=Ground.data },{ on:=3,ground:=Ground.guard }],guard:=some (3,true) }) (v:=undef) rfl (by kernel_rfl) (by kernel_rfl) (by kernel_rfl) (fun _ _ _ h=>h) (Or.inr ⟨by rfl,rfl⟩) (by assumption) ?_
     simp only [Act.put,List.setIfInBounds_toArray,List.set_cons_zero,List.set_cons_succ]
     refine wpAnyH_take (i:=14) (oi:={ dst:=some 32,op:=Op.call { callee:=Callee.value (Operand.tmp 22),args:=#[Operand.tmp 26,Operand.tmp 31],argTypes:=#[3,3] },type:=3,pos := "zsortanyfunc.go:12",after:=#[{ on:=4,ground:=Ground.data },{ on:=8,ground:=Ground.data },{ on:=13,ground:=Ground.data },{ on:=3,ground:=Ground.chain },{ on:=3,ground:=Ground.guard }],guard:=some (3,true) }) (v:=undef) rfl (by kernel_rfl) (by kernel_rfl) (by kernel_rfl) (fun _ _ _ h=>h) (Or.inr ⟨by rfl,rfl⟩) (by assumption) ?_
     simp only [Act.put,List.setIfInBounds_toArray,List.set_cons_zero,List.set_cons_succ]
     refine wpAnyH_take (i:=15) (oi:={ dst:=some 33,op:=Op.binOp BinOp.lss 3 (Operand.tmp 32) (Operand.const (Value.int IntKind.i64 0)) 3,type:=4,pos := "zsortanyfunc.go:12",after:=#[{ on:=14,ground:=Ground.data },{ on:=3,ground:=Ground.guard }],guard:=some (3,true) }) (v:=undef) rfl (by kernel_rfl) (by kernel_rfl) (by kernel_rfl) (fun _ _ _ h=>h) (Or.inr ⟨by rfl,rfl⟩) (by assumption) ?_
     simp only [Act.put,List.setIfInBounds_toArray,List.set_cons_zero,List.set_cons_succ]
     refine wpAnyH_take (i:=16) (oi:={ dst:=some 34,op:=Op.pick (Operand.tmp 21) (Operand.tmp 33) (Operand.const (Value.bool false)),type:=4,pos := "zsortanyfunc.go:12",after:=#[{ on:=3,ground:=Ground.data },{ on:=15,ground:=Ground.data }],guard:=none }) (v:=.bool false) rfl (by kernel_rfl) (by kernel_rfl) (by kernel_rfl) (fun _ _ _ h=>h) (Or.inl ⟨by rfl,?_⟩) (by assumption) ?_
     ·(intro w hSw;(try dsimp only at hSw);go_simp)
     simp only [Act.put,List.setIfInBounds_toArray,List.set_cons_zero,List.set_cons_succ]
     refine wpAnyH_done (by kernel_rfl) ?_ _
     go_wp2_with fail
     go_round
     case rel=>exact ⟨i+1,by omega,by omega,by go_num,hS3,hG3⟩
     case measure=>simp [intOf];omega
    ·obtain ⟨j,hj⟩:∃ j,m = j+1:=⟨m - 1,by omega⟩
     have hji:j < i:=by omega
     have hmI:(0:Int) < (m:Int):=by omega
     have hmn:(m:Int) < (n:Int):=by omega
     have hjn:(j:Int) < (n:Int):=by omega
     have e1:IntKind.i64.wrap ((m:Int) - 1) = (j:Int):=(wrap_in _ (by omega)).trans (by omega)
     have e2:(m:Int) - 1 = (j:Int):=by omega
     have e3:IntKind.i64.wrap (j:Int) = (j:Int):=wrap_in _ (by omega)
     obtain ⟨p1,p2,p3,p4⟩:=uH KP i j hlt hji
     have KO:=hide (show o i (P i j) < 0 ↔ J i≤j from by
      constructor
      ·intro q
       rcases Nat.lt_or_ge j (J i) with z | z
       ·have:=uH J3 j (by omega)
        exact absurd q (by omega)
       ·exact z
      ·intro q
       exact uH J2 j q hji)
     have KC2:=hide (fun w' hb=>uH KC w' hb i (P i j) hlt p4)
     rw [← hj] at p1 p2 p3
     have S2:=hide (show ∀ W,RowI W g (A i m)→RowI ((W.setCell ⟨g,m,none⟩ (.int .i64 (P i j:Nat))).setCell ⟨g,j,none⟩ (.int .i64 (i:Nat))) g (A i j) from fun W h=>by
      have:=(h.set m (P i j)).set j i
      rwa [p3] at this)
     have LA:=hide (uH KA i m hlt h3)
     have PP:=hide (And.intro p1 p2)
     generalize hx:P i j = y at *
     generalize hov:o i y = ov at *
     clear p1 p2 p3 p4 J2 J3 hx hov
     have HJ:=hide hj;have HJI:=hide hji
     clear hj
     refine at_world (fun W=>RowI W g (A i m)∧w.grownBy W (some g)) ⟨uH hS,uH hG⟩ ?_
     clear hS hG
     rintro W ⟨hs,hg⟩
     have HDD:=hide (show W.cell? ⟨g,m,none⟩ = some (.int .i64 (i:Nat))∧W.cell? ⟨g,j,none⟩ = some (.int .i64 (y:Nat)) from by
      have c1:=hs.cell m (by rw [uH LA];omega)
      have c2:=hs.cell j (by rw [uH LA];omega)
      rw [(uH PP).1] at c1
      rw [(uH PP).2] at c2
      exact ⟨c1,c2⟩)
     have HD:=hide (show W.drew.cell? ⟨g,m,none⟩ = some (.int .i64 (i:Nat))∧W.drew.cell? ⟨g,j,none⟩ = some (.int .i64 (y:Nat)) from uH HDD)
     have HS:=hide (show RowI W.drew g (A i m) from hs)
     have HG:=hide (grown_trans14 hg (grown_below14 (Below.refl W.heap.size W).drew (some g)))
     clear hs hg
     go_wp2_with fail
     by_cases hJj:J i≤j
     ·have hO:ov < 0:=(uH KO).2 hJj
      refine wp_region_held_drew (S:=fun w'=>w'.cell? ⟨g,m,none⟩ = some (.int .i64 (i:Nat))∧w'.cell? ⟨g,j,none⟩ = some (.int .i64 (y:Nat))) (by kernel_rfl) ?_ (fun hHeld=>?_)
      ·exact uH HD
      refine wpAnyH_take (i:=0) (oi:={ dst:=some 18,op:=Op.move (Operand.tmp 9),type:=3,pos := "zsortanyfunc.go:12",after:=#[],guard:=none }) (v:=.int .i64 (m:Nat)) rfl (by kernel_rfl) (by kernel_rfl) (by kernel_rfl) (fun _ _ _ h=>h) (Or.inl ⟨by rfl,?_⟩) (by assumption) ?_
      ·(intro w hSw;(try dsimp only at hSw);go_simp)
      simp only [Act.put,List.setIfInBounds_toArray,List.set_cons_zero,List.set_cons_succ]
      refine wpAnyH_take (i:=1) (oi:={ dst:=some 19,op:=Op.move (Operand.tmp 1),type:=3,pos := "zsortanyfunc.go:12",after:=#[],guard:=none }) (v:=.int .i64 0) rfl (by kernel_rfl) (by kernel_rfl) (by kernel_rfl) (fun _ _ _ h=>h) (Or.inl ⟨by rfl,?_⟩) (by assumption) ?_
      ·(intro w hSw;(try dsimp only at hSw);go_simp)
      simp only [Act.put,List.setIfInBounds_toArray,List.set_cons_zero,List.set_cons_succ]
      refine wpAnyH_take (i:=2) (oi:={ dst:=some 20,op:=Op.binOp BinOp.gtr 3 (Operand.tmp 18) (Operand.tmp 19) 3,type:=4,pos := "zsortanyfunc.go:12",after:=#[{ on:=0,ground:=Ground.data },{ on:=1,ground:=Ground.data }],guard:=none }) (v:=.bool true) rfl (by kernel_rfl) (by kernel_rfl) (by kernel_rfl) (fun _ _ _ h=>h) (Or.inl ⟨by rfl,?_⟩) (by assumption) ?_
      ·(intro w hSw;(try dsimp only at hSw);go_simp)
      simp only [Act.put,List.setIfInBounds_toArray,List.set_cons_zero,List.set_cons_succ]
      refine wpAnyH_take (i:=3) (oi:={ dst:=some 21,op:=Op.move (Operand.tmp 20),type:=4,pos := "zsortanyfunc.go:12",after:=#[{ on:=2,ground:=Ground.data }],guard:=none }) (v:=.bool true) rfl (by kernel_rfl) (by kernel_rfl) (by kernel_rfl) (fun _ _ _ h=>h) (Or.inl ⟨by rfl,?_⟩) (by assumption) ?_
      ·(intro w hSw;(try dsimp only at hSw);go_simp)
      simp only [Act.put,List.setIfInBounds_toArray,List.set_cons_zero,List.set_cons_succ]
      refine wpAnyH_take (i:=4) (oi:={ dst:=some 22,op:=Op.move (Operand.tmp 3),type:=199,pos := "zsortanyfunc.go:12",after:=#[{ on:=3,ground:=Ground.guard }],guard:=some (3,true) }) (v:=.func (.func fn) #[] caps) rfl (by kernel_rfl) (by kernel_rfl) (by kernel_rfl) (fun _ _ _ h=>h) (Or.inl ⟨by rfl,?_⟩) (by assumption) ?_
      ·(intro w hSw;(try dsimp only at hSw);go_simp)
      simp only [Act.put,List.setIfInBounds_toArray,List.set_cons_zero,List.set_cons_succ]
      refine wpAnyH_take (i:=5) (oi:={ dst:=some 23,op:=Op.move (Operand.tmp 0),type:=118,pos := "zsortanyfunc.go:12",after:=#[{ on:=3,ground:=Ground.guard }],guard:=some (3,true) }) (v:=.slice (some ⟨g,0,none⟩) n n) rfl (by kernel_rfl) (by kernel_rfl) (by kernel_rfl) (fun _ _ _ h=>h) (Or.inl ⟨by rfl,?_⟩) (by assumption) ?_
      ·(intro w hSw;(try dsimp only at hSw);go_simp)
      simp only [Act.put,List.setIfInBounds_toArray,List.set_cons_zero,List.set_cons_succ]
      refine wpAnyH_take (i:=6) (oi:={ dst:=some 24,op:=Op.move (Operand.tmp 9),type:=3,pos := "zsortanyfunc.go:12",after:=#[{ on:=3,ground:=Ground.guard }],guard:=some (3,true) }) (v:=.int .i64 (m:Nat)) rfl (by kernel_rfl) (by kernel_rfl) (by kernel_rfl) (fun _ _ _ h=>h) (Or.inl ⟨by rfl,?_⟩) (by assumption) ?_
      ·(intro w hSw;(try dsimp only at hSw);go_simp)
      simp only [Act.put,List.setIfInBounds_toArray,List.set_cons_zero,List.set_cons_succ]
      refine wpAnyH_take (i:=7) (oi:={ dst:=some 25,op:=Op.indexAddr 118 (Operand.tmp 23) (Operand.tmp 24),type:=0,pos := "zsortanyfunc.go:12",after:=#[{ on:=5,ground:=Ground.data },{ on:=6,ground:=Ground.data },{ on:=3,ground:=Ground.guard }],guard:=some (3,true) }) (v:=.pointer (some ⟨g,m,none⟩)) rfl (by kernel_rfl) (by kernel_rfl) (by kernel_rfl) (fun _ _ _ h=>h) (Or.inl ⟨by rfl,?_⟩) (by assumption) ?_
      ·(intro w hSw;(try dsimp only at hSw);go_simp)
      simp only [Act.put,List.setIfInBounds_toArray,List.set_cons_zero,List.set_cons_succ]
      refine wpAnyH_take (i:=8) (oi:={ dst:=some 26,op:=Op.load 3 (Operand.tmp 25),type:=3,pos := "zsortanyfunc.go:12",after:=#[{ on:=7,ground:=Ground.data },{ on:=3,ground:=Ground.guard }],guard:=some (3,true) }) (v:=.int .i64 (i:Nat)) rfl (by kernel_rfl) (by kernel_rfl) (by kernel_rfl) (fun _ _ _ h=>h) (Or.inl ⟨by rfl,?_⟩) (by assumption) ?_
      ·(intro w hSw;(try dsimp only at hSw);go_simp)
      simp only [Act.put,List.setIfInBounds_toArray,List.set_cons_zero,List.set_cons_succ]
      refine wpAnyH_take (i:=9) (oi:={ dst:=some 27,op:=Op.move (Operand.tmp 0),type:=118,pos := "zsortanyfunc.go:12",after:=#[{ on:=3,ground:=Ground.guard }],guard:=some (3,true) }) (v:=.slice (some ⟨g,0,none⟩) n n) rfl (by kernel_rfl) (by kernel_rfl) (by kernel_rfl) (fun _ _ _ h=>h) (Or.inl ⟨by rfl,?_⟩) (by assumption) ?_
      ·(intro w hSw;(try dsimp only at hSw);go_simp)
      simp only [Act.put,List.setIfInBounds_toArray,List.set_cons_zero,List.set_cons_succ]
      refine wpAnyH_take (i:=10) (oi:={ dst:=some 28,op:=Op.move (Operand.tmp 9),type:=3,pos := "zsortanyfunc.go:12",after:=#[{ on:=3,ground:=Ground.guard }],guard:=some (3,true) }) (v:=.int .i64 (m:Nat)) rfl (by kernel_rfl) (by kernel_rfl) (by kernel_rfl) (fun _ _ _ h=>h) (Or.inl ⟨by rfl,?_⟩) (by assumption) ?_
      ·(intro w hSw;(try dsimp only at hSw);go_simp)
      simp only [Act.put,List.setIfInBounds_toArray,List.set_cons_zero,List.set_cons_succ]
      refine wpAnyH_take (i:=11) (oi:={ dst:=some 29,op:=Op.binOp BinOp.sub 3 (Operand.tmp 28) (Operand.const (Value.int IntKind.i64 1)) 3,type:=3,pos := "zsortanyfunc.go:12",after:=#[{ on:=10,ground:=Ground.data },{ on:=3,ground:=Ground.guard }],guard:=some (3,true) }) (v:=.int .i64 (j:Nat)) rfl (by kernel_rfl) (by kernel_rfl) (by kernel_rfl) (fun _ _ _ h=>h) (Or.inl ⟨by rfl,?_⟩) (by assumption) ?_
      ·(intro w hSw;(try dsimp only at hSw);go_simp)
      simp only [Act.put,List.setIfInBounds_toArray,List.set_cons_zero,List.set_cons_succ]
      refine wpAnyH_take (i:=12) (oi:={ dst:=some 30,op:=Op.indexAddr 118 (Operand.tmp 27) (Operand.tmp 29),type:=0,pos := "zsortanyfunc.go:12",after:=#[{ on:=9,ground:=Ground.data },{ on:=11,ground:=Ground.data },{ on:=3,ground:=Ground.guard }],guard:=some (3,true) }) (v:=.pointer (some ⟨g,j,none⟩)) rfl (by kernel_rfl) (by kernel_rfl) (by kernel_rfl) (fun _ _ _ h=>h) (Or.inl ⟨by rfl,?_⟩) (by assumption) ?_
      ·(intro w hSw;(try dsimp only at hSw);go_simp)
      simp only [Act.put,List.setIfInBounds_toArray,List.set_cons_zero,List.set_cons_succ]
      refine wpAnyH_take (i:=13) (oi:={ dst:=some 31,op:=Op.load 3 (Operand.tmp 30),type:=3,pos := "zsortanyfunc.go:12",after:=#[{ on:=12,ground:=Ground.data },{ on:=3,ground:=Ground.guard }],guard:=some (3,true) }) (v:=.int .i64 (y:Nat)) rfl (by kernel_rfl) (by kernel_rfl) (by kernel_rfl) (fun _ _ _ h=>h) (Or.inl ⟨by rfl,?_⟩) (by assumption) ?_
      ·(intro w hSw;(try dsimp only at hSw);go_simp)
      simp only [Act.put,List.setIfInBounds_toArray,List.set_cons_zero,List.set_cons_succ]
      refine wpAnyH_ready (rs:=[14]) (by kernel_rfl) (by simp) ?_
      refine AllReadyH.cons (o:={ dst:=some 32,op:=Op.call { callee:=Callee.value (Operand.tmp 22),args:=#[Operand.tmp 26,Operand.tmp 31],argTypes:=#[3,3] },type:=3,pos := "zsortanyfunc.go:12",after:=#[{ on:=4,ground:=Ground.data },{ on:=8,ground:=Ground.data },{ on:=13,ground:=Ground.data },{ on:=3,ground:=Ground.chain },{ on:=3,ground:=Ground.guard }],guard:=some (3,true) }) rfl (fun K hK=>?_) AllReadyH.nil
      go_simp
      refine (uH KC2 _ (uH HG)).mono ?_
      rintro e w5 ⟨rfl,hb⟩
      have R5:=hide ((uH HS).below hb (uH HS).lt);have G5:=hide (grown_trans14 (uH HG) (grown_below14 hb (some g)));have D5:=hide (And.intro (cell_keep (uH HD).1 hb) (cell_keep (uH HD).2 hb))
      clear hb
      go_wp2_with fail
      refine hK.out _ _ ?_ (fun hHeld=>?_)
      ·exact uH D5
      clear hK K
      refine wpAnyH_take (i:=15) (oi:={ dst:=some 33,op:=Op.binOp BinOp.lss 3 (Operand.tmp 32) (Operand.const (Value.int IntKind.i64 0)) 3,type:=4,pos := "zsortanyfunc.go:12",after:=#[{ on:=14,ground:=Ground.data },{ on:=3,ground:=Ground.guard }],guard:=some (3,true) }) (v:=.bool true) rfl (by kernel_rfl) (by kernel_rfl) (by kernel_rfl) (fun _ _ _ h=>h) (Or.inl ⟨by rfl,?_⟩) (by assumption) ?_
      ·(intro w hSw;(try dsimp only at hSw);go_simp)
      simp only [Act.put,List.setIfInBounds_toArray,List.set_cons_zero,List.set_cons_succ]
      refine wpAnyH_take (i:=16) (oi:={ dst:=some 34,op:=Op.pick (Operand.tmp 21) (Operand.tmp 33) (Operand.const (Value.bool false)),type:=4,pos := "zsortanyfunc.go:12",after:=#[{ on:=3,ground:=Ground.data },{ on:=15,ground:=Ground.data }],guard:=none }) (v:=.bool true) rfl (by kernel_rfl) (by kernel_rfl) (by kernel_rfl) (fun _ _ _ h=>h) (Or.inl ⟨by rfl,?_⟩) (by assumption) ?_
      ·(intro w hSw;(try dsimp only at hSw);go_simp)
      simp only [Act.put,List.setIfInBounds_toArray,List.set_cons_zero,List.set_cons_succ]
      refine wpAnyH_done (by kernel_rfl) ?_ _
      clear KC2 HS HG HD HDD
      go_wp2_with fail
      refine at_world (fun W=>RowI W g (A i m)∧w.grownBy W (some g)) ⟨uH R5,uH G5⟩ ?_
      clear R5 G5 D5
      rintro V ⟨hs,hg⟩
      have c1:=hs.cell m (by rw [uH LA];omega)
      have c2:=hs.cell j (by rw [uH LA];omega)
      rw [(uH PP).1] at c1
      rw [(uH PP).2] at c2
      have f1:=hs.free m
      have f2:=hs.free j
      have T1:=hs.set m y
      have f3:=T1.free j
      have d3:=T1.cell j (by rw [List.length_set,uH LA];omega)
      generalize (((A i m).set m y)[j]?.getD 0) = u3 at d3
      have T2:=hide (uH S2 V hs)
      have G2:=hide (grown_trans14 (grown_trans14 hg (grown_set14 V g m (.int .i64 (y:Nat)))) (grown_set14 _ g j (.int .i64 (i:Nat))))
      clear hs hg T1
      go_region_with (fail "NO ARM")
      all_goals
       go_wp2_with fail
       go_round
       case rel=>exact ⟨j,by omega,by omega,by go_num,T2,hide (grown_trans14 (uH G2) (grown_below14 (Below.refl _ _).drew (some g)))⟩
       case measure=>have:=uH HJ;simp [intOf];omega
     ·have hO:¬ ov < 0:=fun q=>hJj ((uH KO).1 q)
      have hJm:J i = m:=by have:=uH HJ;omega
      refine wp_region_held_drew (S:=fun w'=>w'.cell? ⟨g,m,none⟩ = some (.int .i64 (i:Nat))∧w'.cell? ⟨g,j,none⟩ = some (.int .i64 (y:Nat))) (by kernel_rfl) ?_ (fun hHeld=>?_)
      ·exact uH HD
      refine wpAnyH_take (i:=0) (oi:={ dst:=some 18,op:=Op.move (Operand.tmp 9),type:=3,pos := "zsortanyfunc.go:12",after:=#[],guard:=none }) (v:=.int .i64 (m:Nat)) rfl (by kernel_rfl) (by kernel_rfl) (by kernel_rfl) (fun _ _ _ h=>h) (Or.inl ⟨by rfl,?_⟩) (by assumption) ?_
      ·(intro w hSw;(try dsimp only at hSw);go_simp)
      simp only [Act.put,List.setIfInBounds_toArray,List.set_cons_zero,List.set_cons_succ]
      refine wpAnyH_take (i:=1) (oi:={ dst:=some 19,op:=Op.move (Operand.tmp 1),type:=3,pos := "zsortanyfunc.go:12",after:=#[],guard:=none }) (v:=.int .i64 0) rfl (by kernel_rfl) (by kernel_rfl) (by kernel_rfl) (fun _ _ _ h=>h) (Or.inl ⟨by rfl,?_⟩) (by assumption) ?_
      ·(intro w hSw;(try dsimp only at hSw);go_simp)
      simp only [Act.put,List.setIfInBounds_toArray,List.set_cons_zero,List.set_cons_succ]
      refine wpAnyH_take (i:=2) (oi:={ dst:=some 20,op:=Op.binOp BinOp.gtr 3 (Operand.tmp 18) (Operand.tmp 19) 3,type:=4,pos := "zsortanyfunc.go:12",after:=#[{ on:=0,ground:=Ground.data },{ on:=1,ground:=Ground.data }],guard:=none }) (v:=.bool true) rfl (by kernel_rfl) (by kernel_rfl) (by kernel_rfl) (fun _ _ _ h=>h) (Or.inl ⟨by rfl,?_⟩) (by assumption) ?_
      ·(intro w hSw;(try dsimp only at hSw);go_simp)
      simp only [Act.put,List.setIfInBounds_toArray,List.set_cons_zero,List.set_cons_succ]
      refine wpAnyH_take (i:=3) (oi:={ dst:=some 21,op:=Op.move (Operand.tmp 20),type:=4,pos := "zsortanyfunc.go:12",after:=#[{ on:=2,ground:=Ground.data }],guard:=none }) (v:=.bool true) rfl (by kernel_rfl) (by kernel_rfl) (by kernel_rfl) (fun _ _ _ h=>h) (Or.inl ⟨by rfl,?_⟩) (by assumption) ?_
      ·(intro w hSw;(try dsimp only at hSw);go_simp)
      simp only [Act.put,List.setIfInBounds_toArray,List.set_cons_zero,List.set_cons_succ]
      refine wpAnyH_take (i:=4) (oi:={ dst:=some 22,op:=Op.move (Operand.tmp 3),type:=199,pos := "zsortanyfunc.go:12",after:=#[{ on:=3,ground:=Ground.guard }],guard:=some (3,true) }) (v:=.func (.func fn) #[] caps) rfl (by kernel_rfl) (by kernel_rfl) (by kernel_rfl) (fun _ _ _ h=>h) (Or.inl ⟨by rfl,?_⟩) (by assumption) ?_
      ·(intro w hSw;(try dsimp only at hSw);go_simp)
      simp only [Act.put,List.setIfInBounds_toArray,List.set_cons_zero,List.set_cons_succ]
      refine wpAnyH_take (i:=5) (oi:={ dst:=some 23,op:=Op.move (Operand.tmp 0),type:=118,pos := "zsortanyfunc.go:12",after:=#[{ on:=3,ground:=Ground.guard }],guard:=some (3,true) }) (v:=.slice (some ⟨g,0,none⟩) n n) rfl (by kernel_rfl) (by kernel_rfl) (by kernel_rfl) (fun _ _ _ h=>h) (Or.inl ⟨by rfl,?_⟩) (by assumption) ?_
      ·(intro w hSw;(try dsimp only at hSw);go_simp)
      simp only [Act.put,List.setIfInBounds_toArray,List.set_cons_zero,List.set_cons_succ]
      refine wpAnyH_take (i:=6) (oi:={ dst:=some 24,op:=Op.move (Operand.tmp 9),type:=3,pos := "zsortanyfunc.go:12",after:=#[{ on:=3,ground:=Ground.guard }],guard:=some (3,true) }) (v:=.int .i64 (m:Nat)) rfl (by kernel_rfl) (by kernel_rfl) (by kernel_rfl) (fun _ _ _ h=>h) (Or.inl ⟨by rfl,?_⟩) (by assumption) ?_
      ·(intro w hSw;(try dsimp only at hSw);go_simp)
      simp only [Act.put,List.setIfInBounds_toArray,List.set_cons_zero,List.set_cons_succ]
      refine wpAnyH_take (i:=7) (oi:={ dst:=some 25,op:=Op.indexAddr 118 (Operand.tmp 23) (Operand.tmp 24),type:=0,pos := "zsortanyfunc.go:12",after:=#[{ on:=5,ground:=Ground.data },{ on:=6,ground:=Ground.data },{ on:=3,ground:=Ground.guard }],guard:=some (3,true) }) (v:=.pointer (some ⟨g,m,none⟩)) rfl (by kernel_rfl) (by kernel_rfl) (by kernel_rfl) (fun _ _ _ h=>h) (Or.inl ⟨by rfl,?_⟩) (by assumption) ?_
      ·(intro w hSw;(try dsimp only at hSw);go_simp)
      simp only [Act.put,List.setIfInBounds_toArray,List.set_cons_zero,List.set_cons_succ]
      refine wpAnyH_take (i:=8) (oi:={ dst:=some 26,op:=Op.load 3 (Operand.tmp 25),type:=3,pos := "zsortanyfunc.go:12",after:=#[{ on:=7,ground:=Ground.data },{ on:=3,ground:=Ground.guard }],guard:=some (3,true) }) (v:=.int .i64 (i:Nat)) rfl (by kernel_rfl) (by kernel_rfl) (by kernel_rfl) (fun _ _ _ h=>h) (Or.inl ⟨by rfl,?_⟩) (by assumption) ?_
      ·(intro w hSw;(try dsimp only at hSw);go_simp)
      simp only [Act.put,List.setIfInBounds_toArray,List.set_cons_zero,List.set_cons_succ]
      refine wpAnyH_take (i:=9) (oi:={ dst:=some 27,op:=Op.move (Operand.tmp 0),type:=118,pos := "zsortanyfunc.go:12",after:=#[{ on:=3,ground:=Ground.guard }],guard:=some (3,true) }) (v:=.slice (some ⟨g,0,none⟩) n n) rfl (by kernel_rfl) (by kernel_rfl) (by kernel_rfl) (fun _ _ _ h=>h) (Or.inl ⟨by rfl,?_⟩) (by assumption) ?_
      ·(intro w hSw;(try dsimp only at hSw);go_simp)
      simp only [Act.put,List.setIfInBounds_toArray,List.set_cons_zero,List.set_cons_succ]
      refine wpAnyH_take (i:=10) (oi:={ dst:=some 28,op:=Op.move (Operand.tmp 9),type:=3,pos := "zsortanyfunc.go:12",after:=#[{ on:=3,ground:=Ground.guard }],guard:=some (3,true) }) (v:=.int .i64 (m:Nat)) rfl (by kernel_rfl) (by kernel_rfl) (by kernel_rfl) (fun _ _ _ h=>h) (Or.inl ⟨by rfl,?_⟩) (by assumption) ?_
      ·(intro w hSw;(try dsimp only at hSw);go_simp)
      simp only [Act.put,List.setIfInBounds_toArray,List.set_cons_zero,List.set_cons_succ]
      refine wpAnyH_take (i:=11) (oi:={ dst:=some 29,op:=Op.binOp BinOp.sub 3 (Operand.tmp 28) (Operand.const (Value.int IntKind.i64 1)) 3,type:=3,pos := "zsortanyfunc.go:12",after:=#[{ on:=10,ground:=Ground.data },{ on:=3,ground:=Ground.guard }],guard:=some (3,true) }) (v:=.int .i64 (j:Nat)) rfl (by kernel_rfl) (by kernel_rfl) (by kernel_rfl) (fun _ _ _ h=>h) (Or.inl ⟨by rfl,?_⟩) (by assumption) ?_
      ·(intro w hSw;(try dsimp only at hSw);go_simp)
      simp only [Act.put,List.setIfInBounds_toArray,List.set_cons_zero,List.set_cons_succ]
      refine wpAnyH_take (i:=12) (oi:={ dst:=some 30,op:=Op.indexAddr 118 (Operand.tmp 27) (Operand.tmp 29),type:=0,pos := "zsortanyfunc.go:12",after:=#[{ on:=9,ground:=Ground.data },{ on:=11,ground:=Ground.data },{ on:=3,ground:=Ground.guard }],guard:=some (3,true) }) (v:=.pointer (some ⟨g,j,none⟩)) rfl (by kernel_rfl) (by kernel_rfl) (by kernel_rfl) (fun _ _ _ h=>h) (Or.inl ⟨by rfl,?_⟩) (by assumption) ?_
      ·(intro w hSw;(try dsimp only at hSw);go_simp)
      simp only [Act.put,List.setIfInBounds_toArray,List.set_cons_zero,List.set_cons_succ]
      refine wpAnyH_take (i:=13) (oi:={ dst:=some 31,op:=Op.load 3 (Operand.tmp 30),type:=3,pos := "zsortanyfunc.go:12",after:=#[{ on:=12,ground:=Ground.data },{ on:=3,ground:=Ground.guard }],guard:=some (3,true) }) (v:=.int .i64 (y:Nat)) rfl (by kernel_rfl) (by kernel_rfl) (by kernel_rfl) (fun _ _ _ h=>h) (Or.inl ⟨by rfl,?_⟩) (by assumption) ?_
      ·(intro w hSw;(try dsimp only at hSw);go_simp)
      simp only [Act.put,List.setIfInBounds_toArray,List.set_cons_zero,List.set_cons_succ]
      refine wpAnyH_ready (rs:=[14]) (by kernel_rfl) (by simp) ?_
      refine AllReadyH.cons (o:={ dst:=some 32,op:=Op.call { callee:=Callee.value (Operand.tmp 22),args:=#[Operand.tmp 26,Operand.tmp 31],argTypes:=#[3,3] },type:=3,pos := "zsortanyfunc.go:12",after:=#[{ on:=4,ground:=Ground.data },{ on:=8,ground:=Ground.data },{ on:=13,ground:=Ground.data },{ on:=3,ground:=Ground.chain },{ on:=3,ground:=Ground.guard }],guard:=some (3,true) }) rfl (fun K hK=>?_) AllReadyH.nil
      go_simp
      refine (uH KC2 _ (uH HG)).mono ?_
      rintro e w5 ⟨rfl,hb⟩
      have R5:=hide ((uH HS).below hb (uH HS).lt);have G5:=hide (grown_trans14 (uH HG) (grown_below14 hb (some g)));have D5:=hide (And.intro (cell_keep (uH HD).1 hb) (cell_keep (uH HD).2 hb))
      clear hb
      go_wp2_with fail
      refine hK.out _ _ ?_ (fun hHeld=>?_)
      ·exact uH D5
      clear hK K
      refine wpAnyH_take (i:=15) (oi:={ dst:=some 33,op:=Op.binOp BinOp.lss 3 (Operand.tmp 32) (Operand.const (Value.int IntKind.i64 0)) 3,type:=4,pos := "zsortanyfunc.go:12",after:=#[{ on:=14,ground:=Ground.data },{ on:=3,ground:=Ground.guard }],guard:=some (3,true) }) (v:=.bool false) rfl (by kernel_rfl) (by kernel_rfl) (by kernel_rfl) (fun _ _ _ h=>h) (Or.inl ⟨by rfl,?_⟩) (by assumption) ?_
      ·(intro w hSw;(try dsimp only at hSw);go_simp)
      simp only [Act.put,List.setIfInBounds_toArray,List.set_cons_zero,List.set_cons_succ]
      refine wpAnyH_take (i:=16) (oi:={ dst:=some 34,op:=Op.pick (Operand.tmp 21) (Operand.tmp 33) (Operand.const (Value.bool false)),type:=4,pos := "zsortanyfunc.go:12",after:=#[{ on:=3,ground:=Ground.data },{ on:=15,ground:=Ground.data }],guard:=none }) (v:=.bool false) rfl (by kernel_rfl) (by kernel_rfl) (by kernel_rfl) (fun _ _ _ h=>h) (Or.inl ⟨by rfl,?_⟩) (by assumption) ?_
      ·(intro w hSw;(try dsimp only at hSw);go_simp)
      simp only [Act.put,List.setIfInBounds_toArray,List.set_cons_zero,List.set_cons_succ]
      refine wpAnyH_done (by kernel_rfl) ?_ _
      clear KC2 HS HG HD HDD
      go_wp2_with fail
      have hS3:=hide (show RowI _ g (if n = i+1 then E else A (i+1) (i+1)) from by
       have:=uH R5
       by_cases e:n = i+1
       ·rw [if_pos e,← uH KE i e.symm,hJm];exact this
       ·rw [if_neg e,← uH KN i (by omega),hJm];exact this)
      go_round
      case rel=>exact ⟨i+1,by omega,by omega,by go_num,hS3,G5⟩
      case measure=>simp [intOf];omega
  ·have hin:i = n:=by omega
   subst hin
   have hS2:=hide (show RowI wr g E from by have:=uH hS;rwa [if_pos rfl] at this)
   clear hS
   go_wp2_with fail
   first | go_end0 | refine bodyPost_ret (results_none rfl _ _ _) rfl ?_
   exact ⟨rfl,uH hS2,uH hG⟩
theorem sdstable_of (n g fn:Nat) (caps:Array Value) (E:List Nat) (w:World) (h6:n≤6)
  (C:Calls Tryz.prog 272 #[.slice (some ⟨g,0,none⟩) n n,.int .i64 0,.int .i64 n,.func (.func fn) #[] caps] w fun e w'=>e = .returned (.tuple #[])∧RowI w' g E∧w.grownBy w' (some g)) :
  Calls Tryz.prog 242 #[.slice (some ⟨g,0,none⟩) n n,.int .i64 n,.func (.func fn) #[] caps] w fun e w'=>e = .returned (.tuple #[])∧RowI w' g E∧w.grownBy w' (some g):=by
 have K:=hide C
 have hn:¬ ((20:Int)≤(n:Int)):=by omega
 have hn2:¬ ((20:Int) < (n:Int)):=by omega
 clear C
 go_enter Tryz.func242,Tryz.ntmps242
 go_wp2_with fail
 go_loopw [7,8] (fun a b wr=>a = .int .i64 0∧b = .int .i64 20∧w = wr) (fun _ _ _=>0)
 case atStart=>exact ⟨rfl,rfl,rfl⟩
 case round =>
  obtain ⟨rfl,rfl,rfl⟩:=hrel
  go_wp2_with fail
  refine Calls.mono (uH K) ?_
  rintro e w1 ⟨rfl,hr,hg⟩
  have R:=hide (And.intro hr hg)
  clear hr hg K
  go_wp2_with fail
  go_loopw [6] (fun a wr=>a = .int .i64 20∧Hid (RowI wr g E∧w.grownBy wr (some g))) (fun _ _=>0)
  case atStart=>exact ⟨rfl,R⟩
  case round =>
   clear R
   obtain ⟨rfl,R⟩:=hrel
   go_wp2_with fail
   first | go_end0 | refine bodyPost_ret (results_none rfl _ _ _) rfl ?_
   exact ⟨rfl,uH R⟩
theorem sdins_none (n g fn:Nat) (caps:Array Value) (E:List Nat) (w:World) (h0:n = 0) (hR:RowI w g E) :
  Calls Tryz.prog 272 #[.slice (some ⟨g,0,none⟩) n n,.int .i64 0,.int .i64 n,.func (.func fn) #[] caps] w fun e w'=>e = .returned (.tuple #[])∧RowI w' g E∧w.grownBy w' (some g):=by
 subst h0
 have R:=hide (show RowI w g E∧w.grownBy w (some g) from ⟨hR,grown_below14 (Below.refl w.heap.size w) (some g)⟩)
 clear hR
 rw [show ((0:Nat):Int) = 0 from rfl]
 go_enter Tryz.func272,Tryz.ntmps272
 go_wp2_with fail
 go_loopw [8] (fun a wr=>a = .int .i64 1∧w = wr) (fun _ _=>0)
 case atStart=>exact ⟨rfl,rfl⟩
 case round =>
  obtain ⟨rfl,rfl⟩:=hrel
  go_wp2_with fail
  first | go_end0 | refine bodyPost_ret (results_none rfl _ _ _) rfl ?_
  exact ⟨rfl,uH R⟩
theorem sdsort_of (n g fn:Nat) (caps:Array Value) (E:List Nat) (w:World)
  (C:Calls Tryz.prog 242 #[.slice (some ⟨g,0,none⟩) n n,.int .i64 n,.func (.func fn) #[] caps] w fun e w'=>e = .returned (.tuple #[])∧RowI w' g E∧w.grownBy w' (some g)) :
  Calls Tryz.prog 211 #[.slice (some ⟨g,0,none⟩) n n,.func (.func fn) #[] caps] w fun e w'=>e = .returned (.tuple #[])∧RowI w' g E∧w.grownBy w' (some g):=by
 have K:=hide C
 clear C
 go_enter Tryz.func211,Tryz.ntmps211
 go_wp2_with fail
 refine Calls.mono (uH K) ?_
 rintro e w1 ⟨rfl,hr,hg⟩
 have R:=hide (And.intro hr hg)
 clear hr hg K
 go_wp2_with fail
 first | go_end0 | refine bodyPost_ret (results_none rfl _ _ _) rfl ?_
 exact ⟨rfl,uH R⟩
theorem sdcmp_any (n p x y sb so cap u v:Nat) (w:World) (hx:x < n) (hy:y < n) (hp:w.cell? ⟨p,0,none⟩ = some (.slice (some ⟨sb,so,none⟩) n cap)) (hu:w.cell? ⟨sb,so+x,none⟩ = some (.int .u64 (u:Nat))) (hv:w.cell? ⟨sb,so+y,none⟩ = some (.int .u64 (v:Nat))) (lu:u < 18446744073709551616) (lv:v < 18446744073709551616) :
  Calls Tryz.prog 212 #[.int .i64 x,.int .i64 y,.pointer (some ⟨p,0,none⟩)] w fun e w'=>e = .returned (.int .i64 (cO v u))∧Below w.heap.size w w':=by
 have K:=hide (fun w'=>corder_any v u w' lv lu)
 have hxI:(x:Int) < (n:Int):=by omega
 have hyI:(y:Int) < (n:Int):=by omega
 generalize cO v u = o at *
 generalize cB v u = t at *
 have HD:=hide (fun w' (h:Below w.heap.size w w')=>(show Below w.heap.size w w'∧w'.cell? ⟨p,0,none⟩ = some (.slice (some ⟨sb,so,none⟩) n cap)∧w'.cell? ⟨sb,so+x,none⟩ = some (.int .u64 (u:Nat))∧w'.cell? ⟨sb,so+y,none⟩ = some (.int .u64 (v:Nat)) from ⟨h,cell_keep hp h,cell_keep hu h,cell_keep hv h⟩))
 clear hp hu hv lu lv
 go_enter Tryz.func212,Tryz.ntmps212
 go_wp2_with fail
 go_region_held3 (fun w'=>Below w.heap.size w w'∧w'.cell? ⟨p,0,none⟩ = some (.slice (some ⟨sb,so,none⟩) n cap)∧w'.cell? ⟨sb,so+x,none⟩ = some (.int .u64 (u:Nat))∧w'.cell? ⟨sb,so+y,none⟩ = some (.int .u64 (v:Nat)))
  (first | exact uH HD _ (Below.refl _ _).drew | exact uH HD _ (by assumption) | fail "KK")
  (first | (go_at_call 167;refine (uH K _).mono ?_;rintro e w8 ⟨rfl,hb5⟩;have hB5:Below w.heap.size w w8:=Below.trans (And.left (by assumption)) (hb5.mono (Below.size (And.left (by assumption))));clear hb5) | fail "NO ARM")
 all_goals
  have BB:=hide (And.left (by assumption:Below w.heap.size w _∧_))
  go_wp2_with fail
  exact bodyPost_ret (v:=.int .i64 o) (by simp [results,Tryz.results212,go_sem]) rfl ⟨rfl,uH BB⟩
theorem sdorder_of (n cap:Nat) (ao:Option Addr) (E:List Nat) (w:World) (h6:n≤6)
  (C:∀ w' g,Below w.heap.size w w'→w.heap.size < g→w'.cell? ⟨w.heap.size,0,none⟩ = some (.slice ao n cap)→RowI w' g (List.range n)→Calls Tryz.prog 211 #[.slice (some ⟨g,0,none⟩) n n,.func (.func 212) #[] #[.pointer (some ⟨w.heap.size,0,none⟩)]] w' fun e w''=>e = .returned (.tuple #[])∧RowI w'' g E∧w'.grownBy w'' (some g)) :
  Calls Tryz.prog 156 #[.slice ao n cap] w fun e w'=>∃ g,e = .returned (.slice (some ⟨g,0,none⟩) n n)∧w.heap.size≤g∧RowI w' g E∧Below w.heap.size w w':=by
 have K:=hide C
 have hmk:=run_make_row' (P:=Tryz.prog) 118 3 (.int .i64 0) 8 Tryz.underlying118 (by kernel_rfl) rfl .i64 .i64 n (by omega) (by omega)
 have b0:=below_alloc9 w (.cells #[.slice ao n cap] 23)
 have s0:=size_alloc9 w (.cells #[.slice ao n cap] 23)
 have c0:(w.alloc (.cells #[.slice ao n cap] 23)).cell? ⟨w.heap.size,0,none⟩ = some (.slice ao n cap):=by
  rw [cell_of_row _ w.heap.size 0 _ _ _ (heap_alloc_new w _)]
  rfl
 have y0:=c0
 have hm:=RowI.made (w.alloc (.cells #[.slice ao n cap] 23)) n
 have b1:=below_alloc9 (w.alloc (.cells #[.slice ao n cap] 23)) (.cells (madeCells #[.int .i64 0] n) 3)
 rw [s0] at hm
 have HM:=hide hm
 rw [show List.replicate n 0 = eaL id n 0 from (eaL_0 id n).symm] at HM
 have HB:=hide (b0.trans (b1.mono b0.size))
 have HC:=hide (cell_keep c0 b1)
 clear C b0 b1 hm c0 s0
 go_enter Tryz.func156,Tryz.ntmps156
 go_wp2_with fail
 clear hmk y0
 go_loopw [10] (fun a wr=>∃ k:Nat,k≤n∧a = .int .i64 k∧Hid (RowI wr (w.heap.size+1) (eaL id n k))∧Hid (Below w.heap.size w wr)∧Hid (wr.cell? ⟨w.heap.size,0,none⟩ = some (.slice ao n cap))) (fun a _=>n - (intOf a).toNat)
 case atStart=>exact ⟨0,Nat.zero_le _,rfl,HM,HB,HC⟩
 case round =>
  clear HM HB HC
  obtain ⟨j,hj,rfl,hS,hB,hC⟩:=hrel
  by_cases hlt:j < n
  ·have hjI:(j:Int) < (n:Int):=by omega
   have d1:=(uH hS).cell j (by rw [eaL_len];exact hlt)
   have f1:=(uH hS).free j
   have S1:=hide ((uH hS).set j j)
   rw [show (eaL id n j).set j j = eaL id n (j+1) from eaL_set id n j] at S1
   have B1:=hide ((uH hB).setCell (p:=⟨w.heap.size+1,j,none⟩) (Nat.le_succ _) (.int .i64 (j:Int)))
   have C1:=hide (show (wr.setCell ⟨w.heap.size+1,j,none⟩ (.int .i64 (j:Int))).cell? ⟨w.heap.size,0,none⟩ = some (.slice ao n cap) from (cell_setCell_other _ _ _ _ (by simp)).trans (uH hC))
   clear hS hB hC
   go_wp2_with fail
   go_round
   case rel=>exact ⟨j+1,by omega,by go_num,S1,B1,C1⟩
   case measure=>first | (simp [intOf];done) | (simp [intOf];omega)
  ·have hjj:j = n:=by omega
   subst hjj
   rw [show eaL id j j = List.range j from by rw [eaL_full,List.map_id]] at hS
   have K2:=hide (uH K wr (w.heap.size+1) (uH hB) (Nat.lt_succ_self _) (uH hC) (uH hS))
   clear K hC hS
   go_wp2_with fail
   refine Calls.mono (uH K2) ?_
   rintro e w1 ⟨rfl,hr,hg⟩
   have R:=hide (show RowI w1 _ E∧Below w.heap.size w w1 from ⟨hr,(uH hB).grown hg (uH hB).size (fun k e=>by cases e;exact Nat.le_succ _)⟩)
   clear hr hg K2 hB
   go_wp2_with fail
   go_ret
   exact ⟨_,rfl,Nat.le_succ _,(uH R).1,(uH R).2⟩
theorem cfOrder19 (args:Array Value) (w:World):(callFunc 212 args).run Tryz.prog w = .ok (.enter 212 args) w:=by
 simp only [callFunc,go_sem]
 rfl
theorem sdorder_any (cap:Nat) (ao:Option Addr) (I:List Nat) (w:World) (h6:I.length≤6) (hI:BitsAt w ao cap (mxL I)) :
  Calls Tryz.prog 156 #[.slice ao I.length cap] w fun e w'=>∃ g,e = .returned (.slice (some ⟨g,0,none⟩) I.length I.length)∧w.heap.size≤g∧RowI w' g (sdQ I I.length)∧Below w.heap.size w w':=by
 refine sdorder_of I.length cap ao (sdQ I I.length) w h6 (fun w' g hb hg hc hr=>?_)
 refine sdsort_of I.length g _ _ _ w' (sdstable_of I.length g _ _ _ w' h6 ?_)
 rcases Nat.eq_zero_or_pos I.length with h0 | h0
 ·refine sdins_none _ g _ _ _ w' h0 ?_
  rw [h0] at hr ⊢
  exact hr
 ·refine sdins_of I.length g 212 #[.pointer (some ⟨w.heap.size,0,none⟩)] (sdA I.length I) (fun i j=>(sdQ I i).getD j 0) (fun i=>sdJ (sdF I i) i) (fun x y=>cO (I.getD y 0) (I.getD x 0)) w' (by omega) h0 cfOrder19 (fun i j hi hj=>sdA_len I hi hj) (fun i j hi hj=>?_) (fun i hi=>?_) (fun i hi=>?_) _ (fun i hi=>?_) (fun h1=>?_) (fun h1=>?_) (fun w1 hg1 x y hx hy=>?_)
  ·obtain ⟨a,b,c⟩:=sdA_step (n:=I.length) I hj
   refine ⟨a,b,c,?_⟩
   have hm:(sdQ I i).getD j 0 ∈ sdQ I i:=by
    rw [List.getD_eq_getElem?_getD,List.getElem?_eq_getElem (by rw [sdQ_len];exact hj)]
    exact List.getElem_mem _
   exact Nat.lt_trans (sdQ_mem I i _ hm) hi
  ·refine ⟨sdJ_le _ _,fun j h1 h2=>?_,fun j hj=>?_⟩
   ·have:=sdJ_up (sdF I i) i j h1 h2
    unfold sdF ltB at this
    exact of_decide_eq_true this
   ·have:=sdJ_end (sdF I i) i (by omega)
    rw [show sdJ (sdF I i) i - 1 = j by omega] at this
    unfold sdF ltB at this
    exact of_decide_eq_false this
  ·rw [sdE_out,sdE_in I hi]
  ·rw [sdE_out,hi,sdE_full]
  ·rw [← sdE_in I h1,sdE_1 I h0];exact hr
  ·rw [← sdE_full,h1,sdE_1 I (by omega),← h1];exact hr
  ·have off:=OffB.old hI (g:=some g) (fun k e=>by cases e;omega)
   have q:=bits_grownOff (hI.below hb) off hg1
   obtain ⟨sb,so,e1,_,cx⟩:=bits_cell q hx
   obtain ⟨sb2,so2,e2,_,cy⟩:=bits_cell q hy
   rw [e1] at e2
   simp only [Option.some.injEq,Addr.mk.injEq] at e2
   obtain ⟨rfl,rfl,_⟩:=e2
   have lx:∀ i,I.getD i 0 < 18446744073709551616:=fun i=>by rw [← mxL_at];exact hI.lt i
   have hp:w1.cell? ⟨w.heap.size,0,none⟩ = some (.slice ao I.length cap):=by
    rw [← hc]
    unfold World.cell?
    rw [hg1.block w.heap.size (Nat.lt_of_lt_of_le (World.block_lt_of_cell? w' _ hc) (Nat.le_refl _)) (fun e=>by cases e;omega)]
   rw [e1] at hp
   exact sdcmp_any I.length w.heap.size x y sb so cap _ _ w1 hx hy hp cx cy (lx x) (lx y)
end Go.Proofs.YtdhmglmccafbnaaGreatDoor
