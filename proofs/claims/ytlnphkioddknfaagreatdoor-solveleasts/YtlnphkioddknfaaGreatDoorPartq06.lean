/- Part 6 of the texts. -/
import Derived.Test.YtlnphkioddknfaaGreatDoorPartq05
import Derived.Test.YtlnphkioddknfaaGreatDoorPartq02
import Derived.Test.YtlnphkioddknfaaGreatDoorPartq04
import Derived.Outline
import Derived.Deep.RegionWith
set_option maxHeartbeats 1000000
namespace Go.Proofs.YtlnphkioddknfaaGreatDoor
open Go.RowKit
theorem wrap_sub2 (x y c:Nat) (hx:x < 4294967296) (hy:y < 4294967296) (hc:c≤1) (h:x < y) :
  IntKind.u64.wrap (IntKind.u64.wrap ((x:Int) - (y:Int)) - (c:Int)) = 18446744073709551616+(x:Int) - (y:Int) - (c:Int):=by
 simp only [IntKind.wrap,IntKind.signed,IntKind.bits]
 simp
 omega
theorem subLimbs_any (ao bo:Option Addr) (ca cb:Nat) (A B:List Nat) (w:World) (hA:LimbsAt w ao ca A) (hB:LimbsAt w bo cb B) (la:A.length≤35184372088830) (lb:B.length≤35184372088830) (hv:val B≤val A) :
  Calls Tryz.prog 293 #[.slice ao A.length ca,.slice bo B.length cb] w fun e w'=>∃ ao' cap' L',e = .returned (.slice ao' L'.length cap')∧LimbsAt w' ao' cap' L'∧NewAt w.heap.size ao' L'∧L'.length = A.length∧val L' = val A - val B∧Below w.heap.size w w':=by
 obtain ⟨i0,hi,hz0,hz1,hz2⟩:=info_parts Tryz.info133
 have hE:∀ (S:List Nat) (k c:Nat),Fits S→S.length = A.length→¬ k < A.length→k≤A.length→val (S.take k)+val (B.take k) = val (A.take k)+4294967296 ^ k * c→val S = val A - val B:=by
  intro S k c f hl h1 h2 h
  rw [show k = A.length by omega] at h
  exact sub_end A B S A.length c f hl rfl hv (take_le A B hA.2.1 hv) h
 have HE:=hide hE
 have hst:=fun (S:List Nat) (k c t c':Nat) (hk:k < S.length)=>sub_step A B S k c (A[k]?.getD 0) (B[k]?.getD 0) t c' hk rfl rfl
 have HST:=hide hst
 clear hE hst hv
 have hcA:0 < A.length→∃ b off,ao = some ⟨b,off,none⟩:=fun h=>by obtain ⟨b,off,h1,_⟩:=hA.ne h;exact ⟨b,off,h1⟩
 have HCA:=hide hcA
 clear hcA
 go_enter Tryz.func293,Tryz.ntmps293
 go_wp2_with (at_make;refine wpList_make_full _ rfl _ _ 43 rfl w.heap.size 133 i0 (.int .u32 0) 1 Tryz.underlying43 hi hz0 hz1 .i64 .i64 _ _ A.length rfl rfl rfl rfl (by rw [hz2];omega) (by unfold maxLen;omega) (Nat.le_refl _) ?_;intro w1 hown hgrow)
 have hrow:=RowAt.made hown
 have hb1:Below w.heap.size w w1:=(Below.refl _ _).grown hgrow (Nat.le_refl _) (fun k h=>by simp at h)
 have hs1:w.heap.size < w1.heap.size:=hrow.lt
 clear hown hgrow
 go_wp2
 go_loopw [6,14] (fun c i wr=>∃ (k:Nat) (S:List Nat) (y:Nat),k≤A.length∧i = .int .i64 k∧c = .int .u64 y∧y≤1∧RowAt wr w.heap.size S∧S.length = A.length∧Fits S∧Below w.heap.size w wr∧Hid (val (S.take k)+val (B.take k) = val (A.take k)+4294967296 ^ k * y))
  (fun _ i _=>A.length - (intOf i).toNat)
 case atStart=>exact ⟨0,List.replicate A.length 0,0,Nat.zero_le _,rfl,rfl,by omega,hrow,by simp,Fits.zeros _,hb1,by unfold Hid;simp [val]⟩
 case round =>
  obtain ⟨k,S,y,hk,rfl,rfl,hy,hr,hsl,hf,hbel,hv⟩:=hrel
  by_cases hlt:k < A.length
  ·obtain ⟨xa,hxa⟩:∃ x,A[k]?.getD 0 = x:=⟨_,rfl⟩
   obtain ⟨xb,hxb⟩:∃ x,B[k]?.getD 0 = x:=⟨_,rfl⟩
   have ba:xa < 4294967296:=by rw [← hxa];exact hA.lt k
   have bb:xb < 4294967296:=by rw [← hxb];exact hB.lt k
   have cA:=hA.below hbel
   have cB:=hB.below hbel
   have hst:=fun (t c':Nat) (ht:t+xb+y = xa+4294967296 * c')=>uH HST S k y t c' (by omega) (by rw [hxa,hxb];exact ht) hv.out
   have HS2:=hide hst
   have HXB:=hide hxb
   have hcell:=hr.cell k (by omega)
   have hfree:=hr.free k
   have HR:=hide hr
   obtain ⟨b1,o1,hao,hb1',hc1⟩:=cA.ne (by omega)
   have ca1:=hc1 k hlt
   rw [hxa] at ca1
   clear hst hxa hxb hv hr hc1 HST HE
   generalize hS:S[k]?.getD 0 = sk at *
   clear hS
   subst hao
   have hlt':(k:Int) < (A.length:Int):=by omega
   have fin:∀ (nq t c':Nat) (d:Int),d = (t:Int)→t < 4294967296→c'≤1→t+xb+y = xa+4294967296 * c' →
     RowAt ((wr.drewN nq).setCell ⟨w.heap.size,k,none⟩ (.int .u32 d)) w.heap.size (S.set k t)∧(S.set k t).length = A.length∧Fits (S.set k t)∧Below w.heap.size w ((wr.drewN nq).setCell ⟨w.heap.size,k,none⟩ (.int .u32 d)) ∧
     Hid (val ((S.set k t).take (k+1))+val (B.take (k+1)) = val (A.take (k+1))+4294967296 ^ (k+1) * c'):=by
    rintro nq t c' d rfl ht hc he
    exact ⟨((uH HR).drewN nq).set k t,by simpa using hsl,hf.set _ _ ht,(below_drewN hbel nq).setCell (by simp) _,uH HS2 t c' he⟩
   have FIN:=hide fin
   clear fin HS2 HR
   rcases (show xb+y≤xa ∨ xa < xb ∨ (xa = xb∧y = 1) by omega) with h1 | h1 | ⟨h1,h2⟩
   ·go_wp2
    go_quiet ((go_at_call 280;exact quiet_eq (limbAt_x bo cb B _ k xb _ (cB.below (below_drewN (Below.refl _ _) _)) lb rfl HXB)))
    go_wp2
    have R:=uH FIN nq (xa - xb - y) 0 ((xa:Int) - xb - y) (by omega) (by omega) (by omega) (by omega)
    go_roundw
    case rel=>exact ⟨k+1,_,0,by omega,by go_num,int_eq (by omega),by omega,R⟩
    case measure=>simp [intOf];omega
   ·go_wp2
    go_quiet ((go_at_call 280;exact quiet_eq (limbAt_x bo cb B _ k xb _ (cB.below (below_drewN (Below.refl _ _) _)) lb rfl HXB)))
    go_wp2
    have e:=wrap_sub2 xa xb y ba bb hy h1
    have R:=uH FIN nq (4294967296+xa - xb - y) 1 (IntKind.u64.wrap (IntKind.u64.wrap ((xa:Int) - xb) - y) % 4294967296) (by rw [e];omega) (by omega) (by omega) (by omega)
    go_roundw
    case rel=>exact ⟨k+1,_,1,by omega,by go_num,int_eq (by rw [e];omega),by omega,R⟩
    case measure=>simp [intOf];omega
   ·subst h1;subst h2
    go_wp2
    go_quiet ((go_at_call 280;exact quiet_eq (limbAt_x bo cb B _ k xa _ (cB.below (below_drewN (Below.refl _ _) _)) lb rfl HXB)))
    go_wp2
    have e:IntKind.u64.wrap (-1) = 18446744073709551615:=by decide
    have R:=uH FIN nq 4294967295 1 (IntKind.u64.wrap (-1) % 4294967296) (by rw [e];rfl) (by omega) (by omega) (by omega)
    go_roundw
    case rel=>exact ⟨k+1,_,1,by omega,by go_num,int_eq (by rw [e];rfl),by omega,R⟩
    case measure=>simp [intOf];omega
  ·have hend:=uH HE S k y hf hsl hlt hk hv.out
   have HEND:=hide hend
   have HR:=hide hr
   clear hend hr hv
   go_wp2
   go_ret
   exact ⟨some ⟨w.heap.size,0,none⟩,A.length,S,by rw [hsl];rfl,(uH HR).limbs hf _ (by omega),.inr ⟨_,_,rfl,Nat.le_refl _⟩,hsl,uH HEND,hbel⟩
end Go.Proofs.YtlnphkioddknfaaGreatDoor
namespace Go.Proofs.YtlnphkioddknfaaGreatDoor
open Go.RowKit
theorem fit_any (B:Nat) (neg:Bool) (ao:Option Addr) (cap:Nat) (L:List Nat) (w:World) (h:LimbsAt w ao cap L) (hn:NewAt B ao L) (hl:L.length≤35184372088832) :
  Calls Tryz.prog 269 #[.bool neg,.slice ao L.length cap] w fun e w'=>∃ v,e = .returned (.tuple #[v,.int .i64 (errOf (sval neg L))])∧IsNum B w' v (numOf (sval neg L))∧Below w.heap.size w w':=by
 have hT:∀ L':List Nat,Canon L'→Fits L'→val L' = val L→(L' = []→errOf (sval neg L) = 0∧numOf (sval neg L) = 0)∧(512 < L'.length→errOf (sval neg L) = 2∧numOf (sval neg L) = 0)∧(L'.length≤512→errOf (sval neg L) = 0∧numOf (sval neg L) = sval neg L'):=by
  intro L' c f hv
  have hi:=val_lt_TOP L' f c
  refine ⟨?_,?_,?_⟩
  ·rintro rfl
   have:val L = 0:=by rw [← hv];rfl
   have hT:0 < TOP:=Nat.pow_pos (by decide)
   have e:sval neg L = 0:=by unfold sval;cases neg <;> simp [this]
   simp [errOf,numOf,e,hT]
  ·intro h5
   have:¬ val L' < TOP:=fun h=>by have:=hi.1 h;omega
   simp [errOf,numOf,natAbs_sval,← hv,this]
  ·intro h5
   have:=hi.2 h5
   rw [sval_congr (neg:=neg) hv]
   simp [errOf,numOf,natAbs_sval,← hv,this]
 generalize errOf (sval neg L) = er at *
 generalize numOf (sval neg L) = nu at *
 have HT:=hide hT
 clear hT
 have HN:=hide hn
 clear hn
 go_enter Tryz.func269,Tryz.ntmps269
 go_wp2_with fail
 refine (trim_any ao cap L _ (h.below ?_) hl).mono ?_
 ·exact (Below.refl _ _).alloc (Nat.le_refl _) _
 rintro e w' ⟨v,rfl,⟨ao',cap',L',rfl,h2,h3,h4,h5,h6⟩,rfl⟩
 have h1:=h5 w h
 have H:=hide (uH HT L' h2 h1.2.1 h3)
 have HA:=hide (h6 B (uH HN))
 have H1:=hide h1
 have H2:=hide h2
 clear HT h3 h5 h6 h1 h2 h HN
 by_cases h0:L' = []
 ·have H0:=hide ((uH H).1 h0)
  have hz:L'.length = 0:=by rw [h0];rfl
  clear h0
  go_wp2
  refine bodyPost_ret (v:=.tuple #[.agg #[.bool false,.slice none 0 0],.int .i64 0]) (by simp [results,Tryz.results269,go_sem]) rfl ⟨.agg #[.bool false,.slice none 0 0],?_,?_,(Below.refl _ _).alloc (Nat.le_refl _) _⟩
  ·rw [(uH H0).1]
  ·rw [(uH H0).2];exact IsNum.zero _ _ _ _
 ·have hp:0 < L'.length:=List.length_pos_iff.2 h0
  have hne:((L'.length:Int) == 0) = false:=by simp;exact h0
  by_cases h5:L'.length≤512
  ·have H0:=hide ((uH H).2.2 h5)
   go_wp2
   refine bodyPost_ret (v:=.tuple #[.agg #[.bool neg,.slice ao' L'.length cap'],.int .i64 0]) (by simp [results,Tryz.results269,go_sem]) rfl ⟨.agg #[.bool neg,.slice ao' L'.length cap'],?_,?_,?_⟩
   ·rw [(uH H0).1]
   ·rw [(uH H0).2]
    exact IsNum.mk ((uH H1).below ((Below.refl _ _).alloc (Nat.le_refl _) _)) (uH HA) (uH H2) h0 (by omega)
   ·exact (Below.refl _ _).alloc (Nat.le_refl _) _
  ·have H0:=hide ((uH H).2.1 (by omega))
   go_wp2
   refine bodyPost_ret (v:=.tuple #[.agg #[.bool false,.slice none 0 0],.int .i64 2]) (by simp [results,Tryz.results269,go_sem]) rfl ⟨.agg #[.bool false,.slice none 0 0],?_,?_,(Below.refl _ _).alloc (Nat.le_refl _) _⟩
   ·rw [(uH H0).1]
   ·rw [(uH H0).2];exact IsNum.zero _ _ _ _
end Go.Proofs.YtlnphkioddknfaaGreatDoor
namespace Go.Proofs.YtlnphkioddknfaaGreatDoor
open Go.RowKit
attribute [local go_sem ↓] Go.wp_at_zero Go.wp_at_succ
theorem addSigned_same (na:Bool) (ao bo:Option Addr) (ca cb:Nat) (A B:List Nat) (w:World) (hA:LimbsAt w ao ca A) (hB:LimbsAt w bo cb B) (la:A.length≤35184372088830) (lb:B.length≤35184372088830) :
  Calls Tryz.prog 290 #[.agg #[.bool na,.slice ao A.length ca],.agg #[.bool na,.slice bo B.length cb]] w fun e w'=>∃ v,e = .returned (.tuple #[v,.int .i64 (errOf (sval na A+sval na B))])∧IsNum w.heap.size w' v (numOf (sval na A+sval na B))∧Below w.heap.size w w':=by
 have hsum:∀ L:List Nat,val L = val A+val B→sval na L = sval na A+sval na B:=by
  intro L h;unfold sval;cases na <;> simp [h] <;> omega
 have HS:=hide hsum
 clear hsum
 generalize sval na A+sval na B = z at *
 go_enter Tryz.func290,Tryz.ntmps290
 go_wp2
 refine at_world (fun W=>Below w.heap.size w W∧W.heap.size = w.heap.size+3∧Box2 W w.heap.size (.bool na) (.slice ao A.length ca)∧Box2 W (w.heap.size+1) (.bool na) (.slice bo B.length cb)∧Box2 W (w.heap.size+2) (.bool false) (.slice none 0 0)) ?_ ?_
 ·refine ⟨((((Below.refl _ _).alloc (Nat.le_refl _) _).alloc (by simp) _).alloc (by simp;omega) _),by simp,((Box2.new _ _ _).old _).old _,?_,?_⟩
  ·have:=(Box2.new (w.alloc (.cells #[.bool na,.slice ao A.length ca] 45)) (.bool na) (.slice bo B.length cb)).old (.cells #[.bool false,.slice none 0 0] 45)
   simpa using this
  ·have:=Box2.new ((w.alloc (.cells #[.bool na,.slice ao A.length ca] 45)).alloc (.cells #[.bool na,.slice bo B.length cb] 45)) (.bool false) (.slice none 0 0)
   simpa using this
 rintro W0 ⟨hw0,hs0,x0,x1,x2⟩
 have hK:∀ w',Below (w.heap.size+2) W0 w'→Below (w.heap.size+2) W0 w'∧w'.cell? ⟨w.heap.size,0,none⟩ = some (.bool na)∧w'.cell? ⟨w.heap.size,1,none⟩ = some (.slice ao A.length ca)∧w'.cell? ⟨w.heap.size+1,1,none⟩ = some (.slice bo B.length cb):=fun w' h =>
  ⟨h,(x0.below h (by omega)).c0,(x0.below h (by omega)).c1,(x1.below h (by omega)).c1⟩
 have HK:=hide hK
 have HA:=hide (hA.below hw0)
 have HB:=hide (hB.below hw0)
 have X2:=hide x2
 have HW0:=hide hw0
 clear hK hA hB x0 x1 x2 hw0
 go_region_held3 (fun w'=>Below (w.heap.size+2) W0 w'∧w'.cell? ⟨w.heap.size,0,none⟩ = some (.bool na)∧w'.cell? ⟨w.heap.size,1,none⟩ = some (.slice ao A.length ca)∧w'.cell? ⟨w.heap.size+1,1,none⟩ = some (.slice bo B.length cb))
  (first | exact uH HK _ (Below.refl _ _).drew | exact uH HK _ (by assumption) | exact uH HK _ ((hB2.setCell (by simp) _).setCell (by simp) _))
  (first | (go_at_call 291;refine (addLimbs_any ao bo ca cb A B _ ((uH HA).below ((Below.refl _ _).drew)) ((uH HB).below ((Below.refl _ _).drew)) la lb).mono ?_;rintro e w1 ⟨ao',cap',L',rfl,g1,g2,g3,g4,hb1⟩;have hB1:Below (w.heap.size+2) W0 w1:=((Below.refl _ _).drew).trans (hb1.mono (by simp [hs0]));have X3:=hide ((uH X2).drew.below hb1 (by simp [hs0]));have G1:=hide g1;have G2:=hide g2;have G4:=hide g4;have L4:L'.length≤35184372088832:=(by omega);have s1:=hb1.size;clear g1 g2 g4 g3 hb1) | (go_at_call 269;refine (fit_any _ na _ _ _ _ (uH G1) (uH G2) L4).mono ?_;rintro e w2 ⟨v,rfl,⟨n2,a2,c2,L2,rfl,i1⟩,hb2⟩;have hB2:Below (w.heap.size+2) W0 w2:=hB1.trans (hb2.mono (by simp at s1;omega));have X4:=(uH X3).below hb2 (by simp at s1;omega);have y0:=X4.c0;have y1:=X4.c1;have f0:=X4.free 0;have f1:=X4.free 1;have I1:=hide i1;clear i1 hb2 X4))
 have hz:=uH HS L' (uH G4)
 have HI:=hide (hz ▸ uH I1)
 have HE:=hide (show errOf (sval na L') = errOf z by rw [hz])
 clear hz
 go_wp2
 refine bodyPost_ret (v:=.tuple #[.agg #[.bool n2,.slice a2 L2.length c2],.int .i64 (errOf (sval na L'))]) (by simp [results,Tryz.results290,go_sem,y0,y1]) rfl ⟨.agg #[.bool n2,.slice a2 L2.length c2],?_,?_,?_⟩
 ·rw [uH HE]
 ·exact IsNum.stored (uH HI) (by simp;omega) (by simp;omega) (by simp;omega) _ _
 ·exact (((uH HW0).trans (hB2.mono (by omega))).setCell (by simp;omega) _).setCell (by simp;omega) _
end Go.Proofs.YtlnphkioddknfaaGreatDoor
namespace Go.Proofs.YtlnphkioddknfaaGreatDoor
open Go.RowKit
attribute [local go_sem ↓] Go.wp_at_zero Go.wp_at_succ
theorem cmpL_canon (A B:List Nat) (fA:Fits A) (fB:Fits B) (cA:Canon A) (cB:Canon B):cmpL A B = cmpI (val A) (val B):=by
 unfold cmpL
 split
 ·rfl
 ·rename_i hl
  rcases Nat.lt_or_gt_of_ne hl with h | h
  ·have:val A < val B:=by
    have:=length_le_of_val B A fA cB
    by_cases hv:val B≤val A
    ·have:=this hv;omega
    ·omega
   rw [cmpI_lt (by omega),cmpI_lt (by omega)]
  ·have:val B < val A:=by
    have:=length_le_of_val A B fB cA
    by_cases hv:val A≤val B
    ·have:=this hv;omega
    ·omega
   rw [cmpI_gt (by omega),cmpI_gt (by omega)]
theorem addSigned_diff (na nb:Bool) (ao bo:Option Addr) (ca cb:Nat) (A B:List Nat) (w:World) (hA:LimbsAt w ao ca A) (hB:LimbsAt w bo cb B) (la:A.length≤35184372088830) (lb:B.length≤35184372088830) (cA:Canon A) (cB:Canon B) (hn:na ≠ nb) :
  Calls Tryz.prog 290 #[.agg #[.bool na,.slice ao A.length ca],.agg #[.bool nb,.slice bo B.length cb]] w fun e w'=>∃ v,e = .returned (.tuple #[v,.int .i64 (errOf (sval na A+sval nb B))])∧IsNum w.heap.size w' v (numOf (sval na A+sval nb B))∧Below w.heap.size w w':=by
 have hsum:(∀ L:List Nat,val L = val B - val A→val A < val B→sval nb L = sval na A+sval nb B)∧(∀ L:List Nat,val L = val A - val B→val B≤val A→sval na L = sval na A+sval nb B):=by
  constructor <;> intro L h h' <;> unfold sval <;> cases na <;> cases nb <;> simp at hn <;> simp [h] <;> omega
 have hcm:=cmpL_canon A B hA.2.1 hB.2.1 cA cB
 have HS:=hide hsum
 clear hsum
 generalize sval na A+sval nb B = z at *
 have hne:(na == nb) = false:=by simpa using hn
 have HC:=hide hcm
 clear hcm hn
 go_enter Tryz.func290,Tryz.ntmps290
 go_wp2_with fail
 refine (compareLimbs_any ao bo ca cb A B _ (hA.below ?_) (hB.below ?_) (by omega) (by omega)).mono ?_
 ·exact (((Below.refl _ _).alloc (Nat.le_refl _) _).alloc (by simp) _).alloc (by simp;omega) _
 ·exact (((Below.refl _ _).alloc (Nat.le_refl _) _).alloc (by simp) _).alloc (by simp;omega) _
 rintro e w' ⟨rfl,m,rfl⟩
 rw [uH HC]
 by_cases hv:val A < val B
 ·rw [cmpI_lt (by omega)]
  clear HC
  have HS1:=hide (fun L h=>(uH HS).1 L h hv)
  clear HS
  go_wp2
  refine at_world (fun W=>Below w.heap.size w W∧W.heap.size = w.heap.size+3∧Box2 W w.heap.size (.bool na) (.slice ao A.length ca)∧Box2 W (w.heap.size+1) (.bool nb) (.slice bo B.length cb)∧Box2 W (w.heap.size+2) (.bool false) (.slice none 0 0)) ?_ ?_
  ·refine ⟨below_drewN ((((Below.refl _ _).alloc (Nat.le_refl _) _).alloc (by simp) _).alloc (by simp;omega) _) _,by simp,(((Box2.new _ _ _).old _).old _).drewN _,?_,?_⟩
   ·have:=((Box2.new (w.alloc (.cells #[.bool na,.slice ao A.length ca] 45)) (.bool nb) (.slice bo B.length cb)).old (.cells #[.bool false,.slice none 0 0] 45)).drewN m
    simpa using this
   ·have:=(Box2.new ((w.alloc (.cells #[.bool na,.slice ao A.length ca] 45)).alloc (.cells #[.bool nb,.slice bo B.length cb] 45)) (.bool false) (.slice none 0 0)).drewN m
    simpa using this
  rintro W0 ⟨hw0,hs0,x0,x1,x2⟩
  have hK:∀ w',Below (w.heap.size+2) W0 w'→Below (w.heap.size+2) W0 w'∧w'.cell? ⟨w.heap.size+1,0,none⟩ = some (.bool nb)∧w'.cell? ⟨w.heap.size,1,none⟩ = some (.slice ao A.length ca)∧w'.cell? ⟨w.heap.size+1,1,none⟩ = some (.slice bo B.length cb):=fun w' h =>
   ⟨h,(x1.below h (by omega)).c0,(x0.below h (by omega)).c1,(x1.below h (by omega)).c1⟩
  have HK:=hide hK
  have HA:=hide (hA.below hw0)
  have HB:=hide (hB.below hw0)
  have X2:=hide x2
  have HW0:=hide hw0
  have hv':val A≤val B:=by omega
  clear hK hA hB x0 x1 x2 hw0
  go_region_held3 (fun w'=>Below (w.heap.size+2) W0 w'∧w'.cell? ⟨w.heap.size+1,0,none⟩ = some (.bool nb)∧w'.cell? ⟨w.heap.size,1,none⟩ = some (.slice ao A.length ca)∧w'.cell? ⟨w.heap.size+1,1,none⟩ = some (.slice bo B.length cb))
   (first | exact uH HK _ (Below.refl _ _).drew | exact uH HK _ (by assumption) | exact uH HK _ ((hB2.setCell (by simp) _).setCell (by simp) _))
   (first | (go_at_call 293;refine (subLimbs_any bo ao cb ca B A _ ((uH HB).below ((Below.refl _ _).drew)) ((uH HA).below ((Below.refl _ _).drew)) lb la hv').mono ?_;rintro e w1 ⟨ao',cap',L',rfl,g1,g2,g3,g4,hb1⟩;have hB1:Below (w.heap.size+2) W0 w1:=((Below.refl _ _).drew).trans (hb1.mono (by simp [hs0]));have X3:=hide ((uH X2).drew.below hb1 (by simp [hs0]));have G1:=hide g1;have G2:=hide g2;have G4:=hide g4;have L4:L'.length≤35184372088832:=(by omega);have s1:=hb1.size;clear g1 g2 g4 g3 hb1) | (go_at_call 269;refine (fit_any _ nb _ _ _ _ (uH G1) (uH G2) L4).mono ?_;rintro e w2 ⟨v,rfl,⟨n2,a2,c2,L2,rfl,i1⟩,hb2⟩;have hB2:Below (w.heap.size+2) W0 w2:=hB1.trans (hb2.mono (by simp at s1;omega));have X4:=(uH X3).below hb2 (by simp at s1;omega);have y0:=X4.c0;have y1:=X4.c1;have f0:=X4.free 0;have f1:=X4.free 1;have I1:=hide i1;clear i1 hb2 X4))
  have hz:=uH HS1 L' (uH G4)
  have HI:=hide (hz ▸ uH I1)
  have HE:=hide (show errOf (sval nb L') = errOf z by rw [hz])
  clear hz
  go_wp2
  refine bodyPost_ret (v:=.tuple #[.agg #[.bool n2,.slice a2 L2.length c2],.int .i64 (errOf (sval nb L'))]) (by simp [results,Tryz.results290,go_sem,y0,y1]) rfl ⟨.agg #[.bool n2,.slice a2 L2.length c2],?_,?_,?_⟩
  ·rw [uH HE]
  ·exact IsNum.stored (uH HI) (by simp;omega) (by simp;omega) (by simp;omega) _ _
  ·exact (((uH HW0).trans (hB2.mono (by omega))).setCell (by simp;omega) _).setCell (by simp;omega) _
 ·have hge:¬ cmpI (val A) (val B) < 0:=by unfold cmpI;rw [if_neg (by omega)];split <;> omega
  generalize cmpI (val A) (val B) = cm at *
  clear HC
  have HS1:=hide (fun L h=>(uH HS).2 L h (by omega))
  clear HS
  go_wp2
  refine at_world (fun W=>Below w.heap.size w W∧W.heap.size = w.heap.size+3∧Box2 W w.heap.size (.bool na) (.slice ao A.length ca)∧Box2 W (w.heap.size+1) (.bool nb) (.slice bo B.length cb)∧Box2 W (w.heap.size+2) (.bool false) (.slice none 0 0)) ?_ ?_
  ·refine ⟨below_drewN ((((Below.refl _ _).alloc (Nat.le_refl _) _).alloc (by simp) _).alloc (by simp;omega) _) _,by simp,(((Box2.new _ _ _).old _).old _).drewN _,?_,?_⟩
   ·have:=((Box2.new (w.alloc (.cells #[.bool na,.slice ao A.length ca] 45)) (.bool nb) (.slice bo B.length cb)).old (.cells #[.bool false,.slice none 0 0] 45)).drewN m
    simpa using this
   ·have:=(Box2.new ((w.alloc (.cells #[.bool na,.slice ao A.length ca] 45)).alloc (.cells #[.bool nb,.slice bo B.length cb] 45)) (.bool false) (.slice none 0 0)).drewN m
    simpa using this
  rintro W0 ⟨hw0,hs0,x0,x1,x2⟩
  have hK:∀ w',Below (w.heap.size+2) W0 w'→Below (w.heap.size+2) W0 w'∧w'.cell? ⟨w.heap.size,0,none⟩ = some (.bool na)∧w'.cell? ⟨w.heap.size,1,none⟩ = some (.slice ao A.length ca)∧w'.cell? ⟨w.heap.size+1,1,none⟩ = some (.slice bo B.length cb):=fun w' h =>
   ⟨h,(x0.below h (by omega)).c0,(x0.below h (by omega)).c1,(x1.below h (by omega)).c1⟩
  have HK:=hide hK
  have HA:=hide (hA.below hw0)
  have HB:=hide (hB.below hw0)
  have X2:=hide x2
  have HW0:=hide hw0
  have hv':val B≤val A:=by omega
  clear hK hA hB x0 x1 x2 hw0
  go_region_held3 (fun w'=>Below (w.heap.size+2) W0 w'∧w'.cell? ⟨w.heap.size,0,none⟩ = some (.bool na)∧w'.cell? ⟨w.heap.size,1,none⟩ = some (.slice ao A.length ca)∧w'.cell? ⟨w.heap.size+1,1,none⟩ = some (.slice bo B.length cb))
   (first | exact uH HK _ (Below.refl _ _).drew | exact uH HK _ (by assumption) | exact uH HK _ ((hB2.setCell (by simp) _).setCell (by simp) _))
   (first | (go_at_call 293;refine (subLimbs_any ao bo ca cb A B _ ((uH HA).below ((Below.refl _ _).drew)) ((uH HB).below ((Below.refl _ _).drew)) la lb hv').mono ?_;rintro e w1 ⟨ao',cap',L',rfl,g1,g2,g3,g4,hb1⟩;have hB1:Below (w.heap.size+2) W0 w1:=((Below.refl _ _).drew).trans (hb1.mono (by simp [hs0]));have X3:=hide ((uH X2).drew.below hb1 (by simp [hs0]));have G1:=hide g1;have G2:=hide g2;have G4:=hide g4;have L4:L'.length≤35184372088832:=(by omega);have s1:=hb1.size;clear g1 g2 g4 g3 hb1) | (go_at_call 269;refine (fit_any _ na _ _ _ _ (uH G1) (uH G2) L4).mono ?_;rintro e w2 ⟨v,rfl,⟨n2,a2,c2,L2,rfl,i1⟩,hb2⟩;have hB2:Below (w.heap.size+2) W0 w2:=hB1.trans (hb2.mono (by simp at s1;omega));have X4:=(uH X3).below hb2 (by simp at s1;omega);have y0:=X4.c0;have y1:=X4.c1;have f0:=X4.free 0;have f1:=X4.free 1;have I1:=hide i1;clear i1 hb2 X4))
  have hz:=uH HS1 L' (uH G4)
  have HI:=hide (hz ▸ uH I1)
  have HE:=hide (show errOf (sval na L') = errOf z by rw [hz])
  clear hz
  go_wp2
  refine bodyPost_ret (v:=.tuple #[.agg #[.bool n2,.slice a2 L2.length c2],.int .i64 (errOf (sval na L'))]) (by simp [results,Tryz.results290,go_sem,y0,y1]) rfl ⟨.agg #[.bool n2,.slice a2 L2.length c2],?_,?_,?_⟩
  ·rw [uH HE]
  ·exact IsNum.stored (uH HI) (by simp;omega) (by simp;omega) (by simp;omega) _ _
  ·exact (((uH HW0).trans (hB2.mono (by omega))).setCell (by simp;omega) _).setCell (by simp;omega) _
theorem addSigned_any (na nb:Bool) (ao bo:Option Addr) (ca cb:Nat) (A B:List Nat) (w:World) (hA:LimbsAt w ao ca A) (hB:LimbsAt w bo cb B) (la:A.length≤35184372088830) (lb:B.length≤35184372088830) (cA:Canon A) (cB:Canon B) :
  Calls Tryz.prog 290 #[.agg #[.bool na,.slice ao A.length ca],.agg #[.bool nb,.slice bo B.length cb]] w fun e w'=>∃ v,e = .returned (.tuple #[v,.int .i64 (errOf (sval na A+sval nb B))])∧IsNum w.heap.size w' v (numOf (sval na A+sval nb B))∧Below w.heap.size w w':=by
 by_cases hn:na = nb
 ·subst hn;exact addSigned_same na ao bo ca cb A B w hA hB la lb
 ·exact addSigned_diff na nb ao bo ca cb A B w hA hB la lb cA cB hn
end Go.Proofs.YtlnphkioddknfaaGreatDoor
namespace Go.Proofs.YtlnphkioddknfaaGreatDoor
open Go.RowKit
attribute [local go_sem ↓] Go.wp_at_zero Go.wp_at_succ
theorem refAdd_same (na:Bool) (ao bo:Option Addr) (ca cb:Nat) (A B:List Nat) (w:World) (hA:LimbsAt w ao ca A) (hB:LimbsAt w bo cb B) (la:A.length≤35184372088830) (lb:B.length≤35184372088830) :
  Calls Tryz.prog 86 #[.agg #[.bool na,.slice ao A.length ca],.agg #[.bool na,.slice bo B.length cb]] w fun e w'=>∃ v,e = .returned v∧IsNumM (max A.length B.length+1) w.heap.size w' v (sval na A+sval na B)∧Below w.heap.size w w':=by
 have hsum:∀ L:List Nat,val L = val A+val B→sval na L = sval na A+sval na B:=by
  intro L h;unfold sval;cases na <;> simp [h] <;> omega
 have HS:=hide hsum
 clear hsum
 generalize sval na A+sval na B = z at *
 go_enter Tryz.func86,Tryz.ntmps86
 go_wp2
 refine at_world (fun W=>Below w.heap.size w W∧W.heap.size = w.heap.size+3∧Box2 W w.heap.size (.bool na) (.slice ao A.length ca)∧Box2 W (w.heap.size+1) (.bool na) (.slice bo B.length cb)∧Box2 W (w.heap.size+2) (.bool false) (.slice none 0 0)) ?_ ?_
 ·refine ⟨((((Below.refl _ _).alloc (Nat.le_refl _) _).alloc (by simp) _).alloc (by simp;omega) _),by simp,((Box2.new _ _ _).old _).old _,?_,?_⟩
  ·have:=(Box2.new (w.alloc (.cells #[.bool na,.slice ao A.length ca] 45)) (.bool na) (.slice bo B.length cb)).old (.cells #[.bool false,.slice none 0 0] 45)
   simpa using this
  ·have:=Box2.new ((w.alloc (.cells #[.bool na,.slice ao A.length ca] 45)).alloc (.cells #[.bool na,.slice bo B.length cb] 45)) (.bool false) (.slice none 0 0)
   simpa using this
 rintro W0 ⟨hw0,hs0,x0,x1,x2⟩
 have hK:∀ w',Below (w.heap.size+2) W0 w'→Below (w.heap.size+2) W0 w'∧w'.cell? ⟨w.heap.size,0,none⟩ = some (.bool na)∧w'.cell? ⟨w.heap.size,1,none⟩ = some (.slice ao A.length ca)∧w'.cell? ⟨w.heap.size+1,1,none⟩ = some (.slice bo B.length cb):=fun w' h =>
  ⟨h,(x0.below h (by omega)).c0,(x0.below h (by omega)).c1,(x1.below h (by omega)).c1⟩
 have HK:=hide hK
 have HA:=hide (hA.below hw0)
 have HB:=hide (hB.below hw0)
 have X2:=hide x2
 have HW0:=hide hw0
 clear hK hA hB x0 x1 x2 hw0
 go_region_held3 (fun w'=>Below (w.heap.size+2) W0 w'∧w'.cell? ⟨w.heap.size,0,none⟩ = some (.bool na)∧w'.cell? ⟨w.heap.size,1,none⟩ = some (.slice ao A.length ca)∧w'.cell? ⟨w.heap.size+1,1,none⟩ = some (.slice bo B.length cb))
  (first | exact uH HK _ (Below.refl _ _).drew | exact uH HK _ (by assumption) | exact uH HK _ ((hB2.setCell (by simp) _).setCell (by simp) _))
  (first | (go_at_call 137;refine (plus_any ao bo ca cb A B _ ((uH HA).below ((Below.refl _ _).drew)) ((uH HB).below ((Below.refl _ _).drew)) la lb).mono ?_;rintro e w1 ⟨ao',cap',L',rfl,g1,g2,g3,g4,hb1⟩;have hB1:Below (w.heap.size+2) W0 w1:=((Below.refl _ _).drew).trans (hb1.mono (by simp [hs0]));have X3:=hide ((uH X2).drew.below hb1 (by simp [hs0]));have G1:=hide g1;have G2:=hide g2;have G4:=hide g4;have L4:L'.length≤35184372088832:=(by omega);have L5:L'.length≤max A.length B.length+1:=(by omega);have s1:=hb1.size;clear g1 g2 g4 g3 hb1) | (go_at_call 134;refine (made_any _ na _ _ _ _ (uH G1) (uH G2) L4).mono ?_;rintro e w2 ⟨v,rfl,⟨n2,a2,c2,L2,rfl,i1⟩,hb2⟩;have hB2:Below (w.heap.size+2) W0 w2:=hB1.trans (hb2.mono (by simp at s1;omega));have X4:=(uH X3).below hb2 (by simp at s1;omega);have y0:=X4.c0;have y1:=X4.c1;have f0:=X4.free 0;have f1:=X4.free 1;have I1:=hide i1;clear i1 hb2 X4))
 have hz:=uH HS L' (uH G4)
 have HI:=hide (hz ▸ uH I1)
 clear hz
 go_wp2
 refine bodyPost_ret (v:=.agg #[.bool n2,.slice a2 L2.length c2]) (by simp [results,Tryz.results86,go_sem,y0,y1]) rfl ⟨.agg #[.bool n2,.slice a2 L2.length c2],rfl,?_,?_⟩
 ·exact (IsNumM.stored (uH HI) (by simp;omega) (by simp;omega) (by simp;omega) _ _).more (by have:=L5;omega)
 ·exact (((uH HW0).trans (hB2.mono (by omega))).setCell (by simp;omega) _).setCell (by simp;omega) _
theorem refAdd_diff (na nb:Bool) (ao bo:Option Addr) (ca cb:Nat) (A B:List Nat) (w:World) (hA:LimbsAt w ao ca A) (hB:LimbsAt w bo cb B) (la:A.length≤35184372088830) (lb:B.length≤35184372088830) (hn:na ≠ nb) :
  Calls Tryz.prog 86 #[.agg #[.bool na,.slice ao A.length ca],.agg #[.bool nb,.slice bo B.length cb]] w fun e w'=>∃ v,e = .returned v∧IsNumM (max A.length B.length+1) w.heap.size w' v (sval na A+sval nb B)∧Below w.heap.size w w':=by
 have hsum:(∀ L:List Nat,val L = val B - val A→val A < val B→sval nb L = sval na A+sval nb B)∧(∀ L:List Nat,val L = val A - val B→val B≤val A→sval na L = sval na A+sval nb B):=by
  constructor <;> intro L h h' <;> unfold sval <;> cases na <;> cases nb <;> simp at hn <;> simp [h] <;> omega
 have HS:=hide hsum
 clear hsum
 generalize sval na A+sval nb B = z at *
 have hne:(na == nb) = false:=by simpa using hn
 clear hn
 go_enter Tryz.func86,Tryz.ntmps86
 go_wp2_with fail
 refine (more_any ao bo ca cb A B _ (hA.below ?_) (hB.below ?_) (by omega) (by omega)).mono ?_
 ·exact (((Below.refl _ _).alloc (Nat.le_refl _) _).alloc (by simp) _).alloc (by simp;omega) _
 ·exact (((Below.refl _ _).alloc (Nat.le_refl _) _).alloc (by simp) _).alloc (by simp;omega) _
 rintro e w' ⟨rfl,rfl⟩
 by_cases hv:val A < val B
 ·rw [cmpI_lt (by omega)]
  have HS1:=hide (fun L h=>(uH HS).1 L h hv)
  clear HS
  go_wp2
  refine at_world (fun W=>Below w.heap.size w W∧W.heap.size = w.heap.size+3∧Box2 W w.heap.size (.bool na) (.slice ao A.length ca)∧Box2 W (w.heap.size+1) (.bool nb) (.slice bo B.length cb)∧Box2 W (w.heap.size+2) (.bool false) (.slice none 0 0)) ?_ ?_
  ·refine ⟨((((Below.refl _ _).alloc (Nat.le_refl _) _).alloc (by simp) _).alloc (by simp;omega) _),by simp,(((Box2.new _ _ _).old _).old _),?_,?_⟩
   ·have:=((Box2.new (w.alloc (.cells #[.bool na,.slice ao A.length ca] 45)) (.bool nb) (.slice bo B.length cb)).old (.cells #[.bool false,.slice none 0 0] 45))
    simpa using this
   ·have:=(Box2.new ((w.alloc (.cells #[.bool na,.slice ao A.length ca] 45)).alloc (.cells #[.bool nb,.slice bo B.length cb] 45)) (.bool false) (.slice none 0 0))
    simpa using this
  rintro W0 ⟨hw0,hs0,x0,x1,x2⟩
  have hK:∀ w',Below (w.heap.size+2) W0 w'→Below (w.heap.size+2) W0 w'∧w'.cell? ⟨w.heap.size+1,0,none⟩ = some (.bool nb)∧w'.cell? ⟨w.heap.size,1,none⟩ = some (.slice ao A.length ca)∧w'.cell? ⟨w.heap.size+1,1,none⟩ = some (.slice bo B.length cb):=fun w' h =>
   ⟨h,(x1.below h (by omega)).c0,(x0.below h (by omega)).c1,(x1.below h (by omega)).c1⟩
  have HK:=hide hK
  have HA:=hide (hA.below hw0)
  have HB:=hide (hB.below hw0)
  have X2:=hide x2
  have HW0:=hide hw0
  have hv':val A≤val B:=by omega
  clear hK hA hB x0 x1 x2 hw0
  go_region_held3 (fun w'=>Below (w.heap.size+2) W0 w'∧w'.cell? ⟨w.heap.size+1,0,none⟩ = some (.bool nb)∧w'.cell? ⟨w.heap.size,1,none⟩ = some (.slice ao A.length ca)∧w'.cell? ⟨w.heap.size+1,1,none⟩ = some (.slice bo B.length cb))
   (first | exact uH HK _ (Below.refl _ _).drew | exact uH HK _ (by assumption) | exact uH HK _ ((hB2.setCell (by simp) _).setCell (by simp) _))
   (first | (go_at_call 140;refine (minus_any bo ao cb ca B A _ ((uH HB).below ((Below.refl _ _).drew)) ((uH HA).below ((Below.refl _ _).drew)) lb la hv').mono ?_;rintro e w1 ⟨ao',cap',L',rfl,g1,g2,g3,g4,hb1⟩;have hB1:Below (w.heap.size+2) W0 w1:=((Below.refl _ _).drew).trans (hb1.mono (by simp [hs0]));have X3:=hide ((uH X2).drew.below hb1 (by simp [hs0]));have G1:=hide g1;have G2:=hide g2;have G4:=hide g4;have L4:L'.length≤35184372088832:=(by omega);have L5:L'.length≤max A.length B.length+1:=(by omega);have s1:=hb1.size;clear g1 g2 g4 g3 hb1) | (go_at_call 134;refine (made_any _ nb _ _ _ _ (uH G1) (uH G2) L4).mono ?_;rintro e w2 ⟨v,rfl,⟨n2,a2,c2,L2,rfl,i1⟩,hb2⟩;have hB2:Below (w.heap.size+2) W0 w2:=hB1.trans (hb2.mono (by simp at s1;omega));have X4:=(uH X3).below hb2 (by simp at s1;omega);have y0:=X4.c0;have y1:=X4.c1;have f0:=X4.free 0;have f1:=X4.free 1;have I1:=hide i1;clear i1 hb2 X4))
  have hz:=uH HS1 L' (uH G4)
  have HI:=hide (hz ▸ uH I1)
  clear hz
  go_wp2
  refine bodyPost_ret (v:=.agg #[.bool n2,.slice a2 L2.length c2]) (by simp [results,Tryz.results86,go_sem,y0,y1]) rfl ⟨.agg #[.bool n2,.slice a2 L2.length c2],rfl,?_,?_⟩
  ·exact (IsNumM.stored (uH HI) (by simp;omega) (by simp;omega) (by simp;omega) _ _).more (by have:=L5;omega)
  ·exact (((uH HW0).trans (hB2.mono (by omega))).setCell (by simp;omega) _).setCell (by simp;omega) _
 ·have hge:¬ cmpI (val A) (val B) < 0:=by unfold cmpI;rw [if_neg (by omega)];split <;> omega
  generalize cmpI (val A) (val B) = cm at *
  have HS1:=hide (fun L h=>(uH HS).2 L h (by omega))
  clear HS
  go_wp2
  refine at_world (fun W=>Below w.heap.size w W∧W.heap.size = w.heap.size+3∧Box2 W w.heap.size (.bool na) (.slice ao A.length ca)∧Box2 W (w.heap.size+1) (.bool nb) (.slice bo B.length cb)∧Box2 W (w.heap.size+2) (.bool false) (.slice none 0 0)) ?_ ?_
  ·refine ⟨((((Below.refl _ _).alloc (Nat.le_refl _) _).alloc (by simp) _).alloc (by simp;omega) _),by simp,(((Box2.new _ _ _).old _).old _),?_,?_⟩
   ·have:=((Box2.new (w.alloc (.cells #[.bool na,.slice ao A.length ca] 45)) (.bool nb) (.slice bo B.length cb)).old (.cells #[.bool false,.slice none 0 0] 45))
    simpa using this
   ·have:=(Box2.new ((w.alloc (.cells #[.bool na,.slice ao A.length ca] 45)).alloc (.cells #[.bool nb,.slice bo B.length cb] 45)) (.bool false) (.slice none 0 0))
    simpa using this
  rintro W0 ⟨hw0,hs0,x0,x1,x2⟩
  have hK:∀ w',Below (w.heap.size+2) W0 w'→Below (w.heap.size+2) W0 w'∧w'.cell? ⟨w.heap.size,0,none⟩ = some (.bool na)∧w'.cell? ⟨w.heap.size,1,none⟩ = some (.slice ao A.length ca)∧w'.cell? ⟨w.heap.size+1,1,none⟩ = some (.slice bo B.length cb):=fun w' h =>
   ⟨h,(x0.below h (by omega)).c0,(x0.below h (by omega)).c1,(x1.below h (by omega)).c1⟩
  have HK:=hide hK
  have HA:=hide (hA.below hw0)
  have HB:=hide (hB.below hw0)
  have X2:=hide x2
  have HW0:=hide hw0
  have hv':val B≤val A:=by omega
  clear hK hA hB x0 x1 x2 hw0
  go_region_held3 (fun w'=>Below (w.heap.size+2) W0 w'∧w'.cell? ⟨w.heap.size,0,none⟩ = some (.bool na)∧w'.cell? ⟨w.heap.size,1,none⟩ = some (.slice ao A.length ca)∧w'.cell? ⟨w.heap.size+1,1,none⟩ = some (.slice bo B.length cb))
   (first | exact uH HK _ (Below.refl _ _).drew | exact uH HK _ (by assumption) | exact uH HK _ ((hB2.setCell (by simp) _).setCell (by simp) _))
   (first | (go_at_call 140;refine (minus_any ao bo ca cb A B _ ((uH HA).below ((Below.refl _ _).drew)) ((uH HB).below ((Below.refl _ _).drew)) la lb hv').mono ?_;rintro e w1 ⟨ao',cap',L',rfl,g1,g2,g3,g4,hb1⟩;have hB1:Below (w.heap.size+2) W0 w1:=((Below.refl _ _).drew).trans (hb1.mono (by simp [hs0]));have X3:=hide ((uH X2).drew.below hb1 (by simp [hs0]));have G1:=hide g1;have G2:=hide g2;have G4:=hide g4;have L4:L'.length≤35184372088832:=(by omega);have L5:L'.length≤max A.length B.length+1:=(by omega);have s1:=hb1.size;clear g1 g2 g4 g3 hb1) | (go_at_call 134;refine (made_any _ na _ _ _ _ (uH G1) (uH G2) L4).mono ?_;rintro e w2 ⟨v,rfl,⟨n2,a2,c2,L2,rfl,i1⟩,hb2⟩;have hB2:Below (w.heap.size+2) W0 w2:=hB1.trans (hb2.mono (by simp at s1;omega));have X4:=(uH X3).below hb2 (by simp at s1;omega);have y0:=X4.c0;have y1:=X4.c1;have f0:=X4.free 0;have f1:=X4.free 1;have I1:=hide i1;clear i1 hb2 X4))
  have hz:=uH HS1 L' (uH G4)
  have HI:=hide (hz ▸ uH I1)
  clear hz
  go_wp2
  refine bodyPost_ret (v:=.agg #[.bool n2,.slice a2 L2.length c2]) (by simp [results,Tryz.results86,go_sem,y0,y1]) rfl ⟨.agg #[.bool n2,.slice a2 L2.length c2],rfl,?_,?_⟩
  ·exact (IsNumM.stored (uH HI) (by simp;omega) (by simp;omega) (by simp;omega) _ _).more (by have:=L5;omega)
  ·exact (((uH HW0).trans (hB2.mono (by omega))).setCell (by simp;omega) _).setCell (by simp;omega) _
theorem refAdd_any (na nb:Bool) (ao bo:Option Addr) (ca cb:Nat) (A B:List Nat) (w:World) (hA:LimbsAt w ao ca A) (hB:LimbsAt w bo cb B) (la:A.length≤35184372088830) (lb:B.length≤35184372088830) :
  Calls Tryz.prog 86 #[.agg #[.bool na,.slice ao A.length ca],.agg #[.bool nb,.slice bo B.length cb]] w fun e w'=>∃ v,e = .returned v∧IsNumM (max A.length B.length+1) w.heap.size w' v (sval na A+sval nb B)∧Below w.heap.size w w':=by
 by_cases hn:na = nb
 ·subst hn;exact refAdd_same na ao bo ca cb A B w hA hB la lb
 ·exact refAdd_diff na nb ao bo ca cb A B w hA hB la lb hn
end Go.Proofs.YtlnphkioddknfaaGreatDoor
