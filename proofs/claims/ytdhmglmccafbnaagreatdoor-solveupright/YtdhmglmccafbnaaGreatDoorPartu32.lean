/- Part 32 of the texts. -/
import Derived.Test.YtdhmglmccafbnaaGreatDoorPartu31
import Derived.Deep.CutRange
import Derived.Test.YtdhmglmccafbnaaGreatDoorPartu28
import Derived.Test.YtdhmglmccafbnaaGreatDoorPartu23
import Derived.Test.YtdhmglmccafbnaaGreatDoorPartu26
import Derived.Test.YtdhmglmccafbnaaGreatDoorPartu13
import Derived.Deep.Cut
import Derived.BigQuiet
import Derived.Test.YtdhmglmccafbnaaGreatDoorPartu04
import Derived.Maps.AppendAt
import Derived.Test.YtdhmglmccafbnaaGreatDoorPartu27
import Derived.Test.YtdhmglmccafbnaaGreatDoorPartu06
import Derived.Test.YtdhmglmccafbnaaGreatDoorPartu05
import Derived.Test.YtdhmglmccafbnaaGreatDoorPartu07
import Derived.Maps.Own
import Derived.Maps.OwnOps
import Derived.Maps.OwnSet
import Derived.DeepKeys4
import Derived.Test.YtdhmglmccafbnaaGreatDoorPartu08
import Derived.WalkSmall
import Derived.Test.YtdhmglmccafbnaaGreatDoorPartu01
import Derived.OwnWalk
set_option maxHeartbeats 32000000
set_option maxRecDepth 20000
namespace Go.Proofs.YtdhmglmccafbnaaGreatDoor
open Go.RowKit
attribute [local go_sem ↓] Go.wp_at_zero Go.wp_at_succ
theorem Box3.oth3 {w:World} {b:Nat} {x y z:Value} (h:Box3 w b x y z) {g:Nat} (hg:b ≠ g) (u u' u'':Value):Box3 (((w.setCell ⟨g,0,none⟩ u).setCell ⟨g,1,none⟩ u').setCell ⟨g,2,none⟩ u'') b x y z :=
 ((h.other (p:=⟨g,0,none⟩) hg u).other (p:=⟨g,1,none⟩) hg u').other (p:=⟨g,2,none⟩) hg u''
theorem Kept.oth3 {w:World} {b g:Nat} {lo s:Int} (h:Kept w b lo s) {x:Bool} {a:Option Addr} {l c:Nat} {y:Int} (hg:Box3 w g (.bool x) (.slice a l c) (.int .i64 y)) (hne:b ≠ g) (u u' u'':Value):Kept (((w.setCell ⟨g,0,none⟩ u).setCell ⟨g,1,none⟩ u').setCell ⟨g,2,none⟩ u'') b lo s:=by
 obtain ⟨n,a,l,c,X,h1,h2⟩:=h
 exact ⟨n,a,l,c,X,h1.oth3 hne _ _ _,IsDy.put3 h2 hg _ _ _⟩
theorem Kept.put {w:World} {g:Nat} {lo s t:Int} {lo':Int} (h:Kept w g lo s) {n:Bool} {a:Option Addr} {l c:Nat} {X:Int} (hv:IsLv w (.agg #[.bool n,.slice a l c,.int .i64 X]) lo' t):Kept (((w.setCell ⟨g,0,none⟩ (.bool n)).setCell ⟨g,1,none⟩ (.slice a l c)).setCell ⟨g,2,none⟩ (.int .i64 X)) g lo' t:=by
 obtain ⟨n',a',l',c',X',h1,_⟩:=h
 exact ⟨n,a,l,c,X,h1.put _ _ _,IsDy.put3 hv h1 _ _ _⟩
theorem rof11 (w:World):Calls Tryz.prog 46 #[.int .i64 1] w fun e w'=>∃ v,e = .returned v∧IsNum w.heap.size w' v 1∧Below w.heap.size w w' :=
 (refOf_any 1 w (by decide) (by decide)).mono fun e w' ⟨r,h1,h2,h3⟩=>⟨r,h1,h2.num (by omega),h3⟩
end Go.Proofs.YtdhmglmccafbnaaGreatDoor
namespace Go.Proofs.YtdhmglmccafbnaaGreatDoor
open Go.RowKit
attribute [local go_sem ↓] Go.wp_at_zero Go.wp_at_succ
def RsSt (w wr:World) (r c p q s d:Int) (ao bo co:Option Addr) (na nb nc ca cb cc:Nat) (lo z:Int):Prop :=
 Bx3D w wr r c p q s d ao bo co na nb nc ca cb cc∧Kept wr (w.heap.size+1+1+1+1) lo z
theorem RsSt.all {w wr w':World} {r c p q s d:Int} {ao bo co:Option Addr} {na nb nc ca cb cc:Nat} {lo z:Int} (h:RsSt w wr r c p q s d ao bo co na nb nc ca cb cc lo z) (hb:Below wr.heap.size wr w'):RsSt w w' r c p q s d ao bo co na nb nc ca cb cc lo z:=⟨h.1.all hb,h.2.all hb⟩
theorem RsSt.start (w:World) (r c p q s d:Int) (ao bo co:Option Addr) (na nb nc ca cb cc:Nat) (lo:Int):RsSt w (((((w.alloc (.cells #[.int .i64 r,.int .i64 c,.slice ao na ca] 25)).alloc (.cells #[.int .i64 p,.int .i64 q,.slice bo nb cb] 25)).alloc (.cells #[.int .i64 s,.int .i64 d,.slice co nc cc] 25)).alloc (.cells #[.bool false,.slice none 0 0,.int .i64 0] 41)).alloc (.cells #[.bool false,.slice none 0 0,.int .i64 0] 41)) r c p q s d ao bo co na nb nc ca cb cc lo 0:=by
 have h:=Bx3D.start w r c p q s d ao bo co na nb nc ca cb cc
 have e:((((w.alloc (.cells #[.int .i64 r,.int .i64 c,.slice ao na ca] 25)).alloc (.cells #[.int .i64 p,.int .i64 q,.slice bo nb cb] 25)).alloc (.cells #[.int .i64 s,.int .i64 d,.slice co nc cc] 25)).alloc (.cells #[.bool false,.slice none 0 0,.int .i64 0] 41)).heap.size = w.heap.size+1+1+1+1:=by simp
 generalize (((w.alloc (.cells #[.int .i64 r,.int .i64 c,.slice ao na ca] 25)).alloc (.cells #[.int .i64 p,.int .i64 q,.slice bo nb cb] 25)).alloc (.cells #[.int .i64 s,.int .i64 d,.slice co nc cc] 25)).alloc (.cells #[.bool false,.slice none 0 0,.int .i64 0] 41) = w1 at *
 have b2:=below_alloc9 w1 (.cells #[.bool false,.slice none 0 0,.int .i64 0] 41)
 have k2:=Kept.new w1 lo
 rw [e] at k2
 exact ⟨h.all b2,k2⟩
theorem Bx3D.oth {w wr:World} {r c p q s d:Int} {ao bo co:Option Addr} {na nb nc ca cb cc:Nat} (h:Bx3D w wr r c p q s d ao bo co na nb nc ca cb cc) {g:Nat} (hg:w.heap.size+1+1+1 < g) (u u' u'':Value):Bx3D w (((wr.setCell ⟨g,0,none⟩ u).setCell ⟨g,1,none⟩ u').setCell ⟨g,2,none⟩ u'') r c p q s d ao bo co na nb nc ca cb cc :=
 ⟨h.1.oth3 (by omega) _ _ _,h.2.1.oth3 (by omega) _ _ _,h.2.2.1.oth3 (by omega) _ _ _,h.2.2.2.1.oth3 (by omega) _ _ _,below_put3 h.2.2.2.2 (by omega) _ _ _⟩
theorem RsSt.put {w wr:World} {r c p q s d:Int} {ao bo co:Option Addr} {na nb nc ca cb cc:Nat} {lo z t:Int} (h:RsSt w wr r c p q s d ao bo co na nb nc ca cb cc lo z) {ng:Bool} {a:Option Addr} {l cp:Nat} {X:Int} (hv:IsLv wr (.agg #[.bool ng,.slice a l cp,.int .i64 X]) lo t) :
  RsSt w (((wr.setCell ⟨(w.heap.size+1+1+1+1),0,none⟩ (.bool ng)).setCell ⟨(w.heap.size+1+1+1+1),1,none⟩ (.slice a l cp)).setCell ⟨(w.heap.size+1+1+1+1),2,none⟩ (.int .i64 X)) r c p q s d ao bo co na nb nc ca cb cc lo t:=⟨h.1.oth (by omega) _ _ _,h.2.put hv⟩
theorem RsSt.away {w wr:World} {r c p q s d:Int} {ao bo co:Option Addr} {na nb nc ca cb cc:Nat} {lo z:Int} (h:RsSt w wr r c p q s d ao bo co na nb nc ca cb cc lo z) {g:Nat} {lo' y:Int} (hg:Kept wr g lo' y) (hl:(w.heap.size+1+1+1+1) < g) (u u' u'':Value) :
  RsSt w (((wr.setCell ⟨g,0,none⟩ u).setCell ⟨g,1,none⟩ u').setCell ⟨g,2,none⟩ u'') r c p q s d ao bo co na nb nc ca cb cc lo z:=by
 obtain ⟨n',a',l',c',X',h1,_⟩:=hg
 exact ⟨h.1.oth (by omega) _ _ _,h.2.oth3 h1 (by omega) _ _ _⟩
theorem rRes_of (r n c na nb nc ca cb cc:Nat) (ao bo co:Option Addr) (x:Nat→Nat→Nat) (rw cl:Nat→List Int) (lo1 lo2:Int) (xa dd D:Nat→Nat→Int) (sm:Nat→Nat→Int) (w:World) (hr:r≤6) (hc:c≤6) (s0:sm 0 0 = 0) (s1:∀ i,sm (i+1) 0 = sm i c)
  (C1:∀ w' i k,Below w.heap.size w w'→i < r→k < c→Calls Tryz.prog 59 #[.agg #[.int .i64 r,.int .i64 c,.slice ao na ca],.int .i64 (i:Nat),.int .i64 (k:Nat)] w' fun e w''=>e = .returned (.int .u64 (x i k:Nat))∧Below w'.heap.size w' w'')
  (C2:∀ w' i k,i < r→k < c→Calls Tryz.prog 65 #[.int .u64 (x i k:Nat)] w' fun e w''=>∃ u,e = .returned u∧IsLv w'' u lo1 (xa i k)∧Below w'.heap.size w' w'')
  (C3:∀ w' i,Below w.heap.size w w'→i < r→Calls Tryz.prog 66 #[.agg #[.int .i64 r,.int .i64 n,.slice bo nb cb],.int .i64 (i:Nat)] w' fun e w''=>∃ go d,e = .returned (.slice go n d)∧BitsAt w'' go d (rw i)∧Below w'.heap.size w' w'')
  (C4:∀ w' k,Below w.heap.size w w'→k < c→Calls Tryz.prog 48 #[.agg #[.int .i64 n,.int .i64 c,.slice co nc cc],.int .i64 (k:Nat),.int .i64 0] w' fun e w''=>∃ go d,e = .returned (.slice go n d)∧BitsAt w'' go d (cl k)∧Below w'.heap.size w' w'')
  (C5:∀ w' i k xo xd yo yd,i < r→k < c→BitsAt w' xo xd (rw i)→BitsAt w' yo yd (cl k)→Calls Tryz.prog 49 #[.slice xo n xd,.slice yo n yd] w' fun e w''=>∃ v,e = .returned v∧IsLv w'' v lo1 (dd i k)∧Below w'.heap.size w' w'')
  (C6:∀ w' i k v u,i < r→k < c→IsLv w' v lo1 (xa i k)→IsLv w' u lo1 (dd i k)→Calls Tryz.prog 64 #[v,u] w' fun e w''=>∃ q,e = .returned q∧IsLv w'' q lo1 (D i k)∧Below w'.heap.size w' w'')
  (C7:∀ w' i k v,i < r→k < c→IsLv w' v lo1 (D i k)→Calls Tryz.prog 25 #[v,v] w' fun e w''=>∃ q,e = .returned q∧IsLv w'' q lo2 (D i k * D i k)∧Below w'.heap.size w' w'')
  (C8:∀ w' i k v u,i < r→k < c→IsLv w' v lo2 (sm i k)→IsLv w' u lo2 (D i k * D i k)→Calls Tryz.prog 26 #[v,u] w' fun e w''=>∃ q,e = .returned q∧IsLv w'' q lo2 (sm i (k+1))∧Below w'.heap.size w' w'') :
  Calls Tryz.prog 20 #[.agg #[.int .i64 r,.int .i64 c,.slice ao na ca],.agg #[.int .i64 r,.int .i64 n,.slice bo nb cb],.agg #[.int .i64 n,.int .i64 c,.slice co nc cc]] w fun e w'=>∃ v,e = .returned v∧IsLv w' v lo2 (sm r 0)∧Below w.heap.size w w':=by
 have K1:=hide C1;have K2:=hide C2;have K3:=hide C3;have K4:=hide C4;have K5:=hide C5;have K6:=hide C6;have K7:=hide C7;have K8:=hide C8;have S1:=hide s1
 have ST:=hide (show RsSt w _ r c r n n c ao bo co na nb nc ca cb cc lo2 (sm 0 0) from by rw [s0];exact RsSt.start w r c r n n c ao bo co na nb nc ca cb cc lo2)
 clear C1 C2 C3 C4 C5 C6 C7 C8 s0 s1
 go_enter Tryz.func20,Tryz.ntmps20
 go_wp2_with fail
 go_loopw [8] (fun i wr=>∃ j:Nat,j≤r∧i = .int .i64 j∧Hid (RsSt w wr r c r n n c ao bo co na nb nc ca cb cc lo2 (sm j 0))) (fun i _=>r - (intOf i).toNat)
 case atStart=>exact ⟨0,Nat.zero_le _,rfl,ST⟩
 case round =>
  clear ST
  obtain ⟨j,hj,rfl,hS⟩:=hrel
  have m1:=(uH hS).1.1.c0
  by_cases hlt:j < r
  ·have hjI:(j:Int) < (r:Int):=by omega
   go_wp2_with fail
   clear m1
   go_loopw [9] (fun i wr=>∃ k:Nat,k≤c∧i = .int .i64 k∧Hid (RsSt w wr r c r n n c ao bo co na nb nc ca cb cc lo2 (sm j k))) (fun i _=>c - (intOf i).toNat)
   case atStart=>exact ⟨0,Nat.zero_le _,rfl,hS⟩
   case round =>
    clear hS
    obtain ⟨k,hk,rfl,hS⟩:=hrel
    have m1:=(uH hS).1.1.c1
    by_cases hkc:k < c
    ·have hkI:(k:Int) < (c:Int):=by omega
     go_wp2_with fail
     clear m1
     refine at_world (fun W=>RsSt w W r c r n n c ao bo co na nb nc ca cb cc lo2 (sm j k)) (uH hS) ?_
     clear hS
     rintro W0 hS
     go_cut [10] from 18 to 41 (fun p wx=>∃ g:Nat,p = .pointer (some ⟨g,0,none⟩)∧Hid (RsSt w wx r c r n n c ao bo co na nb nc ca cb cc lo2 (sm j k)∧Kept wx g lo1 (D j k)∧(w.heap.size+1+1+1+1) < g))
     case first =>
      have HK:=hide (show ∀ w' (h:Below W0.heap.size W0 w'),Below W0.heap.size W0 w'∧w'.cell? ⟨w.heap.size,0,none⟩ = some (.int .i64 r)∧w'.cell? ⟨w.heap.size,1,none⟩ = some (.int .i64 c)∧w'.cell? ⟨w.heap.size,2,none⟩ = some (.slice ao na ca)∧w'.cell? ⟨w.heap.size+1,0,none⟩ = some (.int .i64 r)∧w'.cell? ⟨w.heap.size+1,1,none⟩ = some (.int .i64 n)∧w'.cell? ⟨w.heap.size+1,2,none⟩ = some (.slice bo nb cb)∧w'.cell? ⟨w.heap.size+1+1,0,none⟩ = some (.int .i64 n)∧w'.cell? ⟨w.heap.size+1+1,1,none⟩ = some (.int .i64 c)∧w'.cell? ⟨w.heap.size+1+1,2,none⟩ = some (.slice co nc cc) from fun w' h=>⟨h,(hS.1.all h).1.c0,(hS.1.all h).1.c1,(hS.1.all h).1.c2,(hS.1.all h).2.1.c0,(hS.1.all h).2.1.c1,(hS.1.all h).2.1.c2,(hS.1.all h).2.2.1.c0,(hS.1.all h).2.2.1.c1,(hS.1.all h).2.2.1.c2⟩)
      have HKA:=hide (fun wn o (h1:Below W0.heap.size W0 wn)=>uH HK (wn.alloc o) (h1.alloc h1.size o))
      have HKS:=hide (fun wn g u u' u'' (h1:Below W0.heap.size W0 wn) (h4:W0.heap.size≤g)=>uH HK (((wn.setCell ⟨g,0,none⟩ u).setCell ⟨g,1,none⟩ u').setCell ⟨g,2,none⟩ u'') (below_put3 h1 h4 u u' u''))
      have BXA:=hide (fun wm o (h1:Below (W0.drew.alloc o).heap.size (W0.drew.alloc o) wm)=>(show wm.heap[W0.heap.size]? = some o from (h1.block W0.heap.size (by simp)).trans (heap_alloc_new W0.drew o)))
      have BXC:=hide (fun wm o (h1:Below (W0.alloc o).drew.heap.size (W0.alloc o).drew wm)=>(show wm.heap[W0.heap.size]? = some o from (h1.block W0.heap.size (by simp)).trans (heap_alloc_new W0 o)))
      have BXB:=hide (fun (wn wm:World) o (h1:Below (wn.alloc o).heap.size (wn.alloc o) wm)=>(show wm.heap[wn.heap.size]? = some o from (h1.block wn.heap.size (by simp)).trans (heap_alloc_new wn o)))
      have BW:=hide (fun w' (h:Below W0.heap.size W0 w')=>hS.1.2.2.2.2.trans (h.mono hS.1.2.2.2.2.size))
      have SA:=hide (fun w' (h:Below W0.heap.size W0 w')=>hS.all h)
      have HG:=hide hS.2.lt
      have W1:=hide (fun w' h=>uH K1 w' j k h hlt hkc)
      have W2:=hide (fun w'=>uH K2 w' j k hlt hkc)
      have W3:=hide (fun w' h=>uH K3 w' j h hlt)
      have W4:=hide (fun w' h=>uH K4 w' k h hkc)
      have W5:=hide (fun w' xo xd yo yd=>uH K5 w' j k xo xd yo yd hlt hkc)
      have W6:=hide (fun w' v u=>uH K6 w' j k v u hlt hkc)
      generalize x j k = xx at *
      clear hS K1 K2 K3 K4 K5 K6 K7 K8 S1
      go_region_held3 (fun w'=>Below W0.heap.size W0 w'∧w'.cell? ⟨w.heap.size,0,none⟩ = some (.int .i64 r)∧w'.cell? ⟨w.heap.size,1,none⟩ = some (.int .i64 c)∧w'.cell? ⟨w.heap.size,2,none⟩ = some (.slice ao na ca)∧w'.cell? ⟨w.heap.size+1,0,none⟩ = some (.int .i64 r)∧w'.cell? ⟨w.heap.size+1,1,none⟩ = some (.int .i64 n)∧w'.cell? ⟨w.heap.size+1,2,none⟩ = some (.slice bo nb cb)∧w'.cell? ⟨w.heap.size+1+1,0,none⟩ = some (.int .i64 n)∧w'.cell? ⟨w.heap.size+1+1,1,none⟩ = some (.int .i64 c)∧w'.cell? ⟨w.heap.size+1+1,2,none⟩ = some (.slice co nc cc))
       (first | assumption | exact uH HK _ (Below.refl _ _).drew | exact uH HK _ (by assumption) | exact uH HKA _ _ (by assumption) | exact uH HKA _ _ (And.left (by assumption)) | exact uH HKS _ _ _ _ _ hBwm (by first | exact Nat.le_refl _ | exact Below.size (by assumption)) | fail "KK")
       (first
        | (go_at_call 59;refine (uH W1 _ (uH BW _ (And.left (by assumption)))).mono ?_;rintro e w6 ⟨rfl,hb1⟩;have hBw6:Below W0.heap.size W0 w6:=Below.trans (And.left (by assumption)) (hb1.mono (Below.size (And.left (by assumption))));(first | (replace xb:=Box3.all xb hb1) | ((with_reducible (have xb0:=uH BXA _ _ hb1));have xb:Box3 w6 W0.heap.size (.bool false) (.slice none 0 0) (.int .i64 0):=xb0;clear xb0) | ((with_reducible (have xb0:=uH BXC _ _ hb1));have xb:Box3 w6 W0.heap.size (.bool false) (.slice none 0 0) (.int .i64 0):=xb0;clear xb0) | ((with_reducible (have xb0:=uH BXB _ _ _ hb1));have xb:Box3 w6 _ (.bool false) (.slice none 0 0) (.int .i64 0):=xb0;clear xb0) | skip);(first | (with_reducible (replace QV:=hide ((uH QV).below hb1))) | (with_reducible (replace QV:=hide (((uH QV).below (below_alloc9 _ _)).below hb1))) | skip);(first | (with_reducible (replace QR:=hide ((uH QR).below hb1))) | (with_reducible (replace QR:=hide (((uH QR).below (below_alloc9 _ _)).below hb1))) | skip);(first | (with_reducible (replace QC:=hide ((uH QC).below hb1))) | (with_reducible (replace QC:=hide (((uH QC).below (below_alloc9 _ _)).below hb1))) | skip);(first | (with_reducible (replace QD:=hide ((uH QD).below hb1))) | (with_reducible (replace QD:=hide (((uH QD).below (below_alloc9 _ _)).below hb1))) | skip); clear hb1)
        | (go_at_call 65;refine (uH W2 _ ).mono ?_;rintro e w7 ⟨v7,rfl,qn,hb1⟩;have hBw7:Below W0.heap.size W0 w7:=Below.trans (And.left (by assumption)) (hb1.mono (Below.size (And.left (by assumption))));(first | (replace xb:=Box3.all xb hb1) | ((with_reducible (have xb0:=uH BXA _ _ hb1));have xb:Box3 w7 W0.heap.size (.bool false) (.slice none 0 0) (.int .i64 0):=xb0;clear xb0) | ((with_reducible (have xb0:=uH BXC _ _ hb1));have xb:Box3 w7 W0.heap.size (.bool false) (.slice none 0 0) (.int .i64 0):=xb0;clear xb0) | ((with_reducible (have xb0:=uH BXB _ _ _ hb1));have xb:Box3 w7 _ (.bool false) (.slice none 0 0) (.int .i64 0):=xb0;clear xb0) | skip);(first | (with_reducible (replace QR:=hide ((uH QR).below hb1))) | (with_reducible (replace QR:=hide (((uH QR).below (below_alloc9 _ _)).below hb1))) | skip);(first | (with_reducible (replace QC:=hide ((uH QC).below hb1))) | (with_reducible (replace QC:=hide (((uH QC).below (below_alloc9 _ _)).below hb1))) | skip);(first | (with_reducible (replace QD:=hide ((uH QD).below hb1))) | (with_reducible (replace QD:=hide (((uH QD).below (below_alloc9 _ _)).below hb1))) | skip);have QV:=hide qn;clear qn;clear hb1)
        | (go_at_call 66;refine (uH W3 _ (uH BW _ (And.left (by assumption)))).mono ?_;rintro e w8 ⟨po,pd,rfl,qn,hb1⟩;have hBw8:Below W0.heap.size W0 w8:=Below.trans (And.left (by assumption)) (hb1.mono (Below.size (And.left (by assumption))));(first | (replace xb:=Box3.all xb hb1) | ((with_reducible (have xb0:=uH BXA _ _ hb1));have xb:Box3 w8 W0.heap.size (.bool false) (.slice none 0 0) (.int .i64 0):=xb0;clear xb0) | ((with_reducible (have xb0:=uH BXC _ _ hb1));have xb:Box3 w8 W0.heap.size (.bool false) (.slice none 0 0) (.int .i64 0):=xb0;clear xb0) | ((with_reducible (have xb0:=uH BXB _ _ _ hb1));have xb:Box3 w8 _ (.bool false) (.slice none 0 0) (.int .i64 0):=xb0;clear xb0) | skip);(first | (with_reducible (replace QV:=hide ((uH QV).below hb1))) | (with_reducible (replace QV:=hide (((uH QV).below (below_alloc9 _ _)).below hb1))) | skip);(first | (with_reducible (replace QC:=hide ((uH QC).below hb1))) | (with_reducible (replace QC:=hide (((uH QC).below (below_alloc9 _ _)).below hb1))) | skip);(first | (with_reducible (replace QD:=hide ((uH QD).below hb1))) | (with_reducible (replace QD:=hide (((uH QD).below (below_alloc9 _ _)).below hb1))) | skip);have QR:=hide qn;clear qn;clear hb1)
        | (go_at_call 48;refine (uH W4 _ (uH BW _ (And.left (by assumption)))).mono ?_;rintro e w9 ⟨qo,qd,rfl,qn,hb1⟩;have hBw9:Below W0.heap.size W0 w9:=Below.trans (And.left (by assumption)) (hb1.mono (Below.size (And.left (by assumption))));(first | (replace xb:=Box3.all xb hb1) | ((with_reducible (have xb0:=uH BXA _ _ hb1));have xb:Box3 w9 W0.heap.size (.bool false) (.slice none 0 0) (.int .i64 0):=xb0;clear xb0) | ((with_reducible (have xb0:=uH BXC _ _ hb1));have xb:Box3 w9 W0.heap.size (.bool false) (.slice none 0 0) (.int .i64 0):=xb0;clear xb0) | ((with_reducible (have xb0:=uH BXB _ _ _ hb1));have xb:Box3 w9 _ (.bool false) (.slice none 0 0) (.int .i64 0):=xb0;clear xb0) | skip);(first | (with_reducible (replace QV:=hide ((uH QV).below hb1))) | (with_reducible (replace QV:=hide (((uH QV).below (below_alloc9 _ _)).below hb1))) | skip);(first | (with_reducible (replace QR:=hide ((uH QR).below hb1))) | (with_reducible (replace QR:=hide (((uH QR).below (below_alloc9 _ _)).below hb1))) | skip);(first | (with_reducible (replace QD:=hide ((uH QD).below hb1))) | (with_reducible (replace QD:=hide (((uH QD).below (below_alloc9 _ _)).below hb1))) | skip);have QC:=hide qn;clear qn;clear hb1)
        | (go_at_call 49;refine (uH W5 _ _ _ _ _ (by first | with_reducible exact uH QR | exact (uH QR).below (below_alloc9 _ _)) (by first | with_reducible exact uH QC | exact (uH QC).below (below_alloc9 _ _))).mono ?_;rintro e w10 ⟨v10,rfl,qn,hb1⟩;have hBw10:Below W0.heap.size W0 w10:=Below.trans (And.left (by assumption)) (hb1.mono (Below.size (And.left (by assumption))));(first | (replace xb:=Box3.all xb hb1) | ((with_reducible (have xb0:=uH BXA _ _ hb1));have xb:Box3 w10 W0.heap.size (.bool false) (.slice none 0 0) (.int .i64 0):=xb0;clear xb0) | ((with_reducible (have xb0:=uH BXC _ _ hb1));have xb:Box3 w10 W0.heap.size (.bool false) (.slice none 0 0) (.int .i64 0):=xb0;clear xb0) | ((with_reducible (have xb0:=uH BXB _ _ _ hb1));have xb:Box3 w10 _ (.bool false) (.slice none 0 0) (.int .i64 0):=xb0;clear xb0) | skip);(first | (with_reducible (replace QV:=hide ((uH QV).below hb1))) | (with_reducible (replace QV:=hide (((uH QV).below (below_alloc9 _ _)).below hb1))) | skip);(first | (with_reducible (replace QR:=hide ((uH QR).below hb1))) | (with_reducible (replace QR:=hide (((uH QR).below (below_alloc9 _ _)).below hb1))) | skip);(first | (with_reducible (replace QC:=hide ((uH QC).below hb1))) | (with_reducible (replace QC:=hide (((uH QC).below (below_alloc9 _ _)).below hb1))) | skip);have QD:=hide qn;clear qn;clear hb1)
        | (go_at_call 64;refine (uH W6 _ _ _ (by first | with_reducible exact uH QV | exact (uH QV).below (below_alloc9 _ _)) (by first | with_reducible exact uH QD | exact (uH QD).below (below_alloc9 _ _))).mono ?_;rintro e wm ⟨q,rfl,⟨n5,a5,c5,L5,rfl,i5⟩,hb1⟩;have hBwm:Below W0.heap.size W0 wm:=Below.trans (And.left (by assumption)) (hb1.mono (Below.size (And.left (by assumption))));(first | (replace xb:=Box3.all xb hb1) | ((with_reducible (have xb0:=uH BXA _ _ hb1));have xb:Box3 wm W0.heap.size (.bool false) (.slice none 0 0) (.int .i64 0):=xb0;clear xb0) | ((with_reducible (have xb0:=uH BXC _ _ hb1));have xb:Box3 wm W0.heap.size (.bool false) (.slice none 0 0) (.int .i64 0):=xb0;clear xb0) | ((with_reducible (have xb0:=uH BXB _ _ _ hb1));have xb:Box3 wm _ (.bool false) (.slice none 0 0) (.int .i64 0):=xb0;clear xb0) | skip);(first | (with_reducible (replace QV:=hide ((uH QV).below hb1))) | (with_reducible (replace QV:=hide (((uH QV).below (below_alloc9 _ _)).below hb1))) | skip);(first | (with_reducible (replace QR:=hide ((uH QR).below hb1))) | (with_reducible (replace QR:=hide (((uH QR).below (below_alloc9 _ _)).below hb1))) | skip);(first | (with_reducible (replace QC:=hide ((uH QC).below hb1))) | (with_reducible (replace QC:=hide (((uH QC).below (below_alloc9 _ _)).below hb1))) | skip);(first | (with_reducible (replace QD:=hide ((uH QD).below hb1))) | (with_reducible (replace QD:=hide (((uH QD).below (below_alloc9 _ _)).below hb1))) | skip);have IP:=hide (show IsLv wm (.agg #[.bool n5,.slice a5 L5.length c5,.int .i64 (oE (D j k) lo1)]) lo1 (D j k) from ⟨n5,a5,c5,L5,rfl,i5⟩);(first | (have y0:=xb.c0;have y1:=xb.c1;have y2:=xb.c2;have f0:=xb.free 0;have f1:=xb.free 1;have f2:=xb.free 2) | skip);clear i5;clear hb1)
        | fail "NO ARM")
      all_goals
       first
        | (have xq:=xb;clear y0 y1 y2 f0 f1 f2;go_wp2_with fail;go_meet;case rel=>exact ⟨_,rfl,hide ⟨(uH SA _ hBwm).away ⟨_,_,_,_,_,xq,IsLv.zero _ 0⟩ (by first | exact uH HG | exact Nat.lt_of_lt_of_le (uH HG) (Below.size hBw6) | exact Nat.lt_of_lt_of_le (uH HG) (Below.size hBw7) | exact Nat.lt_of_lt_of_le (uH HG) (Below.size hBw8) | exact Nat.lt_of_lt_of_le (uH HG) (Below.size hBw9) | exact Nat.lt_of_lt_of_le (uH HG) (Below.size hBw10)) _ _ _,⟨_,_,_,_,_,xq.put _ _ _,IsDy.put3 (uH IP) xq _ _ _⟩,(by first | exact uH HG | exact Nat.lt_of_lt_of_le (uH HG) (Below.size hBw6) | exact Nat.lt_of_lt_of_le (uH HG) (Below.size hBw7) | exact Nat.lt_of_lt_of_le (uH HG) (Below.size hBw8) | exact Nat.lt_of_lt_of_le (uH HG) (Below.size hBw9) | exact Nat.lt_of_lt_of_le (uH HG) (Below.size hBw10))⟩⟩)
        | (go_wp2_with fail;go_meet;case rel=>exact ⟨_,rfl,hide ⟨(uH SA _ hBwm).all (below_alloc9 _ _),⟨_,_,_,_,_,Box3.new _ _ _ _,(uH IP).below (below_alloc9 _ _)⟩,Nat.lt_of_lt_of_le (uH HG) (Below.size hBwm)⟩⟩)
        | fail "NO WAY"
     case rest =>
      obtain ⟨g,rfl,hD⟩:=hcut
      obtain ⟨hS,hkp,hg⟩:=uH hD
      have ST:=hide hS;have KP:=hide hkp;have HG:=hide hg
      clear hS hkp hg hD
      have W7:=hide (fun w' v=>uH K7 w' j k v hlt hkc)
      have W8:=hide (fun w' v u=>uH K8 w' j k v u hlt hkc)
      go_wp2_with fail
      refine at_world (fun W=>RsSt w W r c r n n c ao bo co na nb nc ca cb cc lo2 (sm j k)∧Kept W g lo1 (D j k)) ⟨uH ST,uH KP⟩ ?_
      clear ST KP
      rintro W0 ⟨st,kp⟩
      have D0:=(Below.refl W0.heap.size W0).drew
      have ST:=hide (st.all D0)
      obtain ⟨n1,a1,l1,c1,X1,bd,id⟩:=kp.all D0
      obtain ⟨n2,a2,l2,c2,X2,bs,is⟩:=(uH ST).2
      have BD:=hide bd;have ID:=hide id;have BS:=hide bs;have IS:=hide is
      have d0:=bd.c0;have d1:=bd.c1;have d2:=bd.c2
      have y0:=bs.c0;have y1:=bs.c1;have y2:=bs.c2;have f0:=bs.free 0;have f1:=bs.free 1;have f2:=bs.free 2
      clear st kp bd id bs is D0
      go_region_with (first
       | (go_at_call 25;refine (uH W7 _ _ (uH ID)).mono ?_;rintro e w9 ⟨v,rfl,qn,hb1⟩;clear y0 y1 y2 f0 f1 f2 d0 d1 d2;replace BS:=hide ((uH BS).all hb1);replace BD:=hide ((uH BD).all hb1);replace ST:=hide ((uH ST).all hb1);have y0:=(uH BS).c0;have y1:=(uH BS).c1;have y2:=(uH BS).c2;have f0:=(uH BS).free 0;have f1:=(uH BS).free 1;have f2:=(uH BS).free 2;have d0:=(uH BD).c0;have d1:=(uH BD).c1;have d2:=(uH BD).c2;replace IS:=hide ((uH IS).below hb1);have QM:=hide qn;clear qn hb1)
       | (go_at_call 26;refine (uH W8 _ _ _ (uH IS) (uH QM)).mono ?_;rintro e w9 ⟨v,rfl,⟨n5,a5,c5,L5,rfl,i5⟩,hb1⟩;clear y0 y1 y2 f0 f1 f2 d0 d1 d2;replace BS:=hide ((uH BS).all hb1);replace BD:=hide ((uH BD).all hb1);replace ST:=hide ((uH ST).all hb1);have y0:=(uH BS).c0;have y1:=(uH BS).c1;have y2:=(uH BS).c2;have f0:=(uH BS).free 0;have f1:=(uH BS).free 1;have f2:=(uH BS).free 2;have d0:=(uH BD).c0;have d1:=(uH BD).c1;have d2:=(uH BD).c2;have IP:=hide (show IsLv w9 (.agg #[.bool n5,.slice a5 L5.length c5,.int .i64 (oE (sm j (k+1)) lo2)]) lo2 (sm j (k+1)) from ⟨n5,a5,c5,L5,rfl,i5⟩);clear i5 hb1)
       | fail "NO ARM")
      all_goals
       clear d0 d1 d2 y0 y1 y2 f0 f1 f2
       go_wp2_with fail
       go_roundw
       case rel =>
        first
         | exact ⟨k+1,by omega,by go_num,hide ((uH ST).put (uH IP))⟩
         | ((repeat apply Exists.intro);exact ⟨⟨k+1,by omega,by go_num,hide ((uH ST).put (uH IP))⟩,rfl⟩)
       case measure=>simp [intOf];omega
    ·have hkk:k = c:=by omega
     subst hkk
     go_wp2_with fail
     go_round
     case rel=>exact ⟨j+1,by omega,by go_num,by rw [uH S1];exact hS⟩
     case measure=>simp [intOf];omega
  ·have hjj:j = r:=by omega
   subst hjj
   obtain ⟨⟨_,_,_,h1,h3⟩,⟨nn,aa,ll,cx,X,bx,ix⟩⟩:=uH hS
   have y0:=bx.c0;have y1:=bx.c1;have y2:=bx.c2
   have r0:=h1.c0;have r1:=h1.c1;have r2:=h1.c2;have f0:=h1.free 0;have f1:=h1.free 1;have f2:=h1.free 2
   have xe:=h1.put (.bool nn) (.slice aa ll cx) (.int .i64 X)
   have e0:=xe.c0;have e1:=xe.c1;have e2:=xe.c2
   have HS:=hide (IsDy.put3 ix h1 (.bool nn) (.slice aa ll cx) (.int .i64 X))
   have BE:=hide (below_put3 h3 (show w.heap.size≤w.heap.size+1+1+1 by omega) (.bool nn) (.slice aa ll cx) (.int .i64 X))
   clear xe h1 bx ix h3 hS
   go_wp2_with fail
   exact bodyPost_ret (v:=.agg #[.bool nn,.slice aa ll cx,.int .i64 X]) (by simp [results,Tryz.results20,go_sem,e0,e1,e2]) rfl ⟨_,rfl,uH HS,uH BE⟩
end Go.Proofs.YtdhmglmccafbnaaGreatDoor
namespace Go.Proofs.YtdhmglmccafbnaaGreatDoor
open Go.RowKit
attribute [local go_sem ↓] Go.wp_at_zero Go.wp_at_succ
theorem rsums_of (ao bo:Option Addr) (c d n:Nat) (I:List Int) (lo lo1 lo2:Int) (fa fb sm:Nat→Int) (w:World) (hI:BitsAt w ao c I) (hJ:DysAt w bo d n lo1 fb) (hi:I.length = n) (hn:n≤8) (h0:sm 0 = 0)
  (C1:∀ w' k,k < n→Calls Tryz.prog 65 #[.int .u64 (atB I k:Nat)] w' fun r w''=>∃ u,r = .returned u∧IsLv w'' u lo (fa k)∧Below w'.heap.size w' w'')
  (C3:∀ w' k v u,k < n→IsLv w' v lo (fa k)→IsLv w' u lo1 (fb k)→Calls Tryz.prog 25 #[v,u] w' fun r w''=>∃ q,r = .returned q∧IsLv w'' q lo2 (fa k * fb k)∧Below w'.heap.size w' w'')
  (C4:∀ w' k v u,k < n→IsLv w' v lo2 (sm k)→IsLv w' u lo2 (fa k * fb k)→Calls Tryz.prog 26 #[v,u] w' fun r w''=>∃ q,r = .returned q∧IsLv w'' q lo2 (sm (k+1))∧Below w'.heap.size w' w'') :
  Calls Tryz.prog 76 #[.slice ao n c,.slice bo n d] w fun e w'=>∃ v,e = .returned v∧IsLv w' v lo2 (sm n)∧Below w.heap.size w w':=by
 have K1:=hide C1;have K3:=hide C3;have K4:=hide C4;have HI:=hide hI;have HJ:=hide hJ;have LI:=hide hi
 have ST:=hide (show DtSt w _ lo2 (sm 0) from by rw [h0];exact DtSt.start w lo2)
 clear C1 C3 C4 hI hJ hi h0
 go_enter Tryz.func76,Tryz.ntmps76
 go_wp2_with fail
 go_loopw [6] (fun i wr=>∃ k:Nat,k≤n∧i = .int .i64 k∧Hid (DtSt w wr lo2 (sm k))) (fun i _=>n - (intOf i).toNat)
 case atStart=>exact ⟨0,Nat.zero_le _,rfl,ST⟩
 case round =>
  clear ST
  obtain ⟨k,hk,rfl,hS⟩:=hrel
  by_cases hlt:k < n
  ·have hkI:(k:Int) < (n:Int):=by omega
   have W1:=hide (fun w'=>uH K1 w' k hlt)
   have W3:=hide (fun w' v u=>uH K3 w' k v u hlt)
   have W4:=hide (fun w' v u=>uH K4 w' k v u hlt)
   obtain ⟨b1,o1,rfl,p1,q1⟩:=(uH HI).ne (by rw [uH LI];omega)
   rcases (uH HJ).2 with e | ⟨b2,o2,rfl,p2,q2⟩
   ·omega
   have cx:=q1 k (by rw [uH LI];exact hlt)
   obtain ⟨yd,e0,e1,e2,hy⟩:=q2 k hlt
   obtain ⟨yn,ya,yl,yc,yX⟩:=yd
   generalize atB I k = x at *
   have KX:=hide cx;have KY:=hide (show w.cell? ⟨b2,o2+k * 3,none⟩ = some (.bool yn)∧w.cell? ⟨b2,o2+k * 3+1,none⟩ = some (.slice ya yl yc)∧w.cell? ⟨b2,o2+k * 3+2,none⟩ = some (.int .i64 yX) from ⟨e0,e1,e2⟩);have P1:=hide p1;have P2:=hide p2
   have QY0:=hide (show IsLv w (.agg #[.bool yn,.slice ya yl yc,.int .i64 yX]) lo1 (fb k) from hy)
   clear q1 q2 cx e0 e1 e2 hy p1 p2
   go_wp2_with fail
   refine at_world (fun W=>DtSt w W lo2 (sm k)) (uH hS) ?_
   clear hS
   rintro W0 hS
   have D0:=(Below.refl W0.heap.size W0).drew
   have SS:=hide (hS.all D0)
   obtain ⟨nn,aa,ll,cc,X,bx,ix⟩:=(uH SS).2.1
   have y0:=bx.c0;have y1:=bx.c1;have y2:=bx.c2;have f0:=bx.free 0;have f1:=bx.free 1;have f2:=bx.free 2
   have BX:=hide bx;have IX:=hide ix
   have HK:=hide (show ∀ w' (h:Below w.heap.size w w'),w'.cell? ⟨b1,o1+k,none⟩ = some (.int .u64 (x:Nat))∧w'.cell? ⟨b2,o2+k * 3,none⟩ = some (.bool yn)∧w'.cell? ⟨b2,o2+k * 3+1,none⟩ = some (.slice ya yl yc)∧w'.cell? ⟨b2,o2+k * 3+2,none⟩ = some (.int .i64 yX) from fun w' h =>
    ⟨(h.cell (p:=⟨b1,o1+k,none⟩) (uH P1)).trans (uH KX),(h.cell (p:=⟨b2,o2+k * 3,none⟩) (uH P2)).trans (uH KY).1,(h.cell (p:=⟨b2,o2+k * 3+1,none⟩) (uH P2)).trans (uH KY).2.1,(h.cell (p:=⟨b2,o2+k * 3+2,none⟩) (uH P2)).trans (uH KY).2.2⟩)
   clear hS D0 bx ix KX KY P1 P2
   obtain ⟨cx,cy,cz,cu⟩:=uH HK _ (uH SS).2.2
   go_region_with (first
     | (go_at_call 65;refine (uH W1 _).mono ?_;rintro e w4 ⟨q,rfl,hq,hb1⟩;replace SS:=hide ((uH SS).all hb1);have QX:=hide hq;clear y0 y1 y2 f0 f1 f2 cx cy cz cu;replace BX:=hide ((uH BX).all hb1);replace IX:=hide ((uH IX).below hb1);obtain ⟨cx,cy,cz,cu⟩:=uH HK _ (uH SS).2.2;have y0:=(uH BX).c0;have y1:=(uH BX).c1;have y2:=(uH BX).c2;have f0:=(uH BX).free 0;have f1:=(uH BX).free 1;have f2:=(uH BX).free 2;clear hq hb1)
     | (go_at_call 25;refine (uH W3 _ _ _ (uH QX) ((uH QY0).below (uH SS).2.2)).mono ?_;rintro e w4 ⟨q,rfl,hq,hb1⟩;replace SS:=hide ((uH SS).all hb1);have QP:=hide hq;clear y0 y1 y2 f0 f1 f2 cx cy cz cu;replace BX:=hide ((uH BX).all hb1);replace IX:=hide ((uH IX).below hb1);obtain ⟨cx,cy,cz,cu⟩:=uH HK _ (uH SS).2.2;have y0:=(uH BX).c0;have y1:=(uH BX).c1;have y2:=(uH BX).c2;have f0:=(uH BX).free 0;have f1:=(uH BX).free 1;have f2:=(uH BX).free 2;clear hq hb1)
     | (go_at_call 26;refine (uH W4 _ _ _ (uH IX) (uH QP)).mono ?_;rintro e w4 ⟨q,rfl,⟨n5,a5,c5,L5,rfl,i5⟩,hb1⟩;replace SS:=hide ((uH SS).all hb1);have QS:=hide (show IsLv w4 (.agg #[.bool n5,.slice a5 L5.length c5,.int .i64 (oE (sm (k+1)) lo2)]) lo2 (sm (k+1)) from ⟨n5,a5,c5,L5,rfl,i5⟩);clear y0 y1 y2 f0 f1 f2 cx cy cz cu;replace BX:=hide ((uH BX).all hb1);obtain ⟨cx,cy,cz,cu⟩:=uH HK _ (uH SS).2.2;have y0:=(uH BX).c0;have y1:=(uH BX).c1;have y2:=(uH BX).c2;have f0:=(uH BX).free 0;have f1:=(uH BX).free 1;have f2:=(uH BX).free 2;have SF:=hide ((uH SS).put (uH QS));clear i5 hb1)
     | fail "NO ARM")
   all_goals
    go_wp2_with fail
    go_round
    case rel=>exact ⟨k+1,by omega,by go_num,SF⟩
    case measure=>simp [intOf];omega
  ·have hkk:k = n:=by omega
   subst hkk
   obtain ⟨h1,⟨nn,aa,ll,cc,X,bx,ix⟩,h3⟩:=uH hS
   have y0:=bx.c0;have y1:=bx.c1;have y2:=bx.c2
   have r0:=h1.c0;have r1:=h1.c1;have r2:=h1.c2;have f0:=h1.free 0;have f1:=h1.free 1;have f2:=h1.free 2
   have xe:=h1.put (.bool nn) (.slice aa ll cc) (.int .i64 X)
   have e0:=xe.c0;have e1:=xe.c1;have e2:=xe.c2
   have HS:=hide (IsDy.put3 ix h1 (.bool nn) (.slice aa ll cc) (.int .i64 X))
   have BE:=hide (below_put3 h3 (Nat.le_refl _) (.bool nn) (.slice aa ll cc) (.int .i64 X))
   clear xe h1 bx ix h3 hS
   go_wp2_with fail
   exact bodyPost_ret (v:=.agg #[.bool nn,.slice aa ll cc,.int .i64 X]) (by simp [results,Tryz.results76,go_sem,e0,e1,e2]) rfl ⟨_,rfl,uH HS,uH BE⟩
end Go.Proofs.YtdhmglmccafbnaaGreatDoor
namespace Go.Proofs.YtdhmglmccafbnaaGreatDoor
open Go.RowKit
attribute [local go_sem ↓] Go.wp_at_zero Go.wp_at_succ
theorem OwnD.made (w:World) (base:Nat) (lo:Int) (f:Nat→Int) (hb:base≤w.heap.size):OwnD base (w.alloc (.cells #[] 41)) (.slice (some ⟨w.heap.size,0,none⟩) 0 0) 0 lo f :=
 ⟨[],rfl,World.ownsRow_made w #[] 0 hb (by simp [maxLen]) (by simp),fun g hg=>by cases hg;exact ⟨#[],_,heap_alloc_new w _,fun u hu=>by simp at hu⟩,fun k hk=>by omega⟩
theorem OwnD.put3 {base:Nat} {w:World} {v:Value} {n:Nat} {lo:Int} {f:Nat→Int} (h:OwnD base w v n lo f) {g:Nat} {x:Bool} {a:Option Addr} {l c:Nat} {y:Int} (hx:Box3 w g (.bool x) (.slice a l c) (.int .i64 y)) (hg:g < base) (b:Bool) (a':Option Addr) (l' c':Nat) (y':Int) :
  OwnD base (((w.setCell ⟨g,0,none⟩ (.bool b)).setCell ⟨g,1,none⟩ (.slice a' l' c')).setCell ⟨g,2,none⟩ (.int .i64 y')) v n lo f :=
 ((h.set hx.clr hg 0 _).set (hx.clr.set _ _ rfl) hg 1 _).set ((hx.clr.set _ _ rfl).set _ _ rfl) hg 2 _
theorem RsSt.grown {w W w':World} {r c p q s d:Int} {ao bo co:Option Addr} {na nb nc ca cb cc:Nat} {lo z:Int} (h:RsSt w W r c p q s d ao bo co na nb nc ca cb cc lo z) {v:Value} (hc:Clear W v) (hl:∀ k,v.ownBlock = some k→(w.heap.size+5)≤k) (hg:W.grownBy w' v.ownBlock):RsSt w w' r c p q s d ao bo co na nb nc ca cb cc lo z:=by
 obtain ⟨⟨h1,h2,h3,h4,h5⟩,n',a',l',c',X',h6,h7⟩:=h
 have ne:∀ b,b < (w.heap.size+5)→v.ownBlock ≠ some b:=fun b hb e=>by have:=hl b e;omega
 exact ⟨⟨h1.grown hg (ne _ (by omega)),h2.grown hg (ne _ (by omega)),h3.grown hg (ne _ (by omega)),(hg.block _ h4.lt (ne _ (by omega)).symm).trans h4,h5.grown hg h5.size (fun k hk=>by have:=hl k hk;omega)⟩,n',a',l',c',X',(hg.block _ h6.lt (ne _ (by omega)).symm).trans h6,h7.grownClear hc hg⟩
theorem GdPush {w W:World} {r c p q s d:Int} {ao bo co:Option Addr} {na nb nc ca cb cc:Nat} {lo z:Int} {po:Option Addr} {m pc:Nat} {lo1:Int} {f:Nat→Int} {ng:Bool} {a:Option Addr} {l cp:Nat} {X:Int} (h:RsSt w W r c p q s d ao bo co na nb nc ca cb cc lo z) (ho:OwnD (w.heap.size+5) W (.slice po m pc) m lo1 f) (hx:IsLv W (.agg #[.bool ng,.slice a l cp,.int .i64 X]) lo1 (f m)) (hm:m≤6) (ty:TypeId) :
  ∃ qo qc w',(Builtin.append_ #[97,97] ty #[.slice po m pc,.slice (some ⟨W.heap.size,0,none⟩) 1 1]).run Tryz.prog (W.alloc (.cells #[.bool ng,.slice a l cp,.int .i64 X] 41)) = .ok (.slice qo (m+1) qc) w'∧(RsSt w w' r c p q s d ao bo co na nb nc ca cb cc lo z∧OwnD (w.heap.size+5) w' (.slice qo (m+1) qc) (m+1) lo1 f∧Below (w.heap.size+5) W w'):=by
 have ba:=below_alloc9 W (.cells #[.bool ng,.slice a l cp,.int .i64 X] 41)
 have hsz:(w.heap.size+5)≤W.heap.size:=by have:=h.2.lt;omega
 have ho':=ho.below ba
 obtain ⟨qo,qc,w',e1,ho2,hg⟩:=ho'.push W.heap.size ⟨ng,a,l,cp,X⟩ (hx.below ba) (heap_alloc_new W _) (by omega) (by simp;omega) ty
 obtain ⟨D,d1,d2,d3,d4⟩:=ho'
 refine ⟨qo,qc,w',e1,(h.all ba).grown d3 (fun k hk=>(d2.lt k hk).1) hg,ho2,?_⟩
 exact (ba.mono hsz).grown hg (by simp;omega) (fun k hk=>(d2.lt k hk).1)
theorem rGrad_of (r n c na nx nb ca cx cb:Nat) (ao xo bo:Option Addr) (x:Nat→Nat→Nat) (rw cl cm:Nat→List Int) (lo1 lo2 lo3:Int) (xb dd L D:Nat→Nat→Int) (sm:Nat→Nat→Int) (w:World) (hr:r≤6) (hn:n≤6) (hc:c≤6) (s0:sm 0 0 = 0) (s1:∀ k,sm (k+1) 0 = sm k n)
  (C1:∀ w' i,Below w.heap.size w w'→i < r→Calls Tryz.prog 66 #[.agg #[.int .i64 r,.int .i64 n,.slice ao na ca],.int .i64 (i:Nat)] w' fun e w''=>∃ go d,e = .returned (.slice go n d)∧BitsAt w'' go d (rw i)∧Below w'.heap.size w' w'')
  (C2:∀ w' k,Below w.heap.size w w'→k < c→Calls Tryz.prog 48 #[.agg #[.int .i64 n,.int .i64 c,.slice xo nx cx],.int .i64 (k:Nat),.int .i64 0] w' fun e w''=>∃ go d,e = .returned (.slice go n d)∧BitsAt w'' go d (cl k)∧Below w'.heap.size w' w'')
  (C3:∀ w' i k ko kd yo yd,i < r→k < c→BitsAt w' ko kd (rw i)→BitsAt w' yo yd (cl k)→Calls Tryz.prog 49 #[.slice ko n kd,.slice yo n yd] w' fun e w''=>∃ v,e = .returned v∧IsLv w'' v lo1 (dd i k)∧Below w'.heap.size w' w'')
  (C4:∀ w' i k,Below w.heap.size w w'→i < r→k < c→Calls Tryz.prog 59 #[.agg #[.int .i64 r,.int .i64 c,.slice bo nb cb],.int .i64 (i:Nat),.int .i64 (k:Nat)] w' fun e w''=>e = .returned (.int .u64 (x i k:Nat))∧Below w'.heap.size w' w'')
  (C5:∀ w' i k,i < r→k < c→Calls Tryz.prog 65 #[.int .u64 (x i k:Nat)] w' fun e w''=>∃ u,e = .returned u∧IsLv w'' u lo1 (xb i k)∧Below w'.heap.size w' w'')
  (C6:∀ w' i k v u,i < r→k < c→IsLv w' v lo1 (dd i k)→IsLv w' u lo1 (xb i k)→Calls Tryz.prog 64 #[v,u] w' fun e w''=>∃ q,e = .returned q∧IsLv w'' q lo1 (L i k)∧Below w'.heap.size w' w'')
  (C7:∀ w' j,Below w.heap.size w w'→j < n→Calls Tryz.prog 48 #[.agg #[.int .i64 r,.int .i64 n,.slice ao na ca],.int .i64 (j:Nat),.int .i64 0] w' fun e w''=>∃ go d,e = .returned (.slice go r d)∧BitsAt w'' go d (cm j)∧Below w'.heap.size w' w'')
  (C8:∀ w' j k ko kd yo yd,j < n→k < c→BitsAt w' ko kd (cm j)→DysAt w' yo yd r lo1 (fun t=>L t k)→Calls Tryz.prog 76 #[.slice ko r kd,.slice yo r yd] w' fun e w''=>∃ v,e = .returned v∧IsLv w'' v lo2 (D j k)∧Below w'.heap.size w' w'')
  (C9:∀ w' j k v,j < n→k < c→IsLv w' v lo2 (D j k)→Calls Tryz.prog 25 #[v,v] w' fun e w''=>∃ q,e = .returned q∧IsLv w'' q lo3 (D j k * D j k)∧Below w'.heap.size w' w'')
  (C10:∀ w' j k v u,j < n→k < c→IsLv w' v lo3 (sm k j)→IsLv w' u lo3 (D j k * D j k)→Calls Tryz.prog 26 #[v,u] w' fun e w''=>∃ q,e = .returned q∧IsLv w'' q lo3 (sm k (j+1))∧Below w'.heap.size w' w'') :
  Calls Tryz.prog 28 #[.agg #[.int .i64 r,.int .i64 n,.slice ao na ca],.agg #[.int .i64 n,.int .i64 c,.slice xo nx cx],.agg #[.int .i64 r,.int .i64 c,.slice bo nb cb]] w fun e w'=>∃ v,e = .returned v∧IsLv w' v lo3 (sm c 0)∧Below w.heap.size w w':=by
 have K1:=hide C1;have K2:=hide C2;have K3:=hide C3;have K4:=hide C4;have K5:=hide C5;have K6:=hide C6;have K7:=hide C7;have K8:=hide C8;have K9:=hide C9;have K10:=hide C10;have S1:=hide s1
 have ST:=hide (show RsSt w _ r n n c r c ao xo bo na nx nb ca cx cb lo3 (sm 0 0) from by rw [s0];exact RsSt.start w r n n c r c ao xo bo na nx nb ca cx cb lo3)
 clear C1 C2 C3 C4 C5 C6 C7 C8 C9 C10 s0 s1
 go_enter Tryz.func28,Tryz.ntmps28
 go_wp2_with fail
 go_loopw [8] (fun i wr=>∃ k:Nat,k≤c∧i = .int .i64 k∧Hid (RsSt w wr r n n c r c ao xo bo na nx nb ca cx cb lo3 (sm k 0))) (fun i _=>c - (intOf i).toNat)
 case atStart=>exact ⟨0,Nat.zero_le _,rfl,ST⟩
 case round =>
  clear ST
  obtain ⟨k,hk,rfl,hS⟩:=hrel
  have m1:=(uH hS).1.2.1.c1
  by_cases hkc:k < c
  ·have hkI:(k:Int) < (c:Int):=by omega
   have BA:=below_alloc9 wr (.cells #[] 41)
   have SO:=hide (show RsSt w _ r n n c r c ao xo bo na nx nb ca cx cb lo3 (sm k 0)∧OwnD (w.heap.size+5) _ (.slice (some ⟨wr.heap.size,0,none⟩) 0 0) 0 lo1 (fun t=>L t k) from ⟨(uH hS).all BA,OwnD.made wr _ lo1 (fun t=>L t k) (by have:=(uH hS).2.lt;omega)⟩)
   clear BA
   go_wp2_with fail
   clear m1 hS
   go_loopw [9,10] (fun v i wr=>∃ (j:Nat) (po:Option Addr) (pc:Nat),j≤r∧i = .int .i64 j∧v = .slice po j pc∧Hid (RsSt w wr r n n c r c ao xo bo na nx nb ca cx cb lo3 (sm k 0)∧OwnD (w.heap.size+5) wr (.slice po j pc) j lo1 (fun t=>L t k))) (fun _ i _=>r - (intOf i).toNat)
   case atStart=>exact ⟨0,_,0,Nat.zero_le _,rfl,rfl,SO⟩
   case round =>
    clear SO
    obtain ⟨j,po,pc,hj,rfl,rfl,hS⟩:=hrel
    have m1:=(uH hS).1.1.1.c0
    by_cases hlt:j < r
    ·have hjI:(j:Int) < (r:Int):=by omega
     go_wp2_with fail
     clear m1
     refine at_world (fun W=>RsSt w W r n n c r c ao xo bo na nx nb ca cx cb lo3 (sm k 0)∧OwnD (w.heap.size+5) W (.slice po j pc) j lo1 (fun t=>L t k)) (uH hS) ?_
     clear hS
     rintro W0 ⟨hS,hO⟩
     have D0:=(Below.refl W0.heap.size W0).drew
     have HK:=hide (show ∀ w' (h:Below (w.heap.size+5) W0 w'),Below (w.heap.size+5) W0 w'∧w'.cell? ⟨w.heap.size,0,none⟩ = some (.int .i64 r)∧w'.cell? ⟨w.heap.size,1,none⟩ = some (.int .i64 n)∧w'.cell? ⟨w.heap.size,2,none⟩ = some (.slice ao na ca)∧w'.cell? ⟨w.heap.size+1,0,none⟩ = some (.int .i64 n)∧w'.cell? ⟨w.heap.size+1,1,none⟩ = some (.int .i64 c)∧w'.cell? ⟨w.heap.size+1,2,none⟩ = some (.slice xo nx cx)∧w'.cell? ⟨w.heap.size+1+1,0,none⟩ = some (.int .i64 r)∧w'.cell? ⟨w.heap.size+1+1,1,none⟩ = some (.int .i64 c)∧w'.cell? ⟨w.heap.size+1+1,2,none⟩ = some (.slice bo nb cb) from fun w' h=>⟨h,(hS.1.1.below h (by omega)).c0,(hS.1.1.below h (by omega)).c1,(hS.1.1.below h (by omega)).c2,(hS.1.2.1.below h (by omega)).c0,(hS.1.2.1.below h (by omega)).c1,(hS.1.2.1.below h (by omega)).c2,(hS.1.2.2.1.below h (by omega)).c0,(hS.1.2.2.1.below h (by omega)).c1,(hS.1.2.2.1.below h (by omega)).c2⟩)
     have HKA:=hide (fun wn o (h1:Below (w.heap.size+5) W0 wn) (h2:(w.heap.size+5)≤wn.heap.size)=>uH HK (wn.alloc o) (h1.alloc h2 o))
     have HG:=hide (show (w.heap.size+5)≤W0.heap.size by have:=hS.2.lt;omega)
     have SS:=hide (hS.all D0);have OW:=hide (hO.below D0)
     have W1:=hide (fun w' h=>uH K1 w' j h hlt)
     have W2:=hide (fun w' h=>uH K2 w' k h hkc)
     have W3:=hide (fun w' ko kd yo yd=>uH K3 w' j k ko kd yo yd hlt hkc)
     have W4:=hide (fun w' h=>uH K4 w' j k h hlt hkc)
     have W5:=hide (fun w'=>uH K5 w' j k hlt hkc)
     have W6:=hide (fun w' v u=>uH K6 w' j k v u hlt hkc)
     have HJ6:=hide (show j≤6 by omega)
     generalize x j k = xx at *
     clear hS hO D0
     go_region_held3 (fun w'=>Below (w.heap.size+5) W0 w'∧w'.cell? ⟨w.heap.size,0,none⟩ = some (.int .i64 r)∧w'.cell? ⟨w.heap.size,1,none⟩ = some (.int .i64 n)∧w'.cell? ⟨w.heap.size,2,none⟩ = some (.slice ao na ca)∧w'.cell? ⟨w.heap.size+1,0,none⟩ = some (.int .i64 n)∧w'.cell? ⟨w.heap.size+1,1,none⟩ = some (.int .i64 c)∧w'.cell? ⟨w.heap.size+1,2,none⟩ = some (.slice xo nx cx)∧w'.cell? ⟨w.heap.size+1+1,0,none⟩ = some (.int .i64 r)∧w'.cell? ⟨w.heap.size+1+1,1,none⟩ = some (.int .i64 c)∧w'.cell? ⟨w.heap.size+1+1,2,none⟩ = some (.slice bo nb cb))
      (first | assumption | exact uH HK _ (Below.refl _ _).drew | exact uH HK _ (by assumption) | exact uH HKA _ _ (by assumption) (Nat.le_trans (uH HG) (Below.size (by assumption))) | fail "KK")
      (first
       | (refine step_append_ex _ (by rfl) _ _ 97 (by rfl) _ _ _ _ (by rfl) (by rfl) (uH PU) ?_;rintro ro rc w5 ⟨st5,ow5,hb5⟩;have hB5:Below (w.heap.size+5) W0 w5:=hBwm.trans hb5;have SO5:=hide (And.intro st5 ow5);clear st5 ow5 hb5 PU)
       | (go_simp;(go_at_call 59;refine (uH W4 _ (uH SS).1.2.2.2.2).mono ?_;rintro e w6 ⟨rfl,hb1⟩;have hBw6:Below (w.heap.size+5) W0 w6:=Below.trans (And.left (by assumption)) (hb1.mono (Nat.le_trans (uH HG) (Below.size (And.left (by assumption)))));(first | (with_reducible (replace QV:=hide ((uH QV).below hb1))) | skip);(first | (with_reducible (replace QR:=hide ((uH QR).below hb1))) | skip);(first | (with_reducible (replace QC:=hide ((uH QC).below hb1))) | skip);(first | (with_reducible (replace QD:=hide ((uH QD).below hb1))) | skip);replace SS:=hide ((uH SS).all hb1);replace OW:=hide ((uH OW).below hb1); clear hb1))
       | (go_simp;(go_at_call 65;refine (uH W5 _ ).mono ?_;rintro e w7 ⟨v7,rfl,qn,hb1⟩;have hBw7:Below (w.heap.size+5) W0 w7:=Below.trans (And.left (by assumption)) (hb1.mono (Nat.le_trans (uH HG) (Below.size (And.left (by assumption)))));(first | (with_reducible (replace QR:=hide ((uH QR).below hb1))) | skip);(first | (with_reducible (replace QC:=hide ((uH QC).below hb1))) | skip);(first | (with_reducible (replace QD:=hide ((uH QD).below hb1))) | skip);replace SS:=hide ((uH SS).all hb1);replace OW:=hide ((uH OW).below hb1);have QV:=hide qn;clear qn;clear hb1))
       | (go_simp;(go_at_call 66;refine (uH W1 _ (uH SS).1.2.2.2.2).mono ?_;rintro e w8 ⟨po2,pd2,rfl,qn,hb1⟩;have hBw8:Below (w.heap.size+5) W0 w8:=Below.trans (And.left (by assumption)) (hb1.mono (Nat.le_trans (uH HG) (Below.size (And.left (by assumption)))));(first | (with_reducible (replace QV:=hide ((uH QV).below hb1))) | skip);(first | (with_reducible (replace QC:=hide ((uH QC).below hb1))) | skip);(first | (with_reducible (replace QD:=hide ((uH QD).below hb1))) | skip);replace SS:=hide ((uH SS).all hb1);replace OW:=hide ((uH OW).below hb1);have QR:=hide qn;clear qn;clear hb1))
       | (go_simp;(go_at_call 48;refine (uH W2 _ (uH SS).1.2.2.2.2).mono ?_;rintro e w9 ⟨qo2,qd2,rfl,qn,hb1⟩;have hBw9:Below (w.heap.size+5) W0 w9:=Below.trans (And.left (by assumption)) (hb1.mono (Nat.le_trans (uH HG) (Below.size (And.left (by assumption)))));(first | (with_reducible (replace QV:=hide ((uH QV).below hb1))) | skip);(first | (with_reducible (replace QR:=hide ((uH QR).below hb1))) | skip);(first | (with_reducible (replace QD:=hide ((uH QD).below hb1))) | skip);replace SS:=hide ((uH SS).all hb1);replace OW:=hide ((uH OW).below hb1);have QC:=hide qn;clear qn;clear hb1))
       | (go_simp;(go_at_call 49;refine (uH W3 _ _ _ _ _ (uH QR) (uH QC)).mono ?_;rintro e w10 ⟨v10,rfl,qn,hb1⟩;have hBw10:Below (w.heap.size+5) W0 w10:=Below.trans (And.left (by assumption)) (hb1.mono (Nat.le_trans (uH HG) (Below.size (And.left (by assumption)))));(first | (with_reducible (replace QV:=hide ((uH QV).below hb1))) | skip);(first | (with_reducible (replace QR:=hide ((uH QR).below hb1))) | skip);(first | (with_reducible (replace QC:=hide ((uH QC).below hb1))) | skip);replace SS:=hide ((uH SS).all hb1);replace OW:=hide ((uH OW).below hb1);have QD:=hide qn;clear qn;clear hb1))
       | (go_simp;(go_at_call 64;refine (uH W6 _ _ _ (uH QD) (uH QV)).mono ?_;rintro e wm ⟨q,rfl,⟨n5,a5,c5,L5,rfl,i5⟩,hb1⟩;have hBwm:Below (w.heap.size+5) W0 wm:=Below.trans (And.left (by assumption)) (hb1.mono (Nat.le_trans (uH HG) (Below.size (And.left (by assumption)))));(first | (with_reducible (replace QV:=hide ((uH QV).below hb1))) | skip);(first | (with_reducible (replace QR:=hide ((uH QR).below hb1))) | skip);(first | (with_reducible (replace QC:=hide ((uH QC).below hb1))) | skip);(first | (with_reducible (replace QD:=hide ((uH QD).below hb1))) | skip);replace SS:=hide ((uH SS).all hb1);replace OW:=hide ((uH OW).below hb1);have IP:=hide (show IsLv wm (.agg #[.bool n5,.slice a5 L5.length c5,.int .i64 (oE (L j k) lo1)]) lo1 (L j k) from ⟨n5,a5,c5,L5,rfl,i5⟩);have PU:=hide (GdPush (uH SS) (uH OW) (uH IP) (uH HJ6) 97);clear i5;clear hb1))
       | fail "NO ARM")
     all_goals
      clear SS OW HK HKA W1 W2 W3 W4 W5 W6
      go_wp2_with fail
      go_round
      case rel=>exact ⟨j+1,ro,rc,by omega,by go_num,rfl,SO5⟩
      case measure=>simp [intOf];omega
    ·have hjj:j = r:=by omega
     subst hjj
     go_wp2_with fail
     clear m1
     go_loopw [11] (fun i wr=>∃ i':Nat,i'≤n∧i = .int .i64 i'∧Hid (RsSt w wr j n n c j c ao xo bo na nx nb ca cx cb lo3 (sm k i')∧OwnD (w.heap.size+5) wr (.slice po j pc) j lo1 (fun t=>L t k))) (fun i _=>n - (intOf i).toNat)
     case atStart=>exact ⟨0,Nat.zero_le _,rfl,hS⟩
     case round =>
      clear hS
      obtain ⟨i,hi,rfl,hS⟩:=hrel
      have m1:=(uH hS).1.1.1.c1
      by_cases hin:i < n
      ·have hiI:(i:Int) < (n:Int):=by omega
       have a0:=(uH hS).1.1.1.c0;have a2:=(uH hS).1.1.1.c2
       have W7:=hide (uH K7 _ i (uH hS).1.1.2.2.2.2 hin)
       go_wp2_with fail
       refine Calls.mono (uH W7) ?_
       rintro e w6 ⟨go,gd,rfl,qb,hb1⟩
       have st:=(uH hS).1.all hb1;have ow:=(uH hS).2.below hb1
       have W8:=hide (fun yo yd h=>uH K8 w6 i k go gd yo yd hin hkc qb h)
       obtain ⟨yo,yd,ey,hy⟩:=ow.dys
       cases ey
       have W8:=hide (uH W8 _ _ hy)
       have ST:=hide st;have OW:=hide ow
       clear st ow hy qb hb1 hS W7 a0 a2 m1
       go_wp2_with fail
       refine Calls.mono (uH W8) ?_
       rintro e w7 ⟨v,rfl,⟨n6,a6,c6,L6,rfl,i6⟩,hb1⟩
       have hv:IsLv w7 (.agg #[.bool n6,.slice a6 L6.length c6,.int .i64 (oE (D i k) lo2)]) lo2 (D i k):=⟨n6,a6,c6,L6,rfl,i6⟩
       generalize L6.length = l6 at *
       generalize oE (D i k) lo2 = X6 at *
       have ba:=below_alloc9 w7 (.cells #[.bool n6,.slice a6 l6 c6,.int .i64 X6] 41)
       have hbb:=hb1.trans (ba.mono hb1.size)
       replace ST:=hide ((uH ST).all hbb);replace OW:=hide ((uH OW).below hbb)
       have KP:=hide (show Kept _ w7.heap.size lo2 (D i k) from ⟨n6,a6,l6,c6,X6,Box3.new w7 _ _ _,hv.below ba⟩)
       clear i6 hv ba hbb hb1 W8
       have W9:=hide (fun w' v=>uH K9 w' i k v hin hkc)
       have W10:=hide (fun w' v u=>uH K10 w' i k v u hin hkc)
       go_wp2_with fail
       generalize w7.heap.size = g at *
       refine at_world (fun W=>RsSt w W j n n c j c ao xo bo na nx nb ca cx cb lo3 (sm k i)∧Kept W g lo2 (D i k)∧OwnD (w.heap.size+5) W (.slice po j pc) j lo1 (fun t=>L t k)) ⟨uH ST,uH KP,uH OW⟩ ?_
       clear ST KP OW
       rintro W0 ⟨st,kp,ow⟩
       have D0:=(Below.refl W0.heap.size W0).drew
       have ST:=hide (st.all D0);have OW:=hide (ow.below D0)
       obtain ⟨n1,a1,l1,c1,X1,bd,id⟩:=kp.all D0
       obtain ⟨n2,a2,l2,c2,X2,bs,is⟩:=(uH ST).2
       have BD:=hide bd;have ID:=hide id;have BS:=hide bs;have IS:=hide is
       have d0:=bd.c0;have d1:=bd.c1;have d2:=bd.c2
       have y0:=bs.c0;have y1:=bs.c1;have y2:=bs.c2;have f0:=bs.free 0;have f1:=bs.free 1;have f2:=bs.free 2
       clear st kp ow bd id bs is D0
       go_region_with (first
        | (go_at_call 25;refine (uH W9 _ _ (uH ID)).mono ?_;rintro e w9 ⟨v,rfl,qn,hb1⟩;clear y0 y1 y2 f0 f1 f2 d0 d1 d2;replace BS:=hide ((uH BS).all hb1);replace BD:=hide ((uH BD).all hb1);replace ST:=hide ((uH ST).all hb1);have y0:=(uH BS).c0;have y1:=(uH BS).c1;have y2:=(uH BS).c2;have f0:=(uH BS).free 0;have f1:=(uH BS).free 1;have f2:=(uH BS).free 2;have d0:=(uH BD).c0;have d1:=(uH BD).c1;have d2:=(uH BD).c2;replace IS:=hide ((uH IS).below hb1);replace OW:=hide ((uH OW).below hb1);have QM:=hide qn;clear qn hb1)
        | (go_at_call 26;refine (uH W10 _ _ _ (uH IS) (uH QM)).mono ?_;rintro e w9 ⟨v,rfl,⟨n5,a5,c5,L5,rfl,i5⟩,hb1⟩;clear y0 y1 y2 f0 f1 f2 d0 d1 d2;replace BS:=hide ((uH BS).all hb1);replace BD:=hide ((uH BD).all hb1);replace ST:=hide ((uH ST).all hb1);have y0:=(uH BS).c0;have y1:=(uH BS).c1;have y2:=(uH BS).c2;have f0:=(uH BS).free 0;have f1:=(uH BS).free 1;have f2:=(uH BS).free 2;have d0:=(uH BD).c0;have d1:=(uH BD).c1;have d2:=(uH BD).c2;replace OW:=hide ((uH OW).below hb1);have IP:=hide (show IsLv w9 (.agg #[.bool n5,.slice a5 L5.length c5,.int .i64 (oE (sm k (i+1)) lo3)]) lo3 (sm k (i+1)) from ⟨n5,a5,c5,L5,rfl,i5⟩);clear i5 hb1)
        | fail "NO ARM")
       all_goals
        clear d0 d1 d2 y0 y1 y2 f0 f1 f2
        go_wp2_with fail
        go_roundw
        case rel =>
         first
          | exact ⟨i+1,by omega,by go_num,hide ⟨(uH ST).put (uH IP),OwnD.put3 (uH OW) (uH BS) (by omega) _ _ _ _ _⟩⟩
          | ((repeat apply Exists.intro);exact ⟨⟨i+1,by omega,by go_num,hide ⟨(uH ST).put (uH IP),OwnD.put3 (uH OW) (uH BS) (by omega) _ _ _ _ _⟩⟩,rfl⟩)
        case measure=>simp [intOf];omega
      ·have hii:i = n:=by omega
       subst hii
       go_wp2_with fail
       go_round
       case rel=>exact ⟨k+1,by omega,by go_num,by rw [uH S1];exact hide (uH hS).1⟩
       case measure=>simp [intOf];omega
  ·have hkk:k = c:=by omega
   subst hkk
   obtain ⟨⟨_,_,_,h1,h3⟩,⟨nn,aa,ll,cy,X,bx,ix⟩⟩:=uH hS
   have y0:=bx.c0;have y1:=bx.c1;have y2:=bx.c2
   have r0:=h1.c0;have r1:=h1.c1;have r2:=h1.c2;have f0:=h1.free 0;have f1:=h1.free 1;have f2:=h1.free 2
   have xe:=h1.put (.bool nn) (.slice aa ll cy) (.int .i64 X)
   have e0:=xe.c0;have e1:=xe.c1;have e2:=xe.c2
   have HS:=hide (IsDy.put3 ix h1 (.bool nn) (.slice aa ll cy) (.int .i64 X))
   have BE:=hide (below_put3 h3 (show w.heap.size≤w.heap.size+1+1+1 by omega) (.bool nn) (.slice aa ll cy) (.int .i64 X))
   clear xe h1 bx ix h3 hS
   go_wp2_with fail
   exact bodyPost_ret (v:=.agg #[.bool nn,.slice aa ll cy,.int .i64 X]) (by simp [results,Tryz.results28,go_sem,e0,e1,e2]) rfl ⟨_,rfl,uH HS,uH BE⟩
end Go.Proofs.YtdhmglmccafbnaaGreatDoor
namespace Go.Proofs.YtdhmglmccafbnaaGreatDoor
open Go.RowKit
attribute [local go_sem ↓] Go.wp_at_zero Go.wp_at_succ
theorem rwL_atB (c:Nat) (S:List Nat) (i:Nat) {j:Nat} (h:j < c):atB (mxL (rwL c S i)) j = elM c S i j:=by rw [mxL_at];exact rwL_at c S i j h
theorem clL_len (r c:Nat) (S:List Nat) (k:Nat):(clL r c S k).length = r:=fsL_len _ _
theorem clL_atB (r c:Nat) (S:List Nat) (k:Nat) {j:Nat} (h:j < r):atB (mxL (clL r c S k)) j = elM c S j k:=by
 rw [mxL_at]
 simp [clL,fsL,List.getD_eq_getElem?_getD,h]
theorem rdot_any (ao bo:Option Addr) (c d n:Nat) (I J:List Int) (w:World) (hI:BitsAt w ao c I) (hJ:BitsAt w bo d J) (hi:I.length = n) (hj:J.length = n) (hn:n≤8) (fI:∀ k,k < n→fFin (atB I k) = true) (fJ:∀ k,k < n→fFin (atB J k) = true) :
  Calls Tryz.prog 49 #[.slice ao n c,.slice bo n d] w fun e w'=>∃ v,e = .returned v∧IsLv w' v (-2148) (smI (fun j=>fZ (atB I j) * fZ (atB J j)) n)∧Below w.heap.size w w' :=
 rdot_of ao bo c d n I J (-1074) (-2148) (fun k=>fZ (atB I k)) (fun k=>fZ (atB J k)) (fun k=>smI (fun j=>fZ (atB I j) * fZ (atB J j)) k) w hI hJ hi hj hn rfl
  (fun w' k hk=>rvalueN _ w' (hI.lt k) (fI k hk)) (fun w' k hk=>rvalueN _ w' (hJ.lt k) (fJ k hk)) (fun w' k v u hk hv hu=>rmulV (hI.lt k) (hJ.lt k) (fI k hk) (fJ k hk) hv hu)
  (fun w' k v u hk hv hu=>raddN hv hu (dt_lvl k (by omega) _ _ (fun j hj=>fI j (by omega)) (fun j hj=>fJ j (by omega))) (pr_lvl _ _ (fI k hk) (fJ k hk)))
theorem rdot_el (ao bo:Option Addr) (c d n:Nat) (I J:List Int) (x y:Nat→Nat) (w:World) (hI:BitsAt w ao c I) (hJ:BitsAt w bo d J) (hi:I.length = n) (hj:J.length = n) (hn:n≤8) (eI:∀ k,k < n→atB I k = x k) (eJ:∀ k,k < n→atB J k = y k) (fI:∀ k,fFin (x k) = true) (fJ:∀ k,fFin (y k) = true) :
  Calls Tryz.prog 49 #[.slice ao n c,.slice bo n d] w fun e w'=>∃ v,e = .returned v∧IsLv w' v (-2148) (dtZ n x y)∧Below w.heap.size w w':=by
 have C:=rdot_any ao bo c d n I J w hI hJ hi hj hn (fun k hk=>by rw [eI k hk];exact fI k) (fun k hk=>by rw [eJ k hk];exact fJ k)
 have e:smI (fun j=>fZ (atB I j) * fZ (atB J j)) n = dtZ n x y:=smI_congr n (fun k hk=>by show fZ (atB I k) * fZ (atB J k) = _;rw [eI k hk,eJ k hk])
 rwa [e] at C
theorem rRes_any (r n c ca cb cc:Nat) (ao bo co:Option Addr) (A B C:List Nat) (w:World) (hA:Mx w ao ca r c A) (hB:Mx w bo cb r n B) (hC:Mx w co cc n c C) (fA:∀ x ∈ A,fFin x = true) (fB:∀ x ∈ B,fFin x = true) (fC:∀ x ∈ C,fFin x = true) :
  Calls Tryz.prog 20 #[.agg #[.int .i64 r,.int .i64 c,.slice ao A.length ca],.agg #[.int .i64 r,.int .i64 n,.slice bo B.length cb],.agg #[.int .i64 n,.int .i64 c,.slice co C.length cc]] w fun e w'=>∃ v,e = .returned v∧IsLv w' v (-4296) (rsQ r n c A B C)∧Below w.heap.size w w':=by
 have r6:=hA.2.2.1
 have c6:=hA.2.2.2
 have n6:=hC.2.2.1
 have ol:∀ i k,Lvl (-2148) 4200 (rsZ n c A B C i k):=fun i k=>⟨rsZ_lt n c A B C i k (by omega) fA fB fC,by decide,by decide,by decide⟩
 have pl:∀ i k,Lvl (-4296) 8407 (rsZ n c A B C i k * rsZ n c A B C i k):=fun i k=>(show Lvl (-4296) 8400 _ from ⟨mul_ltV (j:=4200) (k:=4200) (V:=8400) (by decide) (ol i k).1 (ol i k).1,by decide,by decide,by decide⟩).more (by decide) (by decide) (by decide)
 have D:=rRes_of r n c A.length B.length C.length ca cb cc ao bo co (fun i k=>elM c A i k) (fun i=>mxL (rwL n B i)) (fun k=>mxL (clL n c C k)) (-2148) (-4296) (fun i k=>fZ (elM c A i k) * 2 ^ 1074) (fun i k=>dtZ n (fun j=>elM n B i j) (fun j=>elM c C j k)) (fun i k=>rsZ n c A B C i k) (fun i k=>rnI (fun i k=>rsZ n c A B C i k * rsZ n c A B C i k) c i k) w r6 c6 rfl (fun i=>(rnI_row _ c i).symm)
  (fun w' i k hb hi hk=>rat_any r c ca i k ao A w' (hA.below hb) hi hk)
  (fun w' i k _ _=>(rvalueN (elM c A i k) w' (hA.el_lt i k) (el_fin c A i k fA)).mono (by
   rintro e w'' ⟨u,rfl,hu,hb⟩
   refine ⟨u,rfl,?_,hb⟩
   have:=hu.lower 1074
   rwa [show (-1074:Int) - (1074:Nat) = -2148 by decide] at this))
  (fun w' i hb hi=>rrow_any r n cb i bo B w' (hB.below hb) hi)
  (fun w' k hb hk=>rcol_any n c cc k co C w' (hC.below hb) hk)
  (fun w' i k xo xd yo yd _ _ hx hy=>rdot_el xo yo xd yd n _ _ (fun j=>elM n B i j) (fun j=>elM c C j k) w' hx hy (by rw [mxL_len,rwL_len]) (by rw [mxL_len,clL_len]) (by omega) (fun j hj=>rwL_atB n B i hj) (fun j hj=>clL_atB n c C k hj) (fun j=>el_fin n B i j fB) (fun j=>el_fin c C j k fC))
  (fun w' i k v u _ _ hv hu=>rsubN hv hu (up_lvl _ (el_fin c A i k fA)) (dt_lvl n (by omega) _ _ (fun l _=>el_fin n B i l fB) (fun l _=>el_fin c C l k fC)))
  (fun w' i k v _ _ hv=>rmulL hv hv (ol i k) (ol i k) (by decide))
  (fun w' i k v u hi hk hv hu=>by
   rw [rnI_step]
   exact raddN hv hu ⟨rnI_ltV (W:=8400) (V:=8407) (by decide) r c i k (by omega) (by omega) (by omega) (by omega) (fun i k _=>mul_ltV (j:=4200) (k:=4200) (V:=8400) (by decide) (ol i k).1 (ol i k).1),by decide,by decide,by decide⟩ (pl i k))
 rw [rnI_all] at D
 exact D
theorem rsums_any (ao bo:Option Addr) (c d n:Nat) (I:List Int) (x:Nat→Nat) (f:Nat→Int) (w:World) (hI:BitsAt w ao c I) (hJ:DysAt w bo d n (-2148) f) (hi:I.length = n) (hn:n≤8) (eI:∀ k,k < n→atB I k = x k) (fI:∀ k,fFin (x k) = true) (hf:∀ k,k < n→Lvl (-2148) 4200 (f k)) :
  Calls Tryz.prog 76 #[.slice ao n c,.slice bo n d] w fun e w'=>∃ v,e = .returned v∧IsLv w' v (-3222) (smI (fun i=>fZ (x i) * f i) n)∧Below w.heap.size w w':=by
 have pl:∀ k,k < n→Lvl (-3222) 6301 (fZ (x k) * f k):=fun k hk=>(show Lvl (-3222) 6298 _ from ⟨mul_ltV (j:=2098) (k:=4200) (V:=6298) (by decide) (fZ_lt _ (fI k)) (hf k hk).1,by decide,by decide,by decide⟩).more (by decide) (by decide) (by decide)
 refine rsums_of ao bo c d n I (-1074) (-2148) (-3222) (fun k=>fZ (x k)) f (fun k=>smI (fun i=>fZ (x i) * f i) k) w hI hJ hi hn rfl
  (fun w' k hk=>?_) (fun w' k v u hk hv hu=>rmulL hv hu (fZ_lvl _ (fI k)) (hf k hk) (by decide)) (fun w' k v u hk hv hu=>raddN hv hu ⟨smI_ltV (W:=6298) (V:=6301) (by decide) k (by omega) (fun l hl=>mul_ltV (j:=2098) (k:=4200) (V:=6298) (by decide) (fZ_lt _ (fI l)) (hf l (by omega)).1),by decide,by decide,by decide⟩ (pl k hk))
 have:=rvalueN (atB I k) w' (hI.lt k) (by rw [eI k hk];exact fI k)
 rwa [eI k hk] at this ⊢
theorem rGrad_any (r n c ca cx cb:Nat) (ao xo bo:Option Addr) (A X B:List Nat) (w:World) (hA:Mx w ao ca r n A) (hX:Mx w xo cx n c X) (hB:Mx w bo cb r c B) (fA:∀ x ∈ A,fFin x = true) (fX:∀ x ∈ X,fFin x = true) (fB:∀ x ∈ B,fFin x = true) :
  Calls Tryz.prog 28 #[.agg #[.int .i64 r,.int .i64 n,.slice ao A.length ca],.agg #[.int .i64 n,.int .i64 c,.slice xo X.length cx],.agg #[.int .i64 r,.int .i64 c,.slice bo B.length cb]] w fun e w'=>∃ v,e = .returned v∧IsLv w' v (-6444) (grQ r n c A X B)∧Below w.heap.size w w':=by
 have r6:=hA.2.2.1
 have n6:=hA.2.2.2
 have c6:=hX.2.2.2
 have ol:∀ j k,Lvl (-3222) 6301 (grZ r n c A X B j k):=fun j k=>⟨grZ_lt r n c A X B j k (by omega) (by omega) fA fX fB,by decide,by decide,by decide⟩
 have pl:∀ j k,Lvl (-6444) 12609 (grZ r n c A X B j k * grZ r n c A X B j k):=fun j k=>(show Lvl (-6444) 12602 _ from ⟨mul_ltV (j:=6301) (k:=6301) (V:=12602) (by decide) (ol j k).1 (ol j k).1,by decide,by decide,by decide⟩).more (by decide) (by decide) (by decide)
 have D:=rGrad_of r n c A.length X.length B.length ca cx cb ao xo bo (fun i k=>elM c B i k) (fun i=>mxL (rwL n A i)) (fun k=>mxL (clL n c X k)) (fun j=>mxL (clL r n A j)) (-2148) (-3222) (-6444) (fun i k=>fZ (elM c B i k) * 2 ^ 1074) (fun i k=>dtZ n (fun j=>elM n A i j) (fun j=>elM c X j k)) (fun i k=>dtZ n (fun j=>elM n A i j) (fun j=>elM c X j k) - fZ (elM c B i k) * 2 ^ 1074) (fun j k=>grZ r n c A X B j k) (fun k j=>rnI (fun k j=>grZ r n c A X B j k * grZ r n c A X B j k) n k j) w r6 n6 c6 rfl (fun k=>(rnI_row _ n k).symm)
  (fun w' i hb hi=>rrow_any r n ca i ao A w' (hA.below hb) hi)
  (fun w' k hb hk=>rcol_any n c cx k xo X w' (hX.below hb) hk)
  (fun w' i k ko kd yo yd _ _ hx hy=>rdot_el ko yo kd yd n _ _ (fun j=>elM n A i j) (fun j=>elM c X j k) w' hx hy (by rw [mxL_len,rwL_len]) (by rw [mxL_len,clL_len]) (by omega) (fun j hj=>rwL_atB n A i hj) (fun j hj=>clL_atB n c X k hj) (fun j=>el_fin n A i j fA) (fun j=>el_fin c X j k fX))
  (fun w' i k hb hi hk=>rat_any r c cb i k bo B w' (hB.below hb) hi hk)
  (fun w' i k _ _=>(rvalueN (elM c B i k) w' (hB.el_lt i k) (el_fin c B i k fB)).mono (by
   rintro e w'' ⟨u,rfl,hu,hb⟩
   refine ⟨u,rfl,?_,hb⟩
   have:=hu.lower 1074
   rwa [show (-1074:Int) - (1074:Nat) = -2148 by decide] at this))
  (fun w' i k v u _ _ hv hu=>rsubN hv hu (dt_lvl n (by omega) _ _ (fun l _=>el_fin n A i l fA) (fun l _=>el_fin c X l k fX)) (up_lvl _ (el_fin c B i k fB)))
  (fun w' j hb hj=>rcol_any r n ca j ao A w' (hA.below hb) hj)
  (fun w' j k ko kd yo yd _ _ hx hy=>rsums_any ko yo kd yd r _ (fun i=>elM n A i j) _ w' hx hy (by rw [mxL_len,clL_len]) (by omega) (fun i hi=>clL_atB r n A j hi) (fun i=>el_fin n A i j fA) (fun i _=>lack_lvl n c A X B i k n6 fA fX fB))
  (fun w' j k v _ _ hv=>rmulL hv hv (ol j k) (ol j k) (by decide))
  (fun w' j k v u hj hk hv hu=>by
   rw [rnI_step]
   exact raddN hv hu ⟨rnI_ltV (W:=12602) (V:=12609) (by decide) c n k j (by omega) (by omega) (by omega) (by omega) (fun k j _=>mul_ltV (j:=6301) (k:=6301) (V:=12602) (by decide) (ol j k).1 (ol j k).1),by decide,by decide,by decide⟩ (pl j k))
 rw [rnI_all] at D
 exact D
end Go.Proofs.YtdhmglmccafbnaaGreatDoor
namespace Go.Proofs.YtdhmglmccafbnaaGreatDoor
open Go.RowKit
attribute [local go_sem ↓] Go.wp_at_zero Go.wp_at_succ
theorem rWithin_of (na nb:Bool) (ao bo:Option Addr) (ka kb ca cb:Nat) (x y k:Int) (m1 e1 m2 e2 m3 e3 o:Int) (w:World) (hk:0≤k∧k≤200)
  (C1:∀ w',Below w.heap.size w w'→Calls Tryz.prog 47 #[.agg #[.bool nb,.slice bo kb cb,.int .i64 y],.int .i64 (-(2 * k))] w' fun r w''=>∃ q,r = .returned q∧IsDy w'' q m1 e1∧Below w'.heap.size w' w'')
  (C2:∀ w' v,IsNum 0 w' v 1→Calls Tryz.prog 45 #[v,.int .i64 (-4000)] w' fun r w''=>∃ q,r = .returned q∧IsDy w'' q m2 e2∧Below w'.heap.size w' w'')
  (C3:∀ w' v u,IsDy w' v m1 e1→IsDy w' u m2 e2→Calls Tryz.prog 26 #[v,u] w' fun r w''=>∃ q,r = .returned q∧IsDy w'' q m3 e3∧Below w'.heap.size w' w'')
  (C4:∀ w' v,Below w.heap.size w w'→IsDy w' v m3 e3→Calls Tryz.prog 51 #[.agg #[.bool na,.slice ao ka ca,.int .i64 x],v] w' fun r w''=>r = .returned (.int .i64 o)∧Below w'.heap.size w' w'') :
  Calls Tryz.prog 27 #[.agg #[.bool na,.slice ao ka ca,.int .i64 x],.agg #[.bool nb,.slice bo kb cb,.int .i64 y],.int .i64 k] w fun e w'=>e = .returned (.bool (decide (o≤0)))∧Below w.heap.size w w':=by
 have ST:=hide (AmSt.start w na nb ao bo ka kb ca cb x y)
 have K1:=hide C1;have K2:=hide C2;have K3:=hide C3;have K4:=hide C4;have K5:=hide rof11
 clear C1 C2 C3 C4
 have y0:=(uH ST).2.1.c0;have y1:=(uH ST).2.1.c1;have y2:=(uH ST).2.1.c2
 have hj:IntKind.i64.wrap (-(2 * k)) = -(2 * k):=wrap_in _ (by omega)
 go_enter Tryz.func27,Tryz.ntmps27
 go_wp2_with fail
 refine (uH K1 _ (uH ST).2.2).mono ?_
 rintro e w1 ⟨q,rfl,hq,hb1⟩
 replace ST:=hide ((uH ST).all hb1)
 have HQ:=hide hq
 clear hb1 hq K1 y0 y1 y2
 go_wp2_with fail
 refine (uH K5 _).mono ?_
 rintro e w2 ⟨v,rfl,hv,hb1⟩
 replace ST:=hide ((uH ST).all hb1)
 replace HQ:=hide ((uH HQ).below hb1)
 have HV:=hide (hv.mono (Nat.zero_le _))
 clear hb1 hv K5
 go_wp2_with fail
 refine (uH K2 _ _ (uH HV)).mono ?_
 rintro e w3 ⟨u,rfl,hu,hb1⟩
 replace ST:=hide ((uH ST).all hb1)
 replace HQ:=hide ((uH HQ).below hb1)
 have HU:=hide hu
 clear hb1 hu K2 HV
 go_wp2_with fail
 refine (uH K3 _ _ _ (uH HQ) (uH HU)).mono ?_
 rintro e w4 ⟨t,rfl,ht,hb1⟩
 obtain ⟨n3,a3,c3,L3,rfl,i3⟩:=ht.num
 generalize L3.length = l3 at *
 have ba:=below_alloc9 w4 (.cells #[.bool n3,.slice a3 l3 c3,.int .i64 e3] 41)
 have hbb:=hb1.trans (ba.mono hb1.size)
 replace ST:=hide ((uH ST).all hbb)
 have HT:=hide (ht.below ba)
 have XT:=hide (Box3.new w4 (.bool n3) (.slice a3 l3 c3) (.int .i64 e3))
 clear hb1 ht K3 HQ HU ba hbb i3
 have x0:=(uH ST).1.c0;have x1:=(uH ST).1.c1;have x2:=(uH ST).1.c2
 go_wp2_with fail
 refine (uH K4 _ _ (uH ST).2.2 (uH HT)).mono ?_
 rintro e w5 ⟨rfl,hb1⟩
 clear x0 x1 x2
 replace ST:=hide ((uH ST).all hb1)
 clear hb1 K4
 go_wp2
 go_ret
 exact ⟨rfl,(uH ST).2.2⟩
theorem one_TOP11:(1:Int).natAbs < TOP:=lt_TOP (k:=1) (by decide) (by decide)
end Go.Proofs.YtdhmglmccafbnaaGreatDoor
namespace Go.Proofs.YtdhmglmccafbnaaGreatDoor
open Go.RowKit
attribute [local go_sem ↓] Go.wp_at_zero Go.wp_at_succ
theorem r11check_any (r c:Int) (ao:Option Addr) (cap:Nat) (I:List Int) (w:World) (hI:BitsAt w ao cap I) (hn:I.length≤35184372088830) :
  Calls Tryz.prog 19 #[.agg #[.int .i64 r,.int .i64 c,.slice ao I.length cap]] w fun e w'=>e = .returned (.int .i64 (ckE r c I))∧Below w.heap.size w w':=by
 have K1:=hide (fun w'=>rright_any r c ao I.length cap w')
 have K2:=hide (fun w' (h:BitsAt w' ao cap I)=>r9finite_any ao cap I w' h hn)
 have BB:=hide (below_alloc9 w (.cells #[.int .i64 r,.int .i64 c,.slice ao I.length cap] 25))
 have X0:=hide (BoxM.new w (.int .i64 r) (.int .i64 c) (.slice ao I.length cap))
 have HI:=hide hI
 unfold ckE
 generalize okB r c I.length = b at *
 generalize fnK I I.length = f at *
 generalize I.length = n at *
 clear hI
 cases b
 ·clear K2
  go_enter Tryz.func19,Tryz.ntmps19
  go_wp2_with fail
  refine (uH K1 _).mono ?_
  rintro e w1 ⟨rfl,hb1⟩
  have PB:=hide ((uH BB).trans (hb1.mono (uH BB).size))
  clear hb1 K1 X0
  go_wp2
  go_ret
  exact ⟨rfl,uH PB⟩
 ·cases f
  all_goals
   go_enter Tryz.func19,Tryz.ntmps19
   go_wp2_with fail
   refine (uH K1 _).mono ?_
   rintro e w1 ⟨rfl,hb1⟩
   replace BB:=hide ((uH BB).trans (hb1.mono (uH BB).size));replace X0:=hide ((uH X0).all hb1)
   clear hb1 K1
   have y2:=(uH X0).c2
   go_wp2_with fail
   refine (uH K2 _ ((uH HI).below (uH BB))).mono ?_
   rintro e w2 ⟨rfl,hb1⟩
   replace BB:=hide ((uH BB).trans (hb1.mono (uH BB).size))
   clear hb1 K2 y2
   go_wp2
   go_ret
   exact ⟨rfl,uH BB⟩
theorem r11tame_any (r c:Int) (ao:Option Addr) (cap:Nat) (I:List Int) (K:Int) (w:World) (hI:BitsAt w ao cap I) (hn:I.length≤35184372088830) (hK:-5000≤K∧K≤5000) :
  Calls Tryz.prog 22 #[.agg #[.int .i64 r,.int .i64 c,.slice ao I.length cap],.int .i64 K] w fun e w'=>e = .returned (.bool (okB r c I.length && tmK K I I.length))∧Below w.heap.size w w':=by
 have K1:=hide (fun w'=>rright_any r c ao I.length cap w')
 have K2:=hide (fun w' (h:BitsAt w' ao cap I)=>r9tame_any ao cap I K w' h hn hK)
 have BB:=hide (below_alloc9 w (.cells #[.int .i64 r,.int .i64 c,.slice ao I.length cap] 25))
 have X0:=hide (BoxM.new w (.int .i64 r) (.int .i64 c) (.slice ao I.length cap))
 have HI:=hide hI
 generalize okB r c I.length = b at *
 generalize tmK K I I.length = f at *
 generalize I.length = n at *
 clear hI hK
 cases b
 ·clear K2
  go_enter Tryz.func22,Tryz.ntmps22
  go_wp2_with fail
  refine (uH K1 _).mono ?_
  rintro e w1 ⟨rfl,hb1⟩
  have PB:=hide ((uH BB).trans (hb1.mono (uH BB).size))
  clear hb1 K1 X0
  go_wp2
  go_ret
  exact ⟨rfl,uH PB⟩
 ·go_enter Tryz.func22,Tryz.ntmps22
  go_wp2_with fail
  refine (uH K1 _).mono ?_
  rintro e w1 ⟨rfl,hb1⟩
  replace BB:=hide ((uH BB).trans (hb1.mono (uH BB).size));replace X0:=hide ((uH X0).all hb1)
  clear hb1 K1
  have y2:=(uH X0).c2
  go_wp2_with fail
  refine (uH K2 _ ((uH HI).below (uH BB))).mono ?_
  rintro e w2 ⟨rfl,hb1⟩
  replace BB:=hide ((uH BB).trans (hb1.mono (uH BB).size))
  clear hb1 K2 y2
  go_wp2
  go_ret
  exact ⟨rfl,uH BB⟩
theorem r11square_of (r c:Int) (ao:Option Addr) (n cap:Nat) (lo z:Int) (w:World)
  (C:∀ w',Below w.heap.size w w'→Calls Tryz.prog 50 #[.slice ao n cap] w' fun e w''=>∃ v,e = .returned v∧IsLv w'' v lo z∧Below w'.heap.size w' w'') :
  Calls Tryz.prog 24 #[.agg #[.int .i64 r,.int .i64 c,.slice ao n cap]] w fun e w'=>∃ v,e = .returned v∧IsLv w' v lo z∧Below w.heap.size w w':=by
 obtain ⟨x0,x1,bb⟩:=boxes1D w r c ao n cap
 have X0:=hide x0;have X1:=hide x1;have BB:=hide bb;have K:=hide C
 clear x0 x1 bb C
 have y2:=(uH X0).c2
 go_enter Tryz.func24,Tryz.ntmps24
 go_wp2_with fail
 refine (uH K _ (uH BB)).mono ?_
 rintro e w2 ⟨v,rfl,⟨n5,a5,c5,L5,rfl,i5⟩,hb1⟩
 have Q5:IsLv w2 (.agg #[.bool n5,.slice a5 L5.length c5,.int .i64 (oE z lo)]) lo z:=⟨n5,a5,c5,L5,rfl,i5⟩
 generalize L5.length = l5 at *
 generalize oE z lo = X5 at *
 have xe:=(uH X1).all hb1
 have r0:=xe.c0;have r1:=xe.c1;have r2:=xe.c2;have f0:=xe.free 0;have f1:=xe.free 1;have f2:=xe.free 2
 have xp:=xe.put (.bool n5) (.slice a5 l5 c5) (.int .i64 X5)
 have z0:=xp.c0;have z1:=xp.c1;have z2:=xp.c2
 have HV:=hide (IsDy.put3 Q5 xe (.bool n5) (.slice a5 l5 c5) (.int .i64 X5))
 have HB:=hide (below_put3 ((uH BB).trans (hb1.mono (uH BB).size)) (show w.heap.size≤w.heap.size+1 by omega) (.bool n5) (.slice a5 l5 c5) (.int .i64 X5))
 clear i5 Q5 xe xp hb1 BB X0 X1 K y2
 go_wp2
 exact bodyPost_ret (v:=.agg #[.bool n5,.slice a5 l5 c5,.int .i64 X5]) (by simp [results,Tryz.results24,go_sem,z0,z1,z2]) rfl ⟨_,rfl,uH HV,uH HB⟩
theorem sqK_sm (S:List Nat):∀ k,sqK (mxL S) k = smI (fun p=>fZ (S.getD p 0) * fZ (S.getD p 0)) k
 | 0=>rfl
 | k+1=>by
  show sqK (mxL S) k+fZ (atB (mxL S) k) * fZ (atB (mxL S) k) = smI _ k+_
  rw [sqK_sm S k,mxL_at]
theorem fnK_all {I:List Int}:∀ n,fnK I n = true ↔ ∀ k,k < n→fFin (atB I k) = true
 | 0=>⟨fun _ k hk=>by omega,fun _=>rfl⟩
 | n+1=>by
  show (fnK I n && fFin (atB I n)) = true ↔ _
  rw [Bool.and_eq_true,fnK_all n]
  constructor
  ·rintro ⟨h1,h2⟩ k hk
   by_cases e:k = n
   ·subst e;exact h2
   ·exact h1 k (by omega)
  ·exact fun h=>⟨fun k hk=>h k (by omega),h n (by omega)⟩
theorem all_fin {S:List Nat} (h:∀ x ∈ S,fFin x = true):fnK (mxL S) S.length = true:=(fnK_all _).2 fun k hk=>by
 rw [mxL_at,List.getD_eq_getElem?_getD,List.getElem?_eq_getElem hk]
 exact h _ (List.getElem_mem hk)
theorem r11square_any (r c cap:Nat) (ao:Option Addr) (S:List Nat) (w:World) (h:Mx w ao cap r c S) (hf:∀ x ∈ S,fFin x = true) :
  Calls Tryz.prog 24 #[.agg #[.int .i64 r,.int .i64 c,.slice ao S.length cap]] w fun e w'=>∃ v,e = .returned v∧IsLv w' v (-2148) (sqZ S)∧Below w.heap.size w w':=by
 refine r11square_of r c ao S.length cap (-2148) (sqZ S) w (fun w' hb=>?_)
 have:=r9squares_any ao cap (mxL S) w' (h.1.below hb) (by rw [mxL_len];have:=h.small;omega) (by rw [mxL_len];exact all_fin hf)
 rw [mxL_len,sqK_sm] at this
 exact this
end Go.Proofs.YtdhmglmccafbnaaGreatDoor
