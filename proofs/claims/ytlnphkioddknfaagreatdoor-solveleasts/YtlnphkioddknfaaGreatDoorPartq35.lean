/- Part 35 of the texts. -/
import Derived.Test.YtlnphkioddknfaaGreatDoorPartq28
import Derived.Deep.RegionHeld3
import Derived.Test.YtlnphkioddknfaaGreatDoorPartq34
import Derived.Test.YtlnphkioddknfaaGreatDoorPartq21
import Derived.Test.YtlnphkioddknfaaGreatDoorPartq19
import Derived.Test.YtlnphkioddknfaaGreatDoorPartq20
import Derived.Test.YtlnphkioddknfaaGreatDoorPartq31
import Derived.Test.YtlnphkioddknfaaGreatDoorPartq32
import Derived.Test.YtlnphkioddknfaaGreatDoorPartq16
import Derived.Test.YtlnphkioddknfaaGreatDoorPartq17
import Derived.Test.YtlnphkioddknfaaGreatDoorPartq18
import Derived.Deep.Cut
import Derived.BigQuiet
import Derived.Test.YtlnphkioddknfaaGreatDoorPartq33
import Derived.Test.YtlnphkioddknfaaGreatDoorPartq05
import Derived.Maps.AppendAt
import Derived.Test.YtlnphkioddknfaaGreatDoorPartq09
import Derived.Lib.BitFns
import Derived.Test.YtlnphkioddknfaaGreatDoorPartq08
import Derived.Test.YtlnphkioddknfaaGreatDoorPartq07
import Derived.Test.YtlnphkioddknfaaGreatDoorPartq10
import Derived.Maps.Own
import Derived.Maps.OwnOps
import Derived.Maps.OwnSet
import Derived.DeepKeys4
import Derived.WalkSmall
import Derived.Test.YtlnphkioddknfaaGreatDoorPartq01
import Derived.OwnWalk
import Derived.Test.YtlnphkioddknfaaGreatDoorPartq02
import Derived.Test.YtlnphkioddknfaaGreatDoorPartq29
set_option maxHeartbeats 4000000
set_option maxRecDepth 20000
namespace Go.Proofs.YtlnphkioddknfaaGreatDoor
open Go.RowKit
attribute [local go_sem ↓] Go.wp_at_zero Go.wp_at_succ
theorem r9dot_any (ao bo:Option Addr) (c d:Nat) (I J:List Int) (w:World) (hI:BitsAt w ao c I) (hJ:BitsAt w bo d J) (hl:I.length = J.length) (hn:I.length≤35184372088830) :
  Calls Tryz.prog 92 #[.slice ao I.length c,.slice bo J.length d] w fun e w'=>e = .returned (.int .u64 (dtK I J I.length:Nat))∧Below w.heap.size w w':=by
 have HI:=hide hI;have HJ:=hide hJ
 obtain ⟨n,hnn⟩:∃ n,I.length = n:=⟨_,rfl⟩
 rw [← hl,hnn]
 rw [hnn] at hn hl
 have HN:=hide hnn;have HM:=hide hl.symm
 clear hI hJ hnn hl
 go_enter Tryz.func92,Tryz.ntmps92
 go_wp2_with fail
 go_loopw [5,6] (fun t i wr=>∃ k:Nat,k≤n∧i = .int .i64 k∧t = .int .u64 (dtK I J k:Nat)∧Hid (Below w.heap.size w wr)) (fun _ i _=>n - (intOf i).toNat)
 case atStart=>exact ⟨0,Nat.zero_le _,rfl,rfl,Below.refl _ _⟩
 case round =>
  obtain ⟨k,hk,rfl,rfl,hB⟩:=hrel
  by_cases hlt:k < n
  ·have hkI:(k:Int) < (n:Int):=by omega
   obtain ⟨b1,o1,hao,hb1,hc1⟩:=((uH HI).below hB.out).ne (by rw [uH HN];omega)
   obtain ⟨b2,o2,hbo,hb2,hc2⟩:=((uH HJ).below hB.out).ne (by rw [uH HM];omega)
   have cx:=hc1 k (by rw [uH HN];exact hlt)
   have cy:=hc2 k (by rw [uH HM];exact hlt)
   have C1:=hide (fun w'=>r9mul_any (atB I k) (atB J k) w' ((uH HI).lt k) ((uH HJ).lt k))
   have C2:=hide (fun w'=>r9add_any (dtK I J k) (mV (atB I k) (atB J k)) w' (dtK_lt I J k) (mV_lt _ _))
   have eV:Hid (dtK I J (k+1) = aV (dtK I J k) (mV (atB I k) (atB J k))):=rfl
   subst hao
   subst hbo
   clear hc1 hc2
   generalize aV (dtK I J k) (mV (atB I k) (atB J k)) = o at *
   generalize mV (atB I k) (atB J k) = p at *
   generalize atB I k = x at *
   generalize atB J k = y at *
   generalize dtK I J k = s at *
   have HK:=hide (fun w' (h:Below wr.heap.size wr w')=>(show Below wr.heap.size wr w'∧w'.cell? ⟨b1,o1+k,none⟩ = some (.int .u64 (x:Nat))∧w'.cell? ⟨b2,o2+k,none⟩ = some (.int .u64 (y:Nat)) from ⟨h,cell_keep cx h,cell_keep cy h⟩))
   clear cx cy
   go_wp2_with fail
   go_region_held3 (fun w'=>Below wr.heap.size wr w'∧w'.cell? ⟨b1,o1+k,none⟩ = some (.int .u64 (x:Nat))∧w'.cell? ⟨b2,o2+k,none⟩ = some (.int .u64 (y:Nat)))
    (first | exact uH HK _ (Below.refl _ _).drew | exact uH HK _ (by assumption) | fail "KK")
    (first | (go_at_call 50;refine (uH C1 _).mono ?_;rintro e w1 ⟨rfl,hb3⟩;have hB1:Below wr.heap.size wr w1:=Below.trans (And.left (by assumption)) (hb3.mono (Below.size (And.left (by assumption))));clear hb3) | (go_at_call 144;refine (uH C2 _).mono ?_;rintro e w2 ⟨rfl,hb4⟩;have hB2:Below wr.heap.size wr w2:=Below.trans (And.left (by assumption)) (hb4.mono (Below.size (And.left (by assumption))));clear hb4) | fail "NO ARM")
   have B2:Hid (Below w.heap.size w _):=hB.out.trans (Below.mono (And.left (by assumption)) hB.out.size)
   go_wp2_with fail
   go_round
   case rel=>exact ⟨k+1,by omega,by go_num,by rw [eV.out],B2⟩
   case measure=>simp [intOf];omega
  ·have hkk:k = n:=by omega
   subst hkk
   go_wp2_with fail
   exact bodyPost_ret (v:=.int .u64 (dtK I J k:Nat)) (by simp [results,Tryz.results92,go_sem]) rfl ⟨rfl,hB.out⟩
end Go.Proofs.YtlnphkioddknfaaGreatDoor
namespace Go.Proofs.YtlnphkioddknfaaGreatDoor
open Go.RowKit
attribute [local go_sem ↓] Go.wp_at_zero Go.wp_at_succ
theorem r9sub_of (a b v:Nat) (o:Option Nat) (w:World)
  (hA:∀ i w',(binOp .sub i (.float .f64 a) (.float .f64 b)).run Tryz.prog w' = .ok (.float .f64 (fres o a b w')) (fwld o w'))
  (F1:∀ w',Calls Tryz.prog 109 #[.int .u64 a] w' fun r w''=>r = .returned (.float .f64 a)∧w' = w'')
  (F2:∀ w',Calls Tryz.prog 109 #[.int .u64 b] w' fun r w''=>r = .returned (.float .f64 b)∧w' = w'')
  (N1:∀ u w',Calls Tryz.prog 75 #[.float .f64 (fres o a b u)] w' fun r w''=>r = .returned (.int .u64 v)∧w' = w'') :
  Calls Tryz.prog 49 #[.int .u64 a,.int .u64 b] w fun r w'=>r = .returned (.int .u64 (v:Nat))∧Below w.heap.size w w':=by
 have L1:=hide F1;have L2:=hide F2;have M1:=hide N1
 have B:=hide (below_fwld o w)
 clear F1 F2 N1
 go_enter Tryz.func49,Tryz.ntmps49
 go_wp2_with fail
 refine (uH L1 _).mono ?_
 rintro e w2 ⟨rfl,rfl⟩
 go_wp2_with fail
 refine (uH L2 _).mono ?_
 rintro e w2 ⟨rfl,rfl⟩
 go_wp2_with fail
 refine (uH M1 _ _).mono ?_
 rintro e w2 ⟨rfl,rfl⟩
 clear L1 L2 M1
 go_wp2
 go_ret
 exact ⟨rfl,uH B⟩
theorem r9sub_any (a b:Nat) (w:World) (ha:a < 18446744073709551616) (hb:b < 18446744073709551616) :
  Calls Tryz.prog 49 #[.int .u64 a,.int .u64 b] w fun r w'=>r = .returned (.int .u64 (aV a (fN b):Nat))∧Below w.heap.size w w':=by
 refine r9sub_of a b (aV a (fN b)) (Ieee.double.sub a b) w (fun i w'=>fsub_run i a b w') (fun w'=>f9_any a w' ha) (fun w'=>f9_any b w' hb) (fun u w'=>b9_of _ _ w' (fun w''=>?_))
 rw [fsub_add a b hb]
 cases h:Ieee.double.add a (fN b) with
 | some r =>
  have:=canon_add a (fN b) u w'' ha (fN_lt b hb)
  rw [h] at this
  exact this
 | none =>
  have hn:aN a (fN b) = true:=by
   cases e:aN a (fN b) with
   | true=>rfl
   | false=>rw [fadd_some a (fN b) ha (fN_lt b hb) e] at h;cases h
  rw [(fadd_none a (fN b) ha (fN_lt b hb) hn).2]
  obtain ⟨h3,h4⟩:=fres_none a b u
  have:=canon_any _ w'' h3
  rw [if_pos h4] at this
  exact this
def clL (r c:Nat) (S:List Nat) (k:Nat):List Nat:=fsL (fun i=>elM c S i k) r
theorem rcol_any (r c cap k:Nat) (ao:Option Addr) (S:List Nat) (w:World) (h:Mx w ao cap r c S) (hk:k < c) :
  Calls Tryz.prog 80 #[.agg #[.int .i64 r,.int .i64 c,.slice ao S.length cap],.int .i64 k,.int .i64 0] w fun e w'=>∃ bo d,e = .returned (.slice bo r d)∧BitsAt w' bo d (mxL (clL r c S k))∧Below w.heap.size w w':=by
 have HH:=hide h
 have r6:=h.2.2.1
 have s0:=size_alloc9 w (.cells #[.int .i64 r,.int .i64 c,.slice ao S.length cap] 24)
 have b0:=below_alloc9 w (.cells #[.int .i64 r,.int .i64 c,.slice ao S.length cap] 24)
 have X0:=BoxM.new w (.int .i64 r) (.int .i64 c) (.slice ao S.length cap)
 have b1:=below_alloc9 (w.alloc (.cells #[.int .i64 r,.int .i64 c,.slice ao S.length cap] 24)) (.cells #[] 37)
 have O0:=OwnB.nil (w.alloc (.cells #[.int .i64 r,.int .i64 c,.slice ao S.length cap] 24)) (w.heap.size+1) (by rw [s0];omega)
 rw [s0] at O0
 have HO:=hide O0;have HX:=hide (X0.all b1);have HB:=hide (b0.trans (b1.mono b0.size))
 obtain ⟨l,hl⟩:∃ l,S.length = l:=⟨_,rfl⟩
 rw [hl] at HX HB HO
 rw [hl]
 have HLL:=hide hl
 clear h s0 b0 X0 b1 O0 hl
 go_enter Tryz.func80,Tryz.ntmps80
 go_wp2_with fail
 go_loopw [7,8] (fun v i wr=>∃ j:Nat,j≤r∧i = .int .i64 j∧Hid (OwnB (w.heap.size+1) wr v (fsL (fun i=>elM c S i k) j))∧Hid (BoxM wr w.heap.size (.int .i64 r) (.int .i64 c) (.slice ao l cap))∧Hid (Below w.heap.size w wr)) (fun _ i _=>r - (intOf i).toNat)
 case atStart=>exact ⟨0,Nat.zero_le _,rfl,HO,HX,HB⟩
 case round =>
  clear HO HX HB
  obtain ⟨j,hj,rfl,hO,hX,hB⟩:=hrel
  have t0:=(uH hX).c0;have t1:=(uH hX).c1;have t2:=(uH hX).c2
  by_cases hlt:j < r
  ·have hjI:(j:Int) < (r:Int):=by omega
   have C:=hide (fun w' (m:Mx w' ao cap r c S)=>rat_any r c cap j k ao S w' m hlt hk)
   rw [uH HLL] at C
   have HM:=hide ((uH HH).below hB.out)
   have ho:=hide ((uH HH).el_lt j k)
   have hlen:=hide (show (fsL (fun i=>elM c S i k) j).length≤1000000 from by rw [fsL_len];omega)
   have eS:=hide (fsL_succ (fun i=>elM c S i k) j)
   generalize elM c S j k = o at *
   go_wp2_with fail
   refine (uH C _ (uH HM)).mono ?_
   rintro e w2 ⟨rfl,hb2⟩
   have own2:=(uH hO).below hb2
   have box2:=(uH hX).all hb2
   have B2:=hB.out.trans (hb2.mono hB.out.size)
   obtain ⟨v3,w3,run3,own3,bel3,_,_⟩:=own2.push o (uH ho) (uH hlen) (by have:=box2.lt;omega) 22
   have RUN:=hide run3
   have O3:=hide (show OwnB (w.heap.size+1) w3 v3 (fsL (fun i=>elM c S i k) (j+1)) from by rw [uH eS];exact own3)
   have X3:=hide (box2.below bel3 (by omega))
   have B3:=hide (B2.trans (bel3.mono (by omega)))
   clear hb2 C hO hX hB own2 box2 B2 run3 own3 bel3 ho hlen eS HM t0 t1 t2
   go_wp2_with (at_builtin;refine wpList_append_ran _ rfl _ _ 22 rfl _ _ _ _ rfl rfl (uH RUN) ?_;clear RUN)
   go_round
   case rel=>exact ⟨j+1,by omega,by go_num,O3,X3,B3⟩
   case measure=>simp [intOf];omega
  ·have hjj:r = j:=by omega
   subst hjj
   obtain ⟨b1,d1,e1,q1⟩:=(uH hO).bits
   rw [fsL_len] at e1
   subst e1
   have Q1:=hide q1
   clear q1 hO
   go_wp2_with fail
   go_ret
   exact ⟨b1,d1,rfl,uH Q1,hB.out⟩
end Go.Proofs.YtlnphkioddknfaaGreatDoor
namespace Go.Proofs.YtlnphkioddknfaaGreatDoor
open Go.RowKit
attribute [local go_sem ↓] Go.wp_at_zero Go.wp_at_succ
theorem r9div_of (a b v:Nat) (o:Option Nat) (w:World)
  (hA:∀ i w',(binOp .quo i (.float .f64 a) (.float .f64 b)).run Tryz.prog w' = .ok (.float .f64 (fres o a b w')) (fwld o w'))
  (F1:∀ w',Calls Tryz.prog 109 #[.int .u64 a] w' fun r w''=>r = .returned (.float .f64 a)∧w' = w'')
  (F2:∀ w',Calls Tryz.prog 109 #[.int .u64 b] w' fun r w''=>r = .returned (.float .f64 b)∧w' = w'')
  (N1:∀ u w',Calls Tryz.prog 75 #[.float .f64 (fres o a b u)] w' fun r w''=>r = .returned (.int .u64 v)∧w' = w'') :
  Calls Tryz.prog 52 #[.int .u64 a,.int .u64 b] w fun r w'=>r = .returned (.int .u64 (v:Nat))∧Below w.heap.size w w':=by
 have L1:=hide F1;have L2:=hide F2;have M1:=hide N1
 have B:=hide (below_fwld o w)
 clear F1 F2 N1
 go_enter Tryz.func52,Tryz.ntmps52
 go_wp2_with fail
 refine (uH L1 _).mono ?_
 rintro e w2 ⟨rfl,rfl⟩
 go_wp2_with fail
 refine (uH L2 _).mono ?_
 rintro e w2 ⟨rfl,rfl⟩
 go_wp2_with fail
 refine (uH M1 _ _).mono ?_
 rintro e w2 ⟨rfl,rfl⟩
 clear L1 L2 M1
 go_wp2
 go_ret
 exact ⟨rfl,uH B⟩
theorem r9div_any (a b:Nat) (w:World) (ha:a < 18446744073709551616) (hb:b < 18446744073709551616) :
  Calls Tryz.prog 52 #[.int .u64 a,.int .u64 b] w fun r w'=>r = .returned (.int .u64 (dV a b:Nat))∧Below w.heap.size w w' :=
 r9div_of a b (dV a b) (Ieee.double.div a b) w (fun i w'=>fdiv_run i a b w') (fun w'=>f9_any a w' ha) (fun w'=>f9_any b w' hb) (fun u w'=>b9_of _ _ w' (fun w''=>canon_div a b u w'' ha hb))
end Go.Proofs.YtlnphkioddknfaaGreatDoor
namespace Go.Proofs.YtlnphkioddknfaaGreatDoor
open Go.RowKit
attribute [local go_sem ↓] Go.wp_at_zero Go.wp_at_succ
theorem toN_getD (I:List Int) (j:Nat) (hj:j < I.length):(toN I).getD j 0 = atB I j:=by
 rw [List.getD_eq_getElem?_getD,toN_at I j hj]
 rfl
theorem ngt_drop (L:List Nat) {j:Nat} (h:j < L.length):ngt (L.drop j) = (decide (fK (L.getD j 0) = 0) && ngt (L.drop (j+1))):=by
 rw [List.drop_eq_getElem_cons h,List.getD_eq_getElem?_getD,List.getElem?_eq_getElem h]
 rfl
theorem ldS_drop (L:List Nat) {j:Nat} (h:j < L.length):ldS (L.drop j) = if fK (L.getD j 0) = 0 then ldS (L.drop (j+1)) else fS (L.getD j 0):=by
 rw [List.drop_eq_getElem_cons h,List.getD_eq_getElem?_getD,List.getElem?_eq_getElem h]
 rfl
theorem rnoughts13_any (ao:Option Addr) (c:Nat) (I:List Int) (w:World) (hI:BitsAt w ao c I) (hn:I.length≤64) :
  Calls Tryz.prog 195 #[.slice ao I.length c] w fun e w'=>e = .returned (.bool (ngt ((toN I).drop 1)))∧Below w.heap.size w w':=by
 have HI:=hide hI
 obtain ⟨G,hG⟩:∃ G:Nat→Bool,G = fun j=>ngt ((toN I).drop j):=⟨_,rfl⟩
 have G1:ngt ((toN I).drop 1) = G 1:=by rw [hG]
 have GE:∀ j,I.length≤j→G j = true:=fun j hj=>by
  rw [hG]
  show ngt ((toN I).drop j) = true
  rw [List.drop_eq_nil_of_le (by rw [toN_len];exact hj)]
  rfl
 have GS:∀ j,j < I.length→G j = (decide (fK (atB I j) = 0) && G (j+1)):=fun j hj=>by
  rw [hG]
  show ngt ((toN I).drop j) = _
  rw [ngt_drop (toN I) (by rw [toN_len];exact hj),toN_getD I j hj]
 rw [G1]
 obtain ⟨v,hv⟩:∃ v,G 1 = v:=⟨_,rfl⟩
 have HE:=hide GE;have HS:=hide GS
 obtain ⟨n,hnn⟩:∃ n,I.length = n:=⟨_,rfl⟩
 rw [hnn] at hn HE HS ⊢
 rw [hv]
 have HN:=hide hnn
 have HV:=hide hv
 clear hI hG G1 GE GS hnn hv
 go_enter Tryz.func195,Tryz.ntmps195
 go_wp2_with fail
 go_loopw [3] (fun i wr=>∃ j:Nat,1≤j∧j≤n+1∧i = .int .i64 j∧Hid (G j = v)∧Hid (Below w.heap.size w wr)) (fun i _=>n+1 - (intOf i).toNat)
 case atStart=>exact ⟨1,Nat.le_refl _,by omega,rfl,HV,Below.refl _ _⟩
 case round =>
  obtain ⟨j,hj1,hj,rfl,hG,hB⟩:=hrel
  by_cases hlt:j < n
  ·have hjI:(j:Int) < (n:Int):=by omega
   obtain ⟨b,off,hao,hb,hc⟩:=((uH HI).below hB.out).ne (by rw [uH HN];omega)
   have hck:=hide (hc j (by rw [uH HN];exact hlt))
   have C1:=hide (fun w'=>rkind_any (atB I j) w' ((uH HI).lt j))
   have HJ:=hide (uH HS j hlt)
   subst hao
   clear hc
   generalize fK (atB I j) = kd at *
   generalize atB I j = x at *
   have hc0:=uH hck
   by_cases g0:kd = 0
   ·subst g0
    have R:=hide (show G (j+1) = v from by have:=uH HJ;rw [uH hG] at this;rw [this];rfl)
    clear HJ
    go_wp2_with fail
    refine (uH C1 _).mono ?_
    rintro e w2 ⟨rfl,rfl⟩
    clear C1
    go_wp2_with fail
    go_round
    case rel=>exact ⟨j+1,by omega,by omega,by go_num,R,hB⟩
    case measure=>simp [intOf];omega
   ·have hv2:v = false:=by have:=uH HJ;rw [uH hG,decide_eq_false g0] at this;rw [this];rfl
    subst hv2
    clear HJ
    have g0':(kd == 0) = false:=by rw [beq_eq_false_iff_ne];exact g0
    go_wp2_with fail
    refine (uH C1 _).mono ?_
    rintro e w2 ⟨rfl,rfl⟩
    clear C1
    go_wp2_with fail
    exact bodyPost_ret (v:=.bool false) (by simp [results,Tryz.results195,go_sem]) rfl ⟨rfl,hB.out⟩
  ·have hv2:v = true:=by have:=uH HE j (by omega);rw [uH hG] at this;exact this
   subst hv2
   have hjI:(n:Int)≤(j:Int):=by omega
   go_wp2_with fail
   exact bodyPost_ret (v:=.bool true) (by simp [results,Tryz.results195,go_sem]) rfl ⟨rfl,hB.out⟩
theorem rlead13_any (ao:Option Addr) (c:Nat) (I:List Int) (w:World) (hI:BitsAt w ao c I) (hn:I.length≤64) (h0:ngt (toN I) = false) :
  Calls Tryz.prog 197 #[.slice ao I.length c] w fun e w'=>∃ p:Nat,e = .returned (.int .i64 (p:Nat))∧p < I.length∧fS (atB I p) = ldS (toN I)∧Below w.heap.size w w':=by
 have HI:=hide hI
 obtain ⟨G,hG⟩:∃ G:Nat→Bool,G = fun j=>ngt ((toN I).drop j):=⟨_,rfl⟩
 obtain ⟨L,hL⟩:∃ L:Nat→Bool,L = fun j=>ldS ((toN I).drop j):=⟨_,rfl⟩
 have G0:G 0 = false:=by rw [hG];exact h0
 have L0:ldS (toN I) = L 0:=by rw [hL];rfl
 have GE:∀ j,I.length≤j→G j = true:=fun j hj=>by
  rw [hG]
  show ngt ((toN I).drop j) = true
  rw [List.drop_eq_nil_of_le (by rw [toN_len];exact hj)]
  rfl
 have GS:∀ j,j < I.length→G j = (decide (fK (atB I j) = 0) && G (j+1))∧L j = if fK (atB I j) = 0 then L (j+1) else fS (atB I j):=fun j hj=>by
  rw [hG,hL]
  show ngt ((toN I).drop j) = _∧ldS ((toN I).drop j) = _
  rw [ngt_drop (toN I) (by rw [toN_len];exact hj),ldS_drop (toN I) (by rw [toN_len];exact hj),toN_getD I j hj]
  exact ⟨rfl,rfl⟩
 rw [L0]
 obtain ⟨v,hv⟩:∃ v,L 0 = v:=⟨_,rfl⟩
 have HE:=hide GE;have HS:=hide GS;have HG0:=hide G0
 obtain ⟨n,hnn⟩:∃ n,I.length = n:=⟨_,rfl⟩
 rw [hnn] at hn HE HS ⊢
 rw [hv]
 have HN:=hide hnn
 have HV:=hide hv
 clear hI hG hL G0 L0 GE GS hnn hv h0
 go_enter Tryz.func197,Tryz.ntmps197
 go_wp2_with fail
 go_loopw [3] (fun i wr=>∃ j:Nat,j≤n∧i = .int .i64 j∧Hid (G j = false)∧Hid (L j = v)∧Hid (Below w.heap.size w wr)) (fun i _=>n - (intOf i).toNat)
 case atStart=>exact ⟨0,Nat.zero_le _,rfl,HG0,HV,Below.refl _ _⟩
 case round =>
  obtain ⟨j,hj,rfl,hG,hL,hB⟩:=hrel
  by_cases hlt:j < n
  ·have hjI:(j:Int) < (n:Int):=by omega
   obtain ⟨b,off,hao,hb,hc⟩:=((uH HI).below hB.out).ne (by rw [uH HN];omega)
   have hck:=hide (hc j (by rw [uH HN];exact hlt))
   have C1:=hide (fun w'=>rkind_any (atB I j) w' ((uH HI).lt j))
   have HJ:=hide (uH HS j hlt)
   have HX:=hide (show atB I j = atB I j from rfl)
   subst hao
   clear hc
   by_cases g0:fK (atB I j) = 0
   ·have R:=hide (show G (j+1) = false from by have:=(uH HJ).1;rw [uH hG,decide_eq_true g0,Bool.true_and] at this;exact this.symm)
    have R2:=hide (show L (j+1) = v from by have:=(uH HJ).2;rw [uH hL,if_pos g0] at this;exact this.symm)
    rw [g0] at C1
    clear HJ HX g0
    generalize atB I j = x at *
    have hc0:=uH hck
    go_wp2_with fail
    refine (uH C1 _).mono ?_
    rintro e w2 ⟨rfl,rfl⟩
    clear C1
    go_wp2_with fail
    go_round
    case rel=>exact ⟨j+1,by omega,by go_num,R,R2,hB⟩
    case measure=>simp [intOf];omega
   ·have R2:=hide (show fS (atB I j) = v from by have:=(uH HJ).2;rw [uH hL,if_neg g0] at this;exact this.symm)
    have g0':(fK (atB I j) == 0) = false:=by rw [beq_eq_false_iff_ne];exact g0
    clear HJ HX
    generalize fK (atB I j) = kd at *
    generalize hxx:atB I j = x at *
    have hc0:=uH hck
    go_wp2_with fail
    refine (uH C1 _).mono ?_
    rintro e w2 ⟨rfl,rfl⟩
    clear C1
    go_wp2_with fail
    exact bodyPost_ret (v:=.int .i64 (j:Nat)) (by simp [results,Tryz.results197,go_sem]) rfl ⟨j,rfl,hlt,by rw [hxx];exact uH R2,hB.out⟩
  ·have:=uH HE j (by omega)
   rw [uH hG] at this
   cases this
end Go.Proofs.YtlnphkioddknfaaGreatDoor
namespace Go.Proofs.YtlnphkioddknfaaGreatDoor
def apJ (r c:Nat) (S:List Nat) (i k:Nat) (vs:List Nat) (tau d j:Nat):List Nat:=mkM r c (fun p q=>if (k≤q∧i≤p∧p < i+vs.length)∧(q < d ∨ (q = d∧p < i+j)) then (apL c S i q vs tau).getD (p - i) 0 else elM c S p q)
theorem apJ_len (r c:Nat) (S:List Nat) (i k:Nat) (vs:List Nat) (tau d j:Nat):(apJ r c S i k vs tau d j).length = r * c:=mkM_len _ _ _
theorem apJ_0 (r c:Nat) (S:List Nat) (i k:Nat) (vs:List Nat) (tau:Nat) (h:S.length = r * c):apJ r c S i k vs tau k 0 = S:=by
 unfold apJ
 rw [← mkM_of r c S h]
 refine mkM_congr (fun p q _ _=>?_)
 rw [mkM_of r c S h,if_neg (fun g=>by omega)]
 rfl
theorem apJ_next (r c:Nat) (S:List Nat) (i k:Nat) (vs:List Nat) (tau d:Nat):apJ r c S i k vs tau d vs.length = apJ r c S i k vs tau (d+1) 0:=by
 unfold apJ
 refine mkM_congr (fun p q _ _=>?_)
 by_cases g:(k≤q∧i≤p∧p < i+vs.length)∧(q < d ∨ (q = d∧p < i+vs.length))
 ·rw [if_pos g,if_pos ⟨g.1,by omega⟩]
 ·rw [if_neg g,if_neg (fun g2=>g ⟨g2.1,by omega⟩)]
theorem apJ_all (r c:Nat) (S:List Nat) (i k:Nat) (vs:List Nat) (tau d:Nat) (hd:c≤d):apJ r c S i k vs tau d 0 = apM r c S i k vs tau:=by
 unfold apJ apM
 refine mkM_congr (fun p q _ hq=>?_)
 by_cases g:k≤q∧i≤p∧p < i+vs.length
 ·rw [if_pos g,if_pos ⟨g,by omega⟩]
 ·rw [if_neg g,if_neg (fun g2=>g g2.1)]
theorem apJ_set (r c:Nat) (S:List Nat) {i k:Nat} {vs:List Nat} {tau d j:Nat} (hi:i+vs.length≤r) (hd:d < c) (hk:k≤d) (hj:j < vs.length) :
  (apJ r c S i k vs tau d j).set ((i+j) * c+d) ((apL c S i d vs tau).getD j 0) = apJ r c S i k vs tau d (j+1):=by
 unfold apJ
 rw [mkM_set r c _ _ (show i+j < r by omega) hd]
 refine mkM_congr (fun p q _ _=>?_)
 by_cases e:p = i+j∧q = d
 ·obtain ⟨rfl,rfl⟩:=e
  rw [if_pos ⟨rfl,rfl⟩,if_pos ⟨⟨hk,by omega,by omega⟩,.inr ⟨rfl,by omega⟩⟩,show i+j - i = j by omega]
 ·rw [if_neg e]
  by_cases g:(k≤q∧i≤p∧p < i+vs.length)∧(q < d ∨ (q = d∧p < i+j))
  ·rw [if_pos g,if_pos ⟨g.1,by omega⟩]
  ·rw [if_neg g,if_neg (fun g2=>g ⟨g2.1,by omega⟩)]
theorem apL_at (c:Nat) (S:List Nat) (i q:Nat) (vs:List Nat) (tau:Nat) {j:Nat} (hj:j < vs.length) :
  (apL c S i q vs tau).getD j 0 = aV (elM c S (i+j) q) (fN (mV (mV tau (dtV 0 vs (colL c S i vs.length q))) (vs.getD j 0))):=by
 unfold apL
 rw [apV_at _ vs _ j (colL_len _ _ _ _ _).symm hj,colL_at c S i vs.length q hj]
theorem apL_lt (c:Nat) (S:List Nat) (i q:Nat) (vs:List Nat) (tau:Nat) {j:Nat} (hj:j < vs.length) (hS:∀ p q,elM c S p q < 18446744073709551616):(apL c S i q vs tau).getD j 0 < 18446744073709551616:=by
 rw [apL_at c S i q vs tau hj]
 exact aV_lt _ _ (hS _ _) (fN_lt _ (mV_lt _ _))
theorem dtV_snoc (x y:Nat):∀ (xs ys:List Nat) (s:Nat),xs.length = ys.length→dtV s (xs ++ [x]) (ys ++ [y]) = aV (dtV s xs ys) (mV x y):=by
 intro xs
 induction xs with
 | nil =>
  intro ys s h
  match ys with
  | []=>rfl
  | y' :: ys=>cases h
 | cons x' xs ih =>
  intro ys s h
  match ys with
  | []=>cases h
  | y' :: ys=>exact ih ys _ (by simpa using h)
theorem dtK_dtV (I J:List Int):∀ j,j≤I.length→j≤J.length→dtK I J j = dtV 0 ((toN I).take j) ((toN J).take j):=by
 intro j
 induction j with
 | zero=>intro _ _;rfl
 | succ j ih =>
  intro h1 h2
  rw [toN_take I j h1,toN_take J j h2,dtV_snoc _ _ _ _ _ (by simp [toN_len];omega),← ih (by omega) (by omega)]
  rfl
end Go.Proofs.YtlnphkioddknfaaGreatDoor
