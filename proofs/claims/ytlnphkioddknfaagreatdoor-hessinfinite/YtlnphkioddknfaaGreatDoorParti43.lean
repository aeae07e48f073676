/- Part 43 of the texts. -/
import Derived.Test.YtlnphkioddknfaaGreatDoorParti42
import Derived.Test.YtlnphkioddknfaaGreatDoorParti32
import Derived.Deep.RegionWith
import Derived.Deep.RegionLaw
import Derived.Test.YtlnphkioddknfaaGreatDoorParti39
import Derived.Test.YtlnphkioddknfaaGreatDoorChecked
import Derived.Test.YtlnphkioddknfaaGreatDoorParti02
import Derived.ProofKit
import Derived.SizedLaws
import Derived.Lib.SmallJoins
import Derived.Test.YtlnphkioddknfaaGreatDoorRows
import Derived.Test.YtlnphkioddknfaaGreatDoorParti11
import Derived.Lib.LaidTab
import Derived.OpenShut
import Derived.Deep.DeepHandedRow
set_option maxHeartbeats 16000000
set_option maxRecDepth 20000
namespace Go.Proofs.YtlnphkioddknfaaGreatDoor
open Go.RowKit
attribute [local go_sem ↓] Go.wp_at_zero Go.wp_at_succ
theorem awake18_of (S:List Nat) (l:Nat) (w:World) (hl:S.length = l) (hl2:l≤1000000)
  (C1:∀ w',Calls Tryz.prog 25 #[.int .i64 3] w' fun e w''=>∃ v,e = .returned v∧NewM 0 w'' 3 3 S v∧Below w'.heap.size w' w'')
  (C2:∀ w' ao ac bo bc,Below w.heap.size w w'→BitsAt w' ao ac (mxL S)→BitsAt w' bo bc (mxL S)→Calls Tryz.prog 38 #[.agg #[.int .i64 (3:Nat),.int .i64 (3:Nat),.slice ao l ac],.agg #[.int .i64 (3:Nat),.int .i64 (3:Nat),.slice bo l bc]] w' fun e w''=>∃ ho uo qo zo hc tc qc zc,e = .returned (.tuple #[.agg #[.int .i64 (3:Nat),.int .i64 (3:Nat),.slice ho l hc,.int .i64 (3:Nat),.int .i64 (3:Nat),.slice uo l tc,.int .i64 (3:Nat),.int .i64 (3:Nat),.slice qo l qc,.int .i64 (3:Nat),.int .i64 (3:Nat),.slice zo l zc],.int .i64 0])∧BitsAt w'' uo tc (mxL S)∧Below w'.heap.size w' w'') :
  Calls Tryz.prog 41 #[] w fun e w'=>e = .returned (.bool true)∧Below w.heap.size w w':=by
 have K1:=hide C1;have K2:=hide C2;have HL:=hide hl
 have K4:=hide (fun w' ao ac bo bc (h:BitsAt w' ao ac (mxL S)) (h2:BitsAt w' bo bc (mxL S))=>by
  have:=rsame_any 3 3 ao bo ac bc S w' h h2 (by omega)
  rw [hl] at this
  exact this)
 clear C1 C2 hl hl2
 go_enter Tryz.func41,Tryz.ntmps41
 go_wp2_with fail
 refine (uH K1 _).mono ?_
 rintro e w1 ⟨v,rfl,⟨ao,ac,rfl,_,q1⟩,hb1⟩
 rw [uH HL]
 have B1:=hide hb1;have Q1:=hide q1
 clear hb1 q1
 go_wp2_with fail
 refine (uH K1 _).mono ?_
 rintro e w2 ⟨v,rfl,⟨bo,bc,rfl,_,q2⟩,hb2⟩
 rw [uH HL]
 replace B1:=hide ((uH B1).trans (hb2.mono (uH B1).size));replace Q1:=hide ((uH Q1).below hb2);have Q2:=hide q2
 clear hb2 q2
 go_wp2_with fail
 refine (uH K2 _ ao ac bo bc (uH B1) (uH Q1) (uH Q2)).mono ?_
 rintro e w3 ⟨ho,uo,qo,zo,hc,tc,qc,zc,rfl,q3,hb3⟩
 have ba:=below_alloc9 w3 (.cells #[.int .i64 (3:Nat),.int .i64 (3:Nat),.slice ho l hc,.int .i64 (3:Nat),.int .i64 (3:Nat),.slice uo l tc,.int .i64 (3:Nat),.int .i64 (3:Nat),.slice qo l qc,.int .i64 (3:Nat),.int .i64 (3:Nat),.slice zo l zc] 57)
 have x3:=BoxL.new 57 w3 [.int .i64 (3:Nat),.int .i64 (3:Nat),.slice ho l hc,.int .i64 (3:Nat),.int .i64 (3:Nat),.slice uo l tc,.int .i64 (3:Nat),.int .i64 (3:Nat),.slice qo l qc,.int .i64 (3:Nat),.int .i64 (3:Nat),.slice zo l zc]
 have B2:=(uH B1).trans (hb3.mono (uH B1).size)
 have B3:=hide (B2.trans (ba.mono B2.size))
 have Q3:=hide (q3.below ba)
 have X3:=hide x3
 clear q3 hb3 ba x3 B1 B2 Q1 Q2 K2
 go_wp2_with fail
 refine at_world (fun W=>Below w.heap.size w W∧BitsAt W uo tc (mxL S)∧BoxL 57 W w3.heap.size [.int .i64 3,.int .i64 3,.slice ho l hc,.int .i64 3,.int .i64 3,.slice uo l tc,.int .i64 3,.int .i64 3,.slice qo l qc,.int .i64 3,.int .i64 3,.slice zo l zc]) ⟨uH B3,uH Q3,uH X3⟩ ?_
 clear B3 Q3 X3
 rintro W ⟨bw,qw,xw⟩
 generalize w3.heap.size = g at *
 have HB:=hide bw;have HQ:=hide qw
 have HK:=hide (fun w' (h:Below W.heap.size W w')=>(show Below W.heap.size W w'∧w'.cell? ⟨g,3,none⟩ = some (.int .i64 3)∧w'.cell? ⟨g,4,none⟩ = some (.int .i64 3)∧w'.cell? ⟨g,5,none⟩ = some (.slice uo l tc)∧w'.cell? ⟨g,9,none⟩ = some (.int .i64 3) from ⟨h,(xw.all h).c 3 rfl,(xw.all h).c 4 rfl,(xw.all h).c 5 rfl,(xw.all h).c 9 rfl⟩))
 clear bw qw xw
 go_region_held3 (fun w'=>Below W.heap.size W w'∧w'.cell? ⟨g,3,none⟩ = some (.int .i64 3)∧w'.cell? ⟨g,4,none⟩ = some (.int .i64 3)∧w'.cell? ⟨g,5,none⟩ = some (.slice uo l tc)∧w'.cell? ⟨g,9,none⟩ = some (.int .i64 3))
  (first | exact uH HK _ (Below.refl _ _).drew | exact uH HK _ (by assumption) | fail "KK")
  (first | (go_at_call 25;refine (uH K1 _).mono ?_;rintro e w4 ⟨v,rfl,⟨eo,ec,rfl,_,qe⟩,hb4⟩;have hB4:Below W.heap.size W w4:=Below.trans (And.left (by assumption)) (hb4.mono (Below.size (And.left (by assumption))));have QE:=hide qe;rw [uH HL];clear qe hb4 K1) | (go_at_call 23;refine (uH K4 _ _ _ _ _ (by exact (uH HQ).below (And.left (by assumption))) (uH QE)).mono ?_;rintro e w5 ⟨rfl,hb5⟩;have hB5:Below W.heap.size W w5:=Below.trans (And.left (by assumption)) (hb5.mono (Below.size (And.left (by assumption))));clear hb5 K4) | fail "NO ARM")
 all_goals
  go_wp2
  go_ret
  exact ⟨rfl,(uH HB).trans (Below.mono (And.left (by assumption)) (uH HB).size)⟩
theorem a18_k:hsK 3 (eyM 3) (eyM 3) = true:=by decide +kernel
theorem a18_t:(hsF 3 (eyM 3) (eyM 3)).T = eyM 3:=by decide +kernel
theorem a18_f:finL (eyM 3) = true:=by decide +kernel
theorem awake18_any (w:World) (hT:Tab w):∀ w',Below w.heap.size w w'→Calls Tryz.prog 41 #[] w' fun e w''=>e = .returned (.bool true)∧Below w'.heap.size w' w'':=fun w0 hb0=>by
 have hm:∀ (w':World) ao cap,BitsAt w' ao cap (mxL (eyM 3))→Mx w' ao cap 3 3 (eyM 3):=fun w' ao cap h=>⟨h,mkM_len _ _ _,by omega,by omega⟩
 refine awake18_of (eyM 3) (3 * 3) w0 (mkM_len _ _ _) (by omega) (fun w'=>reye_any 3 w' (by omega)) (fun w' ao ac bo bc hb h1 h2=>?_)
 have:=hBring_any 3 ac bc ao bo (eyM 3) (eyM 3) w' (hm w' ao ac h1) (hm w' bo bc h2) a18_f a18_f ((hT.all hb0).all hb)
 rw [a18_k,show (eyM 3).length = 3 * 3 from mkM_len _ _ _] at this
 refine this.mono ?_
 rintro e w'' ⟨⟨_,ho,uo,qo,zo,hc,tc,qc,zc,rfl,v⟩ | ⟨h0,_⟩,hb2⟩
 ·have ht:=v.t
  rw [a18_t] at ht
  exact ⟨ho,uo,qo,zo,hc,tc,qc,zc,rfl,ht,hb2⟩
 ·cases h0
def nzC (n:Nat) (S:List Nat):Nat→Nat
 | 0=>0
 | i+1=>nzC n S i+(if fK (elM n S i i) = 0 then 1 else 0)
theorem nzC_le (n:Nat) (S:List Nat):∀ i,nzC n S i≤i
 | 0=>Nat.le_refl _
 | i+1=>by
  have:=nzC_le n S i
  show nzC n S i+_≤i+1
  split <;> omega
theorem infinite_err (r c:Int) (ao:Option Addr) (k cap:Nat) (er:Int) (w:World) (her:er = 1 ∨ er = 4)
  (C1:∀ w',Below w.heap.size w w'→Calls Tryz.prog 56 #[.agg #[.int .i64 r,.int .i64 c,.slice ao k cap]] w' fun e w''=>e = .returned (.int .i64 er)∧Below w'.heap.size w' w'') :
  Calls Tryz.prog 43 #[.agg #[.int .i64 r,.int .i64 c,.slice ao k cap]] w fun e w'=>e = .returned (.tuple #[.int .i64 0,.int .i64 er])∧Below w.heap.size w w':=by
 have b0:=below_alloc9 w (.cells #[.int .i64 r,.int .i64 c,.slice ao k cap] 24)
 have x0:=BoxM.new w (.int .i64 r) (.int .i64 c) (.slice ao k cap)
 have K1:=hide (C1 _ b0)
 have HB:=hide b0
 have y0:=x0.c0;have y1:=x0.c1;have y2:=x0.c2
 clear C1 b0 x0
 rcases her with rfl | rfl
 all_goals
  go_enter Tryz.func43,Tryz.ntmps43
  go_wp2_with fail
  clear y0 y1 y2
  refine (uH K1).mono ?_
  rintro e w1 ⟨rfl,hb⟩
  replace HB:=hide ((uH HB).trans (hb.mono (uH HB).size))
  clear hb K1
  go_wp2_with fail
  exact bodyPost_ret (v:=.tuple #[.int .i64 0,.int .i64 _]) (by simp [results,Tryz.results43,go_sem]) rfl ⟨rfl,uH HB⟩
theorem infinite_shape (r c:Int) (ao:Option Addr) (k cap:Nat) (w:World) (hrc:(r == c) = false)
  (C1:∀ w',Below w.heap.size w w'→Calls Tryz.prog 56 #[.agg #[.int .i64 r,.int .i64 c,.slice ao k cap]] w' fun e w''=>e = .returned (.int .i64 0)∧Below w'.heap.size w' w'') :
  Calls Tryz.prog 43 #[.agg #[.int .i64 r,.int .i64 c,.slice ao k cap]] w fun e w'=>e = .returned (.tuple #[.int .i64 0,.int .i64 3])∧Below w.heap.size w w':=by
 have b0:=below_alloc9 w (.cells #[.int .i64 r,.int .i64 c,.slice ao k cap] 24)
 have x0:=BoxM.new w (.int .i64 r) (.int .i64 c) (.slice ao k cap)
 have K1:=hide (C1 _ b0)
 have KS:=hide (fun w'=>hsquare_any r c ao k cap w')
 rw [hrc] at KS
 have HB:=hide b0;have HX:=hide x0
 have y0:=x0.c0;have y1:=x0.c1;have y2:=x0.c2
 clear C1 b0 x0 hrc
 go_enter Tryz.func43,Tryz.ntmps43
 go_wp2_with fail
 clear y0 y1 y2
 refine (uH K1).mono ?_
 rintro e w1 ⟨rfl,hb⟩
 replace HX:=hide ((uH HX).all hb)
 replace HB:=hide ((uH HB).trans (hb.mono (uH HB).size))
 clear hb K1
 have y0:=(uH HX).c0;have y1:=(uH HX).c1;have y2:=(uH HX).c2
 go_wp2_with fail
 clear y0 y1 y2
 refine (uH KS _).mono ?_
 rintro e w2 ⟨rfl,hb⟩
 replace HB:=hide ((uH HB).trans (hb.mono (uH HB).size))
 clear hb KS HX
 go_wp2_with fail
 exact bodyPost_ret (v:=.tuple #[.int .i64 0,.int .i64 3]) (by simp [results,Tryz.results43,go_sem]) rfl ⟨rfl,uH HB⟩
theorem infinite_any (n N cap:Nat) (ao:Option Addr) (S:List Nat) (w:World) (h:Mx w ao cap n n S) (hf:finL S = true) (lS:S.length = N) :
  Calls Tryz.prog 43 #[.agg #[.int .i64 n,.int .i64 n,.slice ao N cap]] w fun e w'=>e = .returned (.tuple #[.int .i64 (nzC n S n:Nat),.int .i64 0])∧Below w.heap.size w w':=by
 have n6:=h.2.2.1
 have b0:=below_alloc9 w (.cells #[.int .i64 n,.int .i64 n,.slice ao N cap] 24)
 have x0:=BoxM.new w (.int .i64 n) (.int .i64 n) (.slice ao N cap)
 have K1:=hide (show Calls Tryz.prog 56 #[.agg #[.int .i64 n,.int .i64 n,.slice ao N cap]] (w.alloc (.cells #[.int .i64 n,.int .i64 n,.slice ao N cap] 24)) fun e w''=>e = .returned (.int .i64 0)∧Below (w.alloc (.cells #[.int .i64 n,.int .i64 n,.slice ao N cap] 24)).heap.size (w.alloc (.cells #[.int .i64 n,.int .i64 n,.slice ao N cap] 24)) w'' from by
  have:=ccheck_any n n ao cap (mxL S) (w.alloc (.cells #[.int .i64 n,.int .i64 n,.slice ao N cap] 24)) (h.1.below b0) (by rw [mxL_len];have:=h.small;omega)
  rw [ck_mx h hf,mxL_len,lS] at this
  exact this)
 have KS:=hide (fun w'=>hsquare_any n n ao N cap w')
 rw [show ((n:Int) == (n:Int)) = true by simp] at KS
 have HB:=hide b0;have HX:=hide x0;have HS:=hide h;have HL:=hide lS
 have HN:=hide (show n * n = N by rw [← lS,h.2.1])
 have ZC:=hide (nzC_le n S)
 obtain ⟨Z,hZ⟩:∃ Z:Nat→Nat,nzC n S = Z:=⟨_,rfl⟩
 have Z0:=hide (show Z 0 = 0 by rw [← hZ];rfl)
 have Z1:=hide (show ∀ i,fK (elM n S i i) = 0→Z (i+1) = Z i+1 from fun i e=>by rw [← hZ];show nzC n S i+_ = _;rw [if_pos e])
 have Z2:=hide (show ∀ i,fK (elM n S i i) ≠ 0→Z (i+1) = Z i from fun i e=>by rw [← hZ];show nzC n S i+_ = _;rw [if_neg e];rfl)
 rw [hZ] at ZC ⊢
 have y0:=x0.c0;have y1:=x0.c1;have y2:=x0.c2
 clear b0 x0 h lS hf hZ
 go_enter Tryz.func43,Tryz.ntmps43
 go_wp2_with fail
 clear y0 y1 y2
 refine (uH K1).mono ?_
 rintro e w1 ⟨rfl,hb⟩
 replace HX:=hide ((uH HX).all hb)
 replace HB:=hide ((uH HB).trans (hb.mono (uH HB).size))
 clear hb K1
 have y0:=(uH HX).c0;have y1:=(uH HX).c1;have y2:=(uH HX).c2
 go_wp2_with fail
 clear y0 y1 y2
 refine (uH KS _).mono ?_
 rintro e w2 ⟨rfl,hb⟩
 replace HX:=hide ((uH HX).all hb)
 replace HB:=hide ((uH HB).trans (hb.mono (uH HB).size))
 clear hb KS
 have y0:=(uH HX).c0
 go_wp2_with fail
 clear y0
 go_loopw [5,17] (fun z a wr=>∃ i:Nat,i≤n∧a = .int .i64 i∧z = .int .i64 (Z i:Nat)∧Hid (Below w.heap.size w wr)∧Hid (BoxM wr w.heap.size (.int .i64 n) (.int .i64 n) (.slice ao N cap))) (fun _ a _=>n - (intOf a).toNat)
 case atStart=>exact ⟨0,Nat.zero_le _,rfl,by rw [uH Z0];rfl,HB,HX⟩
 case round =>
  clear HB HX
  obtain ⟨i,hi,rfl,rfl,hB,hX⟩:=hrel
  by_cases hlt:i < n
  ·have hiI:(i:Int) < (n:Int):=by omega
   obtain ⟨p,hp⟩:∃ p,i * n+i = p:=⟨_,rfl⟩
   have hpN:p < N:=by rw [← hp,← uH HN];exact place_lt hlt hlt
   have h36:N≤36:=by rw [← uH HN];exact Nat.mul_le_mul n6 n6
   have hpI:(p:Int) < (N:Int):=by omega
   have KP:=hide (fun w'=>hplace_any n n i i p ao N cap w' hp (by omega))
   have vl:=(uH HS).el_lt i i
   have KK:=hide (fun w'=>kind_any (elM n S i i) w' vl)
   have Y1:=hide (uH Z1 i);have Y2:=hide (uH Z2 i)
   obtain ⟨sb,so,hso,hsl,hcx,_⟩:=((uH HS).below (uH hB)).cells hlt hlt
   rw [hp] at hcx
   have HC:=hide hcx
   have hzi:=uH ZC i
   generalize elM n S i i = v at *
   subst hso
   clear hcx vl
   go_wp2_with fail
   refine at_world (fun W=>Below w.heap.size w W∧BoxM W w.heap.size (.int .i64 n) (.int .i64 n) (.slice (some ⟨sb,so,none⟩) N cap)∧W.cell? ⟨sb,so+p,none⟩ = some (.int .u64 (v:Nat))∧sb < W.heap.size) ⟨uH hB,uH hX,uH HC,hsl⟩ ?_
   clear hB hX HC hsl
   rintro W ⟨bw,xw,cw,sw⟩
   have HB:=hide bw;have HX:=hide xw
   have HK:=hide (fun w' (h:Below W.heap.size W w')=>(show Below W.heap.size W w'∧(w'.cell? ⟨w.heap.size,0,none⟩ = some (.int .i64 n)∧w'.cell? ⟨w.heap.size,1,none⟩ = some (.int .i64 n)∧w'.cell? ⟨w.heap.size,2,none⟩ = some (.slice (some ⟨sb,so,none⟩) N cap))∧w'.cell? ⟨sb,so+p,none⟩ = some (.int .u64 (v:Nat)) from ⟨h,⟨(xw.all h).c0,(xw.all h).c1,(xw.all h).c2⟩,cell_keep cw h⟩))
   clear bw xw cw sw
   go_region_held3 (fun w'=>Below W.heap.size W w'∧(w'.cell? ⟨w.heap.size,0,none⟩ = some (.int .i64 n)∧w'.cell? ⟨w.heap.size,1,none⟩ = some (.int .i64 n)∧w'.cell? ⟨w.heap.size,2,none⟩ = some (.slice (some ⟨sb,so,none⟩) N cap))∧w'.cell? ⟨sb,so+p,none⟩ = some (.int .u64 (v:Nat)))
    (first | exact uH HK _ (Below.refl _ _).drew | exact uH HK _ (by assumption) | fail "KK")
    (first | (go_at_call 104;with_reducible refine Calls.mono (uH KP _) ?_;rintro e w6 ⟨rfl,hb5⟩;have hB5:Below W.heap.size W w6:=Below.trans (And.left (by assumption)) (hb5.mono (Below.size (And.left (by assumption))));clear hb5 KP) | (go_at_call 103;refine (uH KK _).mono ?_;rintro e w7 ⟨rfl,hb5⟩;have hB5:Below W.heap.size W w7:=Below.trans (And.left (by assumption)) (hb5.mono (Below.size (And.left (by assumption))));clear hb5 KK) | fail "NO ARM")
   all_goals
    have BB:=And.left (by assumption:Below W.heap.size W _∧_)
    replace HB:=hide ((uH HB).trans (BB.mono (uH HB).size));replace HX:=hide ((uH HX).all BB)
    clear HK BB
    by_cases hk:fK v = 0
    ·have E1:=hide (uH Y1 hk)
     have hd:decide (fK v = 0) = true:=decide_eq_true hk
     have hq:(fK v == 0) = true:=beq_iff_eq.2 hk
     have hw:IntKind.i64.wrap (((Z i:Nat):Int)+1) = ((Z i:Nat):Int)+1:=wrap_in _ (by omega)
     go_wp2_with fail
     go_round
     case rel=>exact ⟨i+1,by omega,by go_num,by rw [uH E1];go_num,HB,HX⟩
     case measure=>first | (simp [intOf];done) | (simp [intOf];omega)
    ·have E1:=hide (uH Y2 hk)
     have hd:decide (fK v = 0) = false:=decide_eq_false hk
     have hq:(fK v == 0) = false:=beq_eq_false_iff_ne.2 hk
     go_wp2_with fail
     go_round
     case rel=>exact ⟨i+1,by omega,by go_num,by rw [uH E1],HB,HX⟩
     case measure=>first | (simp [intOf];done) | (simp [intOf];omega)
  ·have hii:i = n:=by omega
   subst hii
   go_wp2_with fail
   exact bodyPost_ret (v:=.tuple #[.int .i64 _,.int .i64 0]) (by simp [results,Tryz.results43,go_sem]) rfl ⟨rfl,uH hB⟩
end Go.Proofs.YtlnphkioddknfaaGreatDoor
namespace Go.Proofs.YtlnphkioddknfaaGreatDoor
open Go.RowKit
attribute [local go_sem ↓] Go.wp_at_zero Go.wp_at_succ
theorem hessInf_err (r c:Int) (ao:Option Addr) (k cap:Nat) (er:Int) (w:World) (her:er = 1 ∨ er = 4)
  (C1:∀ w',Below w.heap.size w w'→Calls Tryz.prog 43 #[.agg #[.int .i64 r,.int .i64 c,.slice ao k cap]] w' fun e w''=>e = .returned (.tuple #[.int .i64 0,.int .i64 er])∧Below w'.heap.size w' w'')
  (C2:∀ w',Below w.heap.size w w'→Calls Tryz.prog 19 #[.agg #[.int .i64 r,.int .i64 c,.slice ao k cap]] w' fun e w''=>e = .returned (.int .i64 er)∧Below w'.heap.size w' w'')
  (CA:∀ w',Below w.heap.size w w'→Calls Tryz.prog 41 #[] w' fun e w''=>e = .returned (.bool true)∧Below w'.heap.size w' w'') :
  Calls Tryz.prog 11 #[.agg #[.int .i64 r,.int .i64 c,.slice ao k cap]] w fun e w'=>e = .returned (.bool true)∧Below w.heap.size w w':=by
 have b0:=below_alloc9 w (.cells #[.int .i64 r,.int .i64 c,.slice ao k cap] 24)
 have HX:=hide (BoxM.new w (.int .i64 r) (.int .i64 c) (.slice ao k cap))
 have HB:=hide b0
 have K1:=hide C1;have K2:=hide C2;have KA:=hide CA
 clear C1 C2 CA b0
 have hr:(0 < r) ∨ ¬ (0 < r):=by omega
 rcases her with rfl | rfl
 all_goals
  rcases hr with hr | hr
  all_goals
   go_enter Tryz.func11,Tryz.ntmps11
   have y0:=(uH HX).c0;have y1:=(uH HX).c1;have y2:=(uH HX).c2
   go_wp2_with fail
   clear y0 y1 y2
   refine (uH K1 _ (uH HB)).mono ?_
   rintro e w1 ⟨rfl,hb⟩
   replace HX:=hide ((uH HX).all hb)
   replace HB:=hide ((uH HB).trans (hb.mono (uH HB).size))
   clear hb K1
   have y0:=(uH HX).c0;have y1:=(uH HX).c1;have y2:=(uH HX).c2
   go_wp2_with fail
   clear y0 y1 y2
   refine (uH K2 _ (uH HB)).mono ?_
   rintro e w2 ⟨rfl,hb⟩
   replace HX:=hide ((uH HX).all hb)
   replace HB:=hide ((uH HB).trans (hb.mono (uH HB).size))
   clear hb K2
   have y0:=(uH HX).c0;have y1:=(uH HX).c1
   go_wp2_with fail
   clear y0 y1
   go_loopw [6,7] (fun z a wr=>z = .int .i64 0∧a = .int .i64 0∧Hid (Below w.heap.size w wr)∧Hid (BoxM wr w.heap.size (.int .i64 r) (.int .i64 c) (.slice ao k cap))) (fun _ _ _=>0)
   case atStart=>exact ⟨rfl,rfl,HB,HX⟩
   case round =>
    clear HB HX
    obtain ⟨rfl,rfl,HB,HX⟩:=hrel
    have y0:=(uH HX).c0
    go_wp2_with fail
    clear y0
    refine (uH KA _ (uH HB)).mono ?_
    rintro e wz ⟨rfl,hb⟩
    replace HB:=hide ((uH HB).trans (hb.mono (uH HB).size))
    clear hb KA
    go_wp2
    go_ret
    exact ⟨rfl,uH HB⟩
theorem hessInf_shape (r c:Int) (ao:Option Addr) (k cap:Nat) (w:World) (hrc:(r != c) = true)
  (C1:∀ w',Below w.heap.size w w'→Calls Tryz.prog 43 #[.agg #[.int .i64 r,.int .i64 c,.slice ao k cap]] w' fun e w''=>e = .returned (.tuple #[.int .i64 0,.int .i64 3])∧Below w'.heap.size w' w'')
  (C2:∀ w',Below w.heap.size w w'→Calls Tryz.prog 19 #[.agg #[.int .i64 r,.int .i64 c,.slice ao k cap]] w' fun e w''=>e = .returned (.int .i64 0)∧Below w'.heap.size w' w'')
  (CA:∀ w',Below w.heap.size w w'→Calls Tryz.prog 41 #[] w' fun e w''=>e = .returned (.bool true)∧Below w'.heap.size w' w'') :
  Calls Tryz.prog 11 #[.agg #[.int .i64 r,.int .i64 c,.slice ao k cap]] w fun e w'=>e = .returned (.bool true)∧Below w.heap.size w w':=by
 have b0:=below_alloc9 w (.cells #[.int .i64 r,.int .i64 c,.slice ao k cap] 24)
 have HX:=hide (BoxM.new w (.int .i64 r) (.int .i64 c) (.slice ao k cap))
 have HB:=hide b0
 have K1:=hide C1;have K2:=hide C2;have KA:=hide CA
 clear C1 C2 CA b0
 have hr:(0 < r) ∨ ¬ (0 < r):=by omega
 rcases hr with hr | hr
 all_goals
  go_enter Tryz.func11,Tryz.ntmps11
  have y0:=(uH HX).c0;have y1:=(uH HX).c1;have y2:=(uH HX).c2
  go_wp2_with fail
  clear y0 y1 y2
  refine (uH K1 _ (uH HB)).mono ?_
  rintro e w1 ⟨rfl,hb⟩
  replace HX:=hide ((uH HX).all hb)
  replace HB:=hide ((uH HB).trans (hb.mono (uH HB).size))
  clear hb K1
  have y0:=(uH HX).c0;have y1:=(uH HX).c1;have y2:=(uH HX).c2
  go_wp2_with fail
  clear y0 y1 y2
  refine (uH K2 _ (uH HB)).mono ?_
  rintro e w2 ⟨rfl,hb⟩
  replace HX:=hide ((uH HX).all hb)
  replace HB:=hide ((uH HB).trans (hb.mono (uH HB).size))
  clear hb K2
  have y0:=(uH HX).c0;have y1:=(uH HX).c1
  go_wp2_with fail
  clear y0 y1
  go_loopw [6,7] (fun z a wr=>z = .int .i64 0∧a = .int .i64 0∧Hid (Below w.heap.size w wr)∧Hid (BoxM wr w.heap.size (.int .i64 r) (.int .i64 c) (.slice ao k cap))) (fun _ _ _=>0)
  case atStart=>exact ⟨rfl,rfl,HB,HX⟩
  case round =>
   clear HB HX
   obtain ⟨rfl,rfl,HB,HX⟩:=hrel
   have y0:=(uH HX).c0
   go_wp2_with fail
   clear y0
   refine (uH KA _ (uH HB)).mono ?_
   rintro e wz ⟨rfl,hb⟩
   replace HB:=hide ((uH HB).trans (hb.mono (uH HB).size))
   clear hb KA
   go_wp2
   go_ret
   exact ⟨rfl,uH HB⟩
theorem hessInf_of (n:Nat) (ao:Option Addr) (k cap:Nat) (V:Nat→Nat) (w:World) (Z K:Nat→Nat) (hn:n≤6) (z0:Z 0 = 0) (z1:∀ i,i < n→Z (i+1) = Z i+(if K i = 0 then 1 else 0)) (zl:∀ i,Z i≤i)
  (C1:∀ w',Below w.heap.size w w'→Calls Tryz.prog 43 #[.agg #[.int .i64 n,.int .i64 n,.slice ao k cap]] w' fun e w''=>e = .returned (.tuple #[.int .i64 ((Z n:Nat):Int),.int .i64 0])∧Below w'.heap.size w' w'')
  (C2:∀ w',Below w.heap.size w w'→Calls Tryz.prog 19 #[.agg #[.int .i64 n,.int .i64 n,.slice ao k cap]] w' fun e w''=>e = .returned (.int .i64 0)∧Below w'.heap.size w' w'')
  (C3:∀ w' i,Below w.heap.size w w'→i < n→Calls Tryz.prog 42 #[.agg #[.int .i64 n,.int .i64 n,.slice ao k cap],.int .i64 (i:Nat),.int .i64 (i:Nat)] w' fun e w''=>e = .returned (.int .u64 (V i:Nat))∧Below w'.heap.size w' w'')
  (C4:∀ w' i,i < n→Calls Tryz.prog 44 #[.int .u64 (V i:Nat)] w' fun e w''=>e = .returned (.int .i64 (K i:Nat))∧w' = w'')
  (CA:∀ w',Below w.heap.size w w'→Calls Tryz.prog 41 #[] w' fun e w''=>e = .returned (.bool true)∧Below w'.heap.size w' w'') :
  Calls Tryz.prog 11 #[.agg #[.int .i64 n,.int .i64 n,.slice ao k cap]] w fun e w'=>e = .returned (.bool true)∧Below w.heap.size w w':=by
 have b0:=below_alloc9 w (.cells #[.int .i64 n,.int .i64 n,.slice ao k cap] 24)
 have HX:=hide (BoxM.new w (.int .i64 n) (.int .i64 n) (.slice ao k cap))
 have HB:=hide b0
 have K1:=hide C1;have K2:=hide C2;have KA:=hide CA;have K3:=hide C3;have K4:=hide C4;have Z0:=hide z0;have Z1:=hide z1;have ZL:=hide zl
 clear C1 C2 C3 C4 CA z0 z1 zl b0
 have hnn:((n:Int) != (n:Int)) = false:=by simp
 go_enter Tryz.func11,Tryz.ntmps11
 have y0:=(uH HX).c0;have y1:=(uH HX).c1;have y2:=(uH HX).c2
 go_wp2_with fail
 clear y0 y1 y2
 refine (uH K1 _ (uH HB)).mono ?_
 rintro e w1 ⟨rfl,hb⟩
 replace HX:=hide ((uH HX).all hb)
 replace HB:=hide ((uH HB).trans (hb.mono (uH HB).size))
 clear hb K1
 have y0:=(uH HX).c0;have y1:=(uH HX).c1;have y2:=(uH HX).c2
 go_wp2_with fail
 clear y0 y1 y2
 refine (uH K2 _ (uH HB)).mono ?_
 rintro e w2 ⟨rfl,hb⟩
 replace HX:=hide ((uH HX).all hb)
 replace HB:=hide ((uH HB).trans (hb.mono (uH HB).size))
 clear hb K2
 have y0:=(uH HX).c0;have y1:=(uH HX).c1
 go_wp2_with fail
 clear y0 y1
 clear hnn
 go_loopw [6,7] (fun z a wr=>∃ i:Nat,i≤n∧z = .int .i64 (Z i:Nat)∧a = .int .i64 i∧Hid (Below w.heap.size w wr)∧Hid (BoxM wr w.heap.size (.int .i64 n) (.int .i64 n) (.slice ao k cap))) (fun _ a _=>n - (intOf a).toNat)
 case atStart=>exact ⟨0,Nat.zero_le _,by rw [uH Z0];rfl,rfl,HB,HX⟩
 case round =>
  clear HB HX
  obtain ⟨i,hi,rfl,rfl,HB,HX⟩:=hrel
  have y0:=(uH HX).c0
  by_cases hlt:i < n
  ·have hiI:(i:Int) < (n:Int):=by omega
   have G3:=hide (fun w' hb=>uH K3 w' i hb hlt);have G4:=hide (fun w'=>uH K4 w' i hlt);have E1:=hide (uH Z1 i hlt)
   have hzi:=uH ZL i
   have y1:=(uH HX).c1;have y2:=(uH HX).c2
   have hw:IntKind.i64.wrap (((Z i:Nat):Int)+1) = ((Z i:Nat):Int)+1:=wrap_in _ (by omega)
   have hw2:IntKind.i64.wrap ((i:Int)+1) = (i:Int)+1:=wrap_in _ (by omega)
   generalize V i = v at *
   generalize hK:K i = q at *
   go_wp2_with fail
   clear y0 y1 y2
   refine (uH G3 _ (uH HB)).mono ?_
   rintro e w3 ⟨rfl,hb⟩
   replace HX:=hide ((uH HX).all hb)
   replace HB:=hide ((uH HB).trans (hb.mono (uH HB).size))
   clear hb G3
   go_wp2_with fail
   refine (uH G4 _).mono ?_
   rintro e w4 ⟨rfl,rfl⟩
   clear G4
   by_cases hk:q = 0
   ·have E2:=hide (show Z (i+1) = Z i+1 by rw [uH E1,if_pos hk])
    subst hk
    go_wp2_with fail
    go_round
    case rel=>exact ⟨i+1,by omega,by rw [uH E2];go_num,by go_num,HB,HX⟩
    case measure=>first | (simp [intOf];done) | (simp [intOf];omega)
   ·have E2:=hide (show Z (i+1) = Z i by rw [uH E1,if_neg hk];rfl)
    have hd:((q:Int) == 0) = false:=beq_eq_false_iff_ne.2 (by omega)
    go_wp2_with fail
    go_round
    case rel=>exact ⟨i+1,by omega,by rw [uH E2],by go_num,HB,HX⟩
    case measure=>first | (simp [intOf];done) | (simp [intOf];omega)
  ·have hii:i = n:=by omega
   subst hii
   go_wp2_with fail
   clear y0
   refine (uH KA _ (uH HB)).mono ?_
   rintro e wz ⟨rfl,hb⟩
   replace HB:=hide ((uH HB).trans (hb.mono (uH HB).size))
   clear hb KA
   go_wp2
   go_ret
   exact ⟨rfl,uH HB⟩
theorem hessInfinite_walk (r c:Int) (ao:Option Addr) (cap:Nat) (I:List Int) (w:World) (hI:BitsAt w ao cap I) (hl:I.length≤17592186043904) (_hr:-9223372036854775808≤r∧r≤9223372036854775807) (_hc:-9223372036854775808≤c∧c≤9223372036854775807) (hT:Tab w) :
  Calls Tryz.prog 11 #[.agg #[.int .i64 r,.int .i64 c,.slice ao I.length cap]] w fun e w'=>e = .returned (.bool true)∧Below w.heap.size w w':=by
 have KA:=awake18_any w hT
 have CK:=fun w' (hb:Below w.heap.size w w')=>ccheck_any r c ao cap I w' (hI.below hb) (by omega)
 have CR:=fun w' (hb:Below w.heap.size w w')=>r11check_any r c ao cap I w' (hI.below hb) (by omega)
 by_cases h0:ckE r c I = 0
 ·rw [h0] at CK CR
  by_cases hrc:r = c
  ·obtain ⟨n,n',e1,e2,hMx,eI,fI⟩:=Mx.asked hI h0
   have hn':n' = n:=by omega
   rw [hn'] at hMx
   subst e1
   subst e2
   subst hn'
   have lI:(natL I).length = I.length:=by rw [← mxL_len,eI]
   have fI2:finL (natL I) = true:=by
    rw [finL_all]
    intro k hk
    rw [List.getD_eq_getElem?_getD,List.getElem?_eq_getElem hk]
    exact fI _ (List.getElem_mem hk)
   refine hessInf_of n' ao I.length cap (fun i=>elM n' (natL I) i i) w (nzC n' (natL I)) (fun i=>(fK (elM n' (natL I) i i)).toNat) hMx.2.2.1 rfl (fun i _=>?_) (nzC_le n' (natL I)) (fun w' hb=>infinite_any n' I.length cap ao (natL I) w' (hMx.below hb) fI2 lI) CR (fun w' i hb hi=>?_) (fun w' i _=>?_) KA
   ·show nzC n' (natL I) i+_ = _
    rcases fK_cases (elM n' (natL I) i i) with ⟨_,e | e⟩ | ⟨_,e | e | e⟩ <;> rw [e] <;> rfl
   ·have:=rat_any n' n' cap i i ao (natL I) w' (hMx.below hb) hi hi
    rw [lI] at this
    exact this
   ·have:=rkind_any (elM n' (natL I) i i) w' (hMx.el_lt i i)
    rw [show fK (elM n' (natL I) i i) = ((fK (elM n' (natL I) i i)).toNat:Int) from by rcases fK_cases (elM n' (natL I) i i) with ⟨_,e | e⟩ | ⟨_,e | e | e⟩ <;> rw [e] <;> rfl] at this
    exact this
  ·exact hessInf_shape r c ao I.length cap w (bne_iff_ne.2 hrc) (fun w' hb=>infinite_shape r c ao I.length cap w' (beq_eq_false_iff_ne.2 hrc) (fun w'' hb2=>CK w'' (hb.trans (hb2.mono hb.size)))) CR KA
 ·have her:ckE r c I = 1 ∨ ckE r c I = 4:=by
   rcases ckE_cases r c I with e | e | e
   ·exact absurd e h0
   ·exact .inl e
   ·exact .inr e
  exact hessInf_err r c ao I.length cap _ w her (fun w' hb=>infinite_err r c ao I.length cap _ w' her (fun w'' hb2=>CK w'' (hb.trans (hb2.mono hb.size)))) CR KA
end Go.Proofs.YtlnphkioddknfaaGreatDoor
namespace Go.Proofs.YtlnphkioddknfaaGreatDoor
open Go.ChangeShapes Go.WideShapes Go.ChangeAt Go.RowKit Go.Joins
theorem Tryz.own:ownKnob Tryz.prog.godebug = none:=by kernel_rfl
theorem Tryz.laidOut:laidOutB Tryz.prog = true:=by kernel_rfl
end Go.Proofs.YtlnphkioddknfaaGreatDoor
namespace Go.Proofs.YtlnphkioddknfaaGreatDoor
theorem bounds_of_i64 {x:Int} (h:(Lit.int .i64 x).wf = true):-9223372036854775808≤x∧x≤9223372036854775807:=by
 simp [Lit.wf,IntKind.min,IntKind.max,IntKind.signed,IntKind.bits] at h
 omega
end Go.Proofs.YtlnphkioddknfaaGreatDoor
namespace Go.Proofs.YtlnphkioddknfaaGreatDoor
open Go.ChangeShapes Go.WideShapes Go.ChangeAt Go.RowKit Go.Joins
theorem Tryz.tabName:Tryz.prog.globalNamed "math/bits.deBruijn32tab" = some 1:=by kernel_rfl
theorem Tryz.tabType:(Tryz.prog.globals[1]?).map (·.type) = some 245:=by kernel_rfl
theorem Tryz.tabCells:Tryz.prog.cellsOf 245 = 32:=by kernel_rfl
theorem Tryz.byteCells:Tryz.prog.cellsOf 5 = 1:=by kernel_rfl
theorem tab_getD:∀ j,j < Lib.deBruijn32tab.length→(List.map Int.ofNat Lib.deBruijn32tab).getD j 0 = ((Lib.deBruijn32tab.getD j 0:Nat):Int):=by decide
theorem tab_of_laid {W:World} (h:laidMetH Tryz.prog [("math/bits.deBruijn32tab",Rows.laid_math_bits_deBruijn32tab)] W):Tab W:=by
 have ht:=Lib.tabIs_of_head (zs:=Lib.deBruijn32tab.map Int.ofNat) (rest:=[]) Tryz.tabName Tryz.tabType Tryz.underlying245 Tryz.underlying5 Tryz.byteCells Tryz.tabCells h
 intro j hj
 have:=ht.cell Tryz.tabName j (by simpa using hj)
 rw [this]
 congr 2
 exact tab_getD j hj
end Go.Proofs.YtlnphkioddknfaaGreatDoor
