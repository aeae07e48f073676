/- Part 38 of the texts. -/
import Derived.Test.YtlnphkioddknfaaGreatDoorPartz25
import Derived.Test.YtlnphkioddknfaaGreatDoorPartz29
import Derived.Test.YtlnphkioddknfaaGreatDoorPartz22
import Derived.Test.YtlnphkioddknfaaGreatDoorPartz37
import Derived.Test.YtlnphkioddknfaaGreatDoorPartz32
import Derived.Test.YtlnphkioddknfaaGreatDoorPartz36
import Derived.Test.YtlnphkioddknfaaGreatDoorPartz26
import Derived.Deep.RegionWith
import Derived.Deep.RegionLaw
import Derived.Test.YtlnphkioddknfaaGreatDoorPartz28
set_option maxHeartbeats 32000000
set_option maxRecDepth 20000
namespace Go.Proofs.YtlnphkioddknfaaGreatDoor
open Go.RowKit
attribute [local go_sem ↓] Go.wp_at_zero Go.wp_at_succ
theorem two_bits12 (w:World) (a b:Nat) (ha:a < 18446744073709551616) (hb:b < 18446744073709551616):BitsAt (w.alloc (.cells #[.int .u64 (a:Nat),.int .u64 (b:Nat)] 37)) (some ⟨w.heap.size,0,none⟩) 2 [(a:Int),(b:Int)]:=by
 have h:RowB (w.alloc (.cells #[.int .u64 (a:Nat),.int .u64 (b:Nat)] 37)) w.heap.size [a,b]:=heap_alloc_new w _
 exact h.bits (fun x hx=>by simp at hx;rcases hx with rfl | rfl;exact ha;exact hb)
theorem turnOf_of (f g m a b p q t n c s r:Nat) (k:Int) (w:World) (hf:f < 18446744073709551616) (hg:g < 18446744073709551616) (hk:-5000≤k∧k≤5000)
  (C1:∀ w' ao,Below w.heap.size w w'→BitsAt w' ao 2 [(f:Int),(g:Int)]→Calls Tryz.prog 59 #[.slice ao 2 2] w' fun e w''=>e = .returned (.int .u64 (m:Nat))∧Below w'.heap.size w' w'')
  (C2:∀ w',Below w.heap.size w w'→Calls Tryz.prog 240 #[.int .u64 m] w' fun e w''=>e = .returned (.int .i64 k)∧Below w'.heap.size w' w'')
  (D1:∀ w',Below w.heap.size w w'→Calls Tryz.prog 58 #[.int .u64 f,.int .i64 (-k)] w' fun e w''=>e = .returned (.int .u64 (a:Nat))∧Below w'.heap.size w' w'')
  (D2:∀ w',Below w.heap.size w w'→Calls Tryz.prog 58 #[.int .u64 g,.int .i64 (-k)] w' fun e w''=>e = .returned (.int .u64 (b:Nat))∧Below w'.heap.size w' w'')
  (D3:∀ w',Below w.heap.size w w'→Calls Tryz.prog 165 #[.int .u64 a,.int .u64 a] w' fun e w''=>e = .returned (.int .u64 (p:Nat))∧Below w'.heap.size w' w'')
  (D4:∀ w',Below w.heap.size w w'→Calls Tryz.prog 165 #[.int .u64 b,.int .u64 b] w' fun e w''=>e = .returned (.int .u64 (q:Nat))∧Below w'.heap.size w' w'')
  (D5:∀ w',Below w.heap.size w w'→Calls Tryz.prog 239 #[.int .u64 p,.int .u64 q] w' fun e w''=>e = .returned (.int .u64 (t:Nat))∧Below w'.heap.size w' w'')
  (D6:∀ w',Below w.heap.size w w'→Calls Tryz.prog 241 #[.int .u64 t] w' fun e w''=>e = .returned (.int .u64 (n:Nat))∧Below w'.heap.size w' w'')
  (D7:∀ w',Below w.heap.size w w'→Calls Tryz.prog 166 #[.int .u64 a,.int .u64 n] w' fun e w''=>e = .returned (.int .u64 (c:Nat))∧Below w'.heap.size w' w'')
  (D8:∀ w',Below w.heap.size w w'→Calls Tryz.prog 166 #[.int .u64 b,.int .u64 n] w' fun e w''=>e = .returned (.int .u64 (s:Nat))∧Below w'.heap.size w' w'')
  (D9:∀ w',Below w.heap.size w w'→Calls Tryz.prog 58 #[.int .u64 n,.int .i64 k] w' fun e w''=>e = .returned (.int .u64 (r:Nat))∧Below w'.heap.size w' w'') :
  Calls Tryz.prog 217 #[.int .u64 f,.int .u64 g] w fun e w'=>e = .returned (.tuple #[.int .u64 (c:Nat),.int .u64 (s:Nat),.int .u64 (r:Nat)])∧Below w.heap.size w w':=by
 have K1:=hide C1;have K2:=hide C2
 have L1:=hide D1;have L2:=hide D2;have L3:=hide D3;have L4:=hide D4;have L5:=hide D5;have L6:=hide D6;have L7:=hide D7;have L8:=hide D8;have L9:=hide D9
 have TB:=hide (two_bits12 w f g hf hg)
 have BB:=hide (below_alloc9 w (.cells #[.int .u64 (f:Nat),.int .u64 (g:Nat)] 37))
 have hk1:IntKind.i64.wrap (-k) = -k:=wrap_in _ (by omega)
 clear C1 C2 D1 D2 D3 D4 D5 D6 D7 D8 D9 hf hg
 go_enter Tryz.func217,Tryz.ntmps217
 go_wp2_with fail
 refine (uH K1 _ _ (uH BB) (uH TB)).mono ?_
 rintro e w1 ⟨rfl,hb⟩
 replace BB:=hide ((uH BB).trans (hb.mono (uH BB).size))
 clear hb K1 TB
 go_wp2_with fail
 refine (uH K2 _ (uH BB)).mono ?_
 rintro e w1 ⟨rfl,hb⟩
 replace BB:=hide ((uH BB).trans (hb.mono (uH BB).size))
 clear hb K2
 go_wp2_with fail
 refine (uH L1 _ (uH BB)).mono ?_
 rintro e w1 ⟨rfl,hb⟩
 replace BB:=hide ((uH BB).trans (hb.mono (uH BB).size))
 clear hb L1
 go_wp2_with fail
 refine (uH L2 _ (uH BB)).mono ?_
 rintro e w1 ⟨rfl,hb⟩
 replace BB:=hide ((uH BB).trans (hb.mono (uH BB).size))
 clear hb L2
 go_wp2_with fail
 refine (uH L3 _ (uH BB)).mono ?_
 rintro e w1 ⟨rfl,hb⟩
 replace BB:=hide ((uH BB).trans (hb.mono (uH BB).size))
 clear hb L3
 go_wp2_with fail
 refine (uH L4 _ (uH BB)).mono ?_
 rintro e w1 ⟨rfl,hb⟩
 replace BB:=hide ((uH BB).trans (hb.mono (uH BB).size))
 clear hb L4
 go_wp2_with fail
 refine (uH L5 _ (uH BB)).mono ?_
 rintro e w1 ⟨rfl,hb⟩
 replace BB:=hide ((uH BB).trans (hb.mono (uH BB).size))
 clear hb L5
 go_wp2_with fail
 refine (uH L6 _ (uH BB)).mono ?_
 rintro e w1 ⟨rfl,hb⟩
 replace BB:=hide ((uH BB).trans (hb.mono (uH BB).size))
 clear hb L6
 go_wp2_with fail
 refine (uH L7 _ (uH BB)).mono ?_
 rintro e w1 ⟨rfl,hb⟩
 replace BB:=hide ((uH BB).trans (hb.mono (uH BB).size))
 clear hb L7
 go_wp2_with fail
 refine (uH L8 _ (uH BB)).mono ?_
 rintro e w1 ⟨rfl,hb⟩
 replace BB:=hide ((uH BB).trans (hb.mono (uH BB).size))
 clear hb L8
 go_wp2_with fail
 refine (uH L9 _ (uH BB)).mono ?_
 rintro e w1 ⟨rfl,hb⟩
 replace BB:=hide ((uH BB).trans (hb.mono (uH BB).size))
 clear hb L9
 go_wp2
 exact bodyPost_ret (v:=.tuple #[.int .u64 (c:Nat),.int .u64 (s:Nat),.int .u64 (r:Nat)]) (by simp [results,Tryz.results217,go_sem]) rfl ⟨rfl,uH BB⟩
theorem bg_two (f g:Nat):bgK [(f:Int),(g:Int)] 2 = mx (mx 0 (fR f)) (fR g):=rfl
theorem fn_two (f g:Nat):fnK [(f:Int),(g:Int)] 2 = (fFin f && fFin g):=by
 show ((true && fFin f) && fFin g) = _
 rw [Bool.true_and]
theorem turnOf_any (f g:Nat) (w:World) (hf:f < 18446744073709551616) (hg:g < 18446744073709551616) (ff:fFin f = true) (fg:fFin g = true) (f0:¬ fK f = 0) (g0:¬ fK g = 0) (hT:Tab w) :
  Calls Tryz.prog 217 #[.int .u64 f,.int .u64 g] w fun e w'=>e = .returned (.tuple #[.int .u64 (gvC f g:Nat),.int .u64 (gvS f g:Nat),.int .u64 (gvR f g:Nat)])∧Below w.heap.size w w':=by
 have h1:=fR_lt f;have h2:=fR_lt g
 have r1:=fR_fin f ff;have r2:=fR_fin g fg
 have hk:=gvK_range f g
 have em:mx (mx 0 (fR f)) (fR g) = max (fR f) (fR g):=by
  rw [mx_mag 0 (fR f) (by omega) r1,show max 0 (fR f) = fR f by omega,mx_mag (fR f) (fR g) r1 r2]
 have la:=xV_lt f (-gvK f g) hf
 have lb:=xV_lt g (-gvK f g) hg
 have lt:=aV_lt (mV (xV f (-gvK f g)) (xV f (-gvK f g))) (mV (xV g (-gvK f g)) (xV g (-gvK f g))) (mV_lt _ _) (mV_lt _ _)
 have ln:gvN f g < 18446744073709551616:=sV_lt _ lt
 have e1:gvC f g = dV (xV f (-gvK f g)) (gvN f g):=by unfold gvC;rw [if_neg g0,if_neg f0]
 have e2:gvS f g = dV (xV g (-gvK f g)) (gvN f g):=by unfold gvS;rw [if_neg g0,if_neg f0]
 have e3:gvR f g = xV (gvN f g) (gvK f g):=by unfold gvR;rw [if_neg g0,if_neg f0]
 rw [e1,e2,e3]
 refine turnOf_of f g (max (fR f) (fR g)) (xV f (-gvK f g)) (xV g (-gvK f g)) (mV (xV f (-gvK f g)) (xV f (-gvK f g))) (mV (xV g (-gvK f g)) (xV g (-gvK f g))) (aV (mV (xV f (-gvK f g)) (xV f (-gvK f g))) (mV (xV g (-gvK f g)) (xV g (-gvK f g)))) (gvN f g) _ _ _ (gvK f g) w hf hg (by omega)
  (fun w' ao hb hI=>?_) (fun w' hb=>?_) (fun w' hb=>vscale_any f _ w' hf (hT.all hb)) (fun w' hb=>vscale_any g _ w' hg (hT.all hb)) (fun w' hb=>vmul_any _ _ w' la la (hT.all hb)) (fun w' hb=>vmul_any _ _ w' lb lb (hT.all hb)) (fun w' hb=>vadd_any _ _ w' (mV_lt _ _) (mV_lt _ _) (hT.all hb)) (fun w' hb=>psqrt_any _ w' lt (hT.all hb)) (fun w' hb=>pdiv_any _ _ w' la ln (hT.all hb)) (fun w' hb=>pdiv_any _ _ w' lb ln (hT.all hb)) (fun w' hb=>vscale_any _ _ w' ln (hT.all hb))
 ·have:=vBiggest_any ao 2 _ w' hI (by simp)
  rw [show bgK [(f:Int),(g:Int)] [(f:Int),(g:Int)].length = max (fR f) (fR g) from (bg_two f g).trans em] at this
  exact this
 ·exact cexp_any _ w' (by omega) (hT.all hb)
theorem gturn_of (f g c s r:Nat) (kf kg:Int) (fin:Bool) (er:Int) (w:World) (hf:f < 18446744073709551616) (hg:g < 18446744073709551616)
  (h:(fin = false∧c = 0∧s = 0∧r = 0∧er = 4) ∨ (fin = true∧kg = 0∧c = 4607182418800017408∧s = 0∧r = f∧er = 0) ∨ (fin = true∧¬ kg = 0∧kf = 0∧c = 0∧s = 4607182418800017408∧r = g∧er = 0) ∨ (fin = true∧¬ kg = 0∧¬ kf = 0∧er = 0))
  (C1:∀ w' ao,Below w.heap.size w w'→BitsAt w' ao 2 [(f:Int),(g:Int)]→Calls Tryz.prog 153 #[.slice ao 2 2] w' fun e w''=>e = .returned (.bool fin)∧Below w'.heap.size w' w'')
  (C2:∀ w',Calls Tryz.prog 103 #[.int .u64 g] w' fun e w''=>e = .returned (.int .i64 kg)∧Below w'.heap.size w' w'')
  (C3:∀ w',Calls Tryz.prog 103 #[.int .u64 f] w' fun e w''=>e = .returned (.int .i64 kf)∧Below w'.heap.size w' w'')
  (C4:fin = true→¬ kg = 0→¬ kf = 0→∀ w',Below w.heap.size w w'→Calls Tryz.prog 217 #[.int .u64 f,.int .u64 g] w' fun e w''=>e = .returned (.tuple #[.int .u64 (c:Nat),.int .u64 (s:Nat),.int .u64 (r:Nat)])∧Below w'.heap.size w' w'') :
  Calls Tryz.prog 190 #[.int .u64 f,.int .u64 g] w fun e w'=>e = .returned (.tuple #[.int .u64 (c:Nat),.int .u64 (s:Nat),.int .u64 (r:Nat),.int .i64 er])∧Below w.heap.size w w':=by
 have K1:=hide C1;have K2:=hide C2;have K3:=hide C3;have K4:=hide C4
 have TB:=hide (two_bits12 w f g hf hg)
 have BB:=hide (below_alloc9 w (.cells #[.int .u64 (f:Nat),.int .u64 (g:Nat)] 37))
 clear C1 C2 C3 C4 hf hg
 rcases h with ⟨rfl,rfl,rfl,rfl,rfl⟩ | ⟨rfl,rfl,rfl,rfl,rfl,rfl⟩ | ⟨rfl,h1,rfl,rfl,rfl,rfl,rfl⟩ | ⟨rfl,h1,h2,rfl⟩
 ·go_enter Tryz.func190,Tryz.ntmps190
  go_wp2_with fail
  refine (uH K1 _ _ (uH BB) (uH TB)).mono ?_
  rintro e w1 ⟨rfl,hb⟩
  replace BB:=hide ((uH BB).trans (hb.mono (uH BB).size))
  clear hb K1 TB
  go_wp2
  exact bodyPost_ret (v:=.tuple #[.int .u64 (0:Nat),.int .u64 (0:Nat),.int .u64 (0:Nat),.int .i64 4]) (by simp [results,Tryz.results190,go_sem]) rfl ⟨rfl,uH BB⟩
 ·go_enter Tryz.func190,Tryz.ntmps190
  go_wp2_with fail
  refine (uH K1 _ _ (uH BB) (uH TB)).mono ?_
  rintro e w1 ⟨rfl,hb⟩
  replace BB:=hide ((uH BB).trans (hb.mono (uH BB).size))
  clear hb K1 TB
  go_wp2_with fail
  refine (uH K2 _).mono ?_
  rintro e w1 ⟨rfl,hb⟩
  replace BB:=hide ((uH BB).trans (hb.mono (uH BB).size))
  clear hb
  go_wp2
  exact bodyPost_ret (v:=.tuple #[.int .u64 (4607182418800017408:Nat),.int .u64 (0:Nat),.int .u64 (r:Nat),.int .i64 0]) (by simp [results,Tryz.results190,go_sem]) rfl ⟨rfl,uH BB⟩
 ·go_enter Tryz.func190,Tryz.ntmps190
  go_wp2_with fail
  refine (uH K1 _ _ (uH BB) (uH TB)).mono ?_
  rintro e w1 ⟨rfl,hb⟩
  replace BB:=hide ((uH BB).trans (hb.mono (uH BB).size))
  clear hb K1 TB
  go_wp2_with fail
  refine (uH K2 _).mono ?_
  rintro e w1 ⟨rfl,hb⟩
  replace BB:=hide ((uH BB).trans (hb.mono (uH BB).size))
  clear hb
  go_wp2_with fail
  refine (uH K3 _).mono ?_
  rintro e w1 ⟨rfl,hb⟩
  replace BB:=hide ((uH BB).trans (hb.mono (uH BB).size))
  clear hb
  go_wp2
  exact bodyPost_ret (v:=.tuple #[.int .u64 (0:Nat),.int .u64 (4607182418800017408:Nat),.int .u64 (r:Nat),.int .i64 0]) (by simp [results,Tryz.results190,go_sem]) rfl ⟨rfl,uH BB⟩
 ·have L4:=hide (uH K4 rfl h1 h2)
  go_enter Tryz.func190,Tryz.ntmps190
  go_wp2_with fail
  refine (uH K1 _ _ (uH BB) (uH TB)).mono ?_
  rintro e w1 ⟨rfl,hb⟩
  replace BB:=hide ((uH BB).trans (hb.mono (uH BB).size))
  clear hb K1 TB
  go_wp2_with fail
  refine (uH K2 _).mono ?_
  rintro e w1 ⟨rfl,hb⟩
  replace BB:=hide ((uH BB).trans (hb.mono (uH BB).size))
  clear hb
  go_wp2_with fail
  refine (uH K3 _).mono ?_
  rintro e w1 ⟨rfl,hb⟩
  replace BB:=hide ((uH BB).trans (hb.mono (uH BB).size))
  clear hb
  go_wp2_with fail
  refine (uH L4 _ (uH BB)).mono ?_
  rintro e w1 ⟨rfl,hb⟩
  replace BB:=hide ((uH BB).trans (hb.mono (uH BB).size))
  clear hb
  go_wp2
  exact bodyPost_ret (v:=.tuple #[.int .u64 (c:Nat),.int .u64 (s:Nat),.int .u64 (r:Nat),.int .i64 0]) (by simp [results,Tryz.results190,go_sem]) rfl ⟨rfl,uH BB⟩
theorem gturn_ok (f g:Nat) (w:World) (hf:f < 18446744073709551616) (hg:g < 18446744073709551616) (ff:fFin f = true) (fg:fFin g = true) (hT:Tab w) :
  Calls Tryz.prog 190 #[.int .u64 f,.int .u64 g] w fun e w'=>e = .returned (.tuple #[.int .u64 (gvC f g:Nat),.int .u64 (gvS f g:Nat),.int .u64 (gvR f g:Nat),.int .i64 0])∧Below w.heap.size w w':=by
 refine gturn_of f g _ _ _ (fK f) (fK g) true 0 w hf hg ?_ (fun w' ao hb hI=>?_) (fun w'=>kind_any g w' hg) (fun w'=>kind_any f w' hf) (fun _ g0 f0 w' hb=>turnOf_any f g w' hf hg ff fg (by omega) (by omega) (hT.all hb))
 ·unfold gvC gvS gvR
  by_cases g0:fK g = 0
  ·exact .inr (.inl ⟨rfl,g0,if_pos g0,if_pos g0,if_pos g0,rfl⟩)
  ·rw [if_neg g0,if_neg g0,if_neg g0]
   by_cases f0:fK f = 0
   ·exact .inr (.inr (.inl ⟨rfl,by omega,f0,if_pos f0,if_pos f0,if_pos f0,rfl⟩))
   ·exact .inr (.inr (.inr ⟨rfl,by omega,by omega,rfl⟩))
 ·have:=vFinite_any ao 2 _ w' hI (by simp)
  rw [show fnK [(f:Int),(g:Int)] [(f:Int),(g:Int)].length = true from (fn_two f g).trans (by rw [ff,fg];rfl)] at this
  exact this
theorem gturn_no (f g:Nat) (w:World) (hf:f < 18446744073709551616) (hg:g < 18446744073709551616) (h:¬ (fFin f = true∧fFin g = true)) :
  Calls Tryz.prog 190 #[.int .u64 f,.int .u64 g] w fun e w'=>e = .returned (.tuple #[.int .u64 (0:Nat),.int .u64 (0:Nat),.int .u64 (0:Nat),.int .i64 4])∧Below w.heap.size w w':=by
 refine gturn_of f g 0 0 0 (fK f) (fK g) false 4 w hf hg (.inl ⟨rfl,rfl,rfl,rfl,rfl⟩) (fun w' ao hb hI=>?_) (fun w'=>kind_any g w' hg) (fun w'=>kind_any f w' hf) (fun e=>by cases e)
 have:=vFinite_any ao 2 _ w' hI (by simp)
 rw [show fnK [(f:Int),(g:Int)] [(f:Int),(g:Int)].length = false from (fn_two f g).trans (by
  cases h1:fFin f
  ·rfl
  ·cases h2:fFin g
   ·rfl
   ·exact absurd ⟨h1,h2⟩ h)] at this
 exact this
end Go.Proofs.YtlnphkioddknfaaGreatDoor
namespace Go.Proofs.YtlnphkioddknfaaGreatDoor
open Go.RowKit
attribute [local go_sem ↓] Go.wp_at_zero Go.wp_at_succ
def RtAns (w w':World) (ok:Bool) (n N:Nat) (s:Hs) (zo:Option Addr) (zc:Nat) (e:Ending):Prop :=
 (ok = true∧∃ gh gt gq:Nat,e = .returned (.tuple #[.agg #[.int .i64 n,.int .i64 n,.slice (some ⟨gh,0,none⟩) N N,.int .i64 n,.int .i64 n,.slice (some ⟨gt,0,none⟩) N N,.int .i64 n,.int .i64 n,.slice (some ⟨gq,0,none⟩) N N,.int .i64 n,.int .i64 n,.slice zo N zc],.bool true])∧(w.heap.size+1 < gh∧gh < gt∧gt < gq)∧RowB w' gh s.H∧RowB w' gt s.T∧RowB w' gq s.Q) ∨ (ok = false∧e = .returned (.tuple #[.agg #[.int .i64 0,.int .i64 0,.slice none 0 0,.int .i64 0,.int .i64 0,.slice none 0 0,.int .i64 0,.int .i64 0,.slice none 0 0,.int .i64 0,.int .i64 0,.slice none 0 0],.bool false]))
def CtAns (w w':World) (ok:Bool) (n N:Nat) (s:Hs) (qo:Option Addr) (qc:Nat) (e:Ending):Prop :=
 (ok = true∧∃ gh gt gz:Nat,e = .returned (.tuple #[.agg #[.int .i64 n,.int .i64 n,.slice (some ⟨gh,0,none⟩) N N,.int .i64 n,.int .i64 n,.slice (some ⟨gt,0,none⟩) N N,.int .i64 n,.int .i64 n,.slice qo N qc,.int .i64 n,.int .i64 n,.slice (some ⟨gz,0,none⟩) N N],.bool true])∧(w.heap.size+1 < gt∧gt < gh∧gh < gz)∧RowB w' gt s.T∧RowB w' gh s.H∧RowB w' gz s.Z) ∨ (ok = false∧e = .returned (.tuple #[.agg #[.int .i64 0,.int .i64 0,.slice none 0 0,.int .i64 0,.int .i64 0,.slice none 0 0,.int .i64 0,.int .i64 0,.slice none 0 0,.int .i64 0,.int .i64 0,.slice none 0 0],.bool false]))
theorem rowsT_any (n N i j p:Nat) (s:Hs) (ho uo qo zo:Option Addr) (hc tc qc zc:Nat) (w:World) (h6:n≤6) (hi:p+1 = i) (hin:i < n) (hj:j < n) (hN:n * n = N) (ok:HsOk n s) (bH:BitsAt w ho hc (mxL s.H)) (bT:BitsAt w uo tc (mxL s.T)) (bQ:BitsAt w qo qc (mxL s.Q)) (hT:Tab w) :
  Calls Tryz.prog 150 #[.agg #[.int .i64 n,.int .i64 n,.slice ho N hc,.int .i64 n,.int .i64 n,.slice uo N tc,.int .i64 n,.int .i64 n,.slice qo N qc,.int .i64 n,.int .i64 n,.slice zo N zc],.int .i64 i,.int .i64 j] w fun e w'=>RtAns w w' (hsRk n j p s) n N (hsRr n j p s) zo zc e∧Below w.heap.size w w':=by
 have lH:s.H.length = N:=ok.1.1.trans hN
 have lT:s.T.length = N:=ok.1.2.1.trans hN
 have lQ:s.Q.length = N:=ok.1.2.2.1.trans hN
 have lZ:s.Z.length = N:=ok.1.2.2.2.trans hN
 obtain ⟨f,hf⟩:∃ f,elM n s.H p j = f:=⟨_,rfl⟩
 obtain ⟨g,hg⟩:∃ g,elM n s.H i j = g:=⟨_,rfl⟩
 have fl:f < 18446744073709551616:=by rw [← hf];exact el_lt18 ok.2.1 _ _ _
 have gl0:g < 18446744073709551616:=by rw [← hg];exact el_lt18 ok.2.1 _ _ _
 have gl:=gv_lt18 fl gl0
 have ek:hsRk n j p s = (fFin f && fFin g):=by
  unfold hsRk
  rw [hi,hf,hg]
 rw [ek]
 cases hk:(fFin f && fFin g) with
 | true =>
  rw [Bool.and_eq_true] at hk
  refine (rowsTurned_of n N i j p (p * n+j) (i * n+j) f g (gvC f g) (gvS f g) (gvR f g) ho uo qo zo hc tc qc zc s.H w h6 hi hin hj hN rfl rfl bH lH hf hg (roM n n s.H p i (gvC f g) (gvS f g)) (roM n n s.T p i (gvC f g) (gvS f g)) (coM n n s.Q p i (gvC f g) (gvS f g)) true 0 ((roM_len _ _ _ _ _ _ _).trans hN) (.inl ⟨rfl,rfl⟩)
   (fun w' hb=>gturn_ok f g w' fl gl0 hk.1 hk.2 (hT.all hb))
   (fun w' _ hb=>by
   have:=gRows_okR n n hc p i (gvC f g) (gvS f g) ho s.H w' ⟨bH.below hb,ok.1.1,h6,h6⟩ (by omega) (by omega) (by omega) gl.1 gl.2.1 (hT.all hb)
   rw [lH] at this
   exact this)
   (fun w' _ hb=>by
   have:=gRows_okR n n tc p i (gvC f g) (gvS f g) uo s.T w' ⟨bT.below hb,ok.1.2.1,h6,h6⟩ (by omega) (by omega) (by omega) gl.1 gl.2.1 (hT.all hb)
   rw [lT] at this
   exact this)
   (fun w' _ hb=>by
   have:=gCols_okR n n qc p i (gvC f g) (gvS f g) qo s.Q w' ⟨bQ.below hb,ok.1.2.2.1,h6,h6⟩ (by omega) (by omega) (by omega) gl.1 gl.2.1 (hT.all hb)
   rw [lQ] at this
   exact this)).mono ?_
  rintro e w' ⟨⟨_,ga,gb,gc,rfl,h1,h2,h3,h4⟩ | ⟨h0,_⟩,hb⟩
  ·refine ⟨.inl ⟨rfl,?_⟩,hb⟩
   have es:hsRr n j p s = hsR n j p f g s:=by
    unfold hsRr
    rw [hi,hf,hg]
   rw [es]
   subst hi
   exact ⟨ga,gb,gc,rfl,h1,h2,h3,h4⟩
  ·cases h0
 | false =>
  refine (rowsTurned_of n N i j p (p * n+j) (i * n+j) f g 0 0 0 ho uo qo zo hc tc qc zc s.H w h6 hi hin hj hN rfl rfl bH lH hf hg (List.replicate N 0) [] [] false 4 (List.length_replicate ..) (.inr ⟨rfl,rfl⟩)
   (fun w' hb=>gturn_no f g w' fl gl0 (fun q=>by rw [q.1,q.2] at hk;cases hk))
   (fun w' h0=>by cases h0) (fun w' h0=>by cases h0) (fun w' h0=>by cases h0)).mono ?_
  rintro e w' ⟨⟨h0,_⟩ | ⟨_,rfl⟩,hb⟩
  ·cases h0
  ·exact ⟨.inr ⟨rfl,rfl⟩,hb⟩
theorem colsT_any (n N i p:Nat) (s:Hs) (ho uo qo zo:Option Addr) (hc tc qc zc:Nat) (w:World) (h6:n≤6) (hi:p+1 = i) (hin:i < n) (hN:n * n = N) (ok:HsOk n s) (bT:BitsAt w uo tc (mxL s.T)) (bH:BitsAt w ho hc (mxL s.H)) (bZ:BitsAt w zo zc (mxL s.Z)) (hT:Tab w) :
  Calls Tryz.prog 151 #[.agg #[.int .i64 n,.int .i64 n,.slice ho N hc,.int .i64 n,.int .i64 n,.slice uo N tc,.int .i64 n,.int .i64 n,.slice qo N qc,.int .i64 n,.int .i64 n,.slice zo N zc],.int .i64 i] w fun e w'=>CtAns w w' (hsLk n p s) n N (hsLl n p s) qo qc e∧Below w.heap.size w w':=by
 have lH:s.H.length = N:=ok.1.1.trans hN
 have lT:s.T.length = N:=ok.1.2.1.trans hN
 have lQ:s.Q.length = N:=ok.1.2.2.1.trans hN
 have lZ:s.Z.length = N:=ok.1.2.2.2.trans hN
 obtain ⟨f,hf⟩:∃ f,elM n s.T i i = f:=⟨_,rfl⟩
 obtain ⟨g,hg⟩:∃ g,elM n s.T i p = g:=⟨_,rfl⟩
 have fl:f < 18446744073709551616:=by rw [← hf];exact el_lt18 ok.2.2.1 _ _ _
 have gl0:g < 18446744073709551616:=by rw [← hg];exact el_lt18 ok.2.2.1 _ _ _
 have gl:=gv_lt18 fl gl0
 have ek:hsLk n p s = (fFin f && fFin g):=by
  unfold hsLk
  rw [hi,hf,hg]
 rw [ek]
 cases hk:(fFin f && fFin g) with
 | true =>
  rw [Bool.and_eq_true] at hk
  refine (columnsTurned_of n N i p (i * n+i) (i * n+p) f g (gvC f g) (gvS f g) (gvR f g) ho uo qo zo hc tc qc zc s.T w h6 hi hin hN rfl rfl bT lT hf hg (coM n n s.T i p (gvC f g) (gvS f g)) (coM n n s.H i p (gvC f g) (gvS f g)) (coM n n s.Z i p (gvC f g) (gvS f g)) true 0 ((coM_len _ _ _ _ _ _ _).trans hN) (.inl ⟨rfl,rfl⟩)
   (fun w' hb=>gturn_ok f g w' fl gl0 hk.1 hk.2 (hT.all hb))
   (fun w' _ hb=>by
   have:=gCols_okR n n tc i p (gvC f g) (gvS f g) uo s.T w' ⟨bT.below hb,ok.1.2.1,h6,h6⟩ (by omega) (by omega) (by omega) gl.1 gl.2.1 (hT.all hb)
   rw [lT] at this
   exact this)
   (fun w' _ hb=>by
   have:=gCols_okR n n hc i p (gvC f g) (gvS f g) ho s.H w' ⟨bH.below hb,ok.1.1,h6,h6⟩ (by omega) (by omega) (by omega) gl.1 gl.2.1 (hT.all hb)
   rw [lH] at this
   exact this)
   (fun w' _ hb=>by
   have:=gCols_okR n n zc i p (gvC f g) (gvS f g) zo s.Z w' ⟨bZ.below hb,ok.1.2.2.2,h6,h6⟩ (by omega) (by omega) (by omega) gl.1 gl.2.1 (hT.all hb)
   rw [lZ] at this
   exact this)).mono ?_
  rintro e w' ⟨⟨_,ga,gb,gc,rfl,h1,h2,h3,h4⟩ | ⟨h0,_⟩,hb⟩
  ·refine ⟨.inl ⟨rfl,?_⟩,hb⟩
   have es:hsLl n p s = hsL n p f g s:=by
    unfold hsLl
    rw [hi,hf,hg]
   rw [es]
   subst hi
   exact ⟨gb,ga,gc,rfl,h1,h2,h3,h4⟩
  ·cases h0
 | false =>
  refine (columnsTurned_of n N i p (i * n+i) (i * n+p) f g 0 0 0 ho uo qo zo hc tc qc zc s.T w h6 hi hin hN rfl rfl bT lT hf hg (List.replicate N 0) [] [] false 4 (List.length_replicate ..) (.inr ⟨rfl,rfl⟩)
   (fun w' hb=>gturn_no f g w' fl gl0 (fun q=>by rw [q.1,q.2] at hk;cases hk))
   (fun w' h0=>by cases h0) (fun w' h0=>by cases h0) (fun w' h0=>by cases h0)).mono ?_
  rintro e w' ⟨⟨h0,_⟩ | ⟨_,rfl⟩,hb⟩
  ·cases h0
  ·exact ⟨.inr ⟨rfl,rfl⟩,hb⟩
theorem hfin_of (n N:Nat) (ho uo qo zo:Option Addr) (hc tc qc zc:Nat) (b0 b1 b2 b3:Bool) (w:World)
  (C0:∀ w',Below w.heap.size w w'→Calls Tryz.prog 153 #[.slice ho N hc] w' fun e w''=>e = .returned (.bool b0)∧Below w'.heap.size w' w'')
  (C1:∀ w',Below w.heap.size w w'→Calls Tryz.prog 153 #[.slice uo N tc] w' fun e w''=>e = .returned (.bool b1)∧Below w'.heap.size w' w'')
  (C2:∀ w',Below w.heap.size w w'→Calls Tryz.prog 153 #[.slice qo N qc] w' fun e w''=>e = .returned (.bool b2)∧Below w'.heap.size w' w'')
  (C3:∀ w',Below w.heap.size w w'→Calls Tryz.prog 153 #[.slice zo N zc] w' fun e w''=>e = .returned (.bool b3)∧Below w'.heap.size w' w'') :
  Calls Tryz.prog 98 #[.agg #[.int .i64 n,.int .i64 n,.slice ho N hc,.int .i64 n,.int .i64 n,.slice uo N tc,.int .i64 n,.int .i64 n,.slice qo N qc,.int .i64 n,.int .i64 n,.slice zo N zc]] w fun e w'=>e = .returned (.bool (b0 && (b1 && (b2 && b3))))∧Below w.heap.size w w':=by
 have bb:=below_alloc9 w (.cells #[.int .i64 n,.int .i64 n,.slice ho N hc,.int .i64 n,.int .i64 n,.slice uo N tc,.int .i64 n,.int .i64 n,.slice qo N qc,.int .i64 n,.int .i64 n,.slice zo N zc] 57)
 have x0:=BoxL.new 57 w [.int .i64 n,.int .i64 n,.slice ho N hc,.int .i64 n,.int .i64 n,.slice uo N tc,.int .i64 n,.int .i64 n,.slice qo N qc,.int .i64 n,.int .i64 n,.slice zo N zc]
 have y0:=x0.c 0 rfl;have y1:=x0.c 1 rfl;have y2:=x0.c 2 rfl;have y3:=x0.c 3 rfl;have y4:=x0.c 4 rfl;have y5:=x0.c 5 rfl;have y6:=x0.c 6 rfl;have y7:=x0.c 7 rfl;have y8:=x0.c 8 rfl;have y9:=x0.c 9 rfl;have y10:=x0.c 10 rfl;have y11:=x0.c 11 rfl
 have HB:=hide bb
 have K0:=hide C0;have K1:=hide C1;have K2:=hide C2;have K3:=hide C3
 clear bb x0 C0 C1 C2 C3
 go_enter Tryz.func98,Tryz.ntmps98
 go_wp2_with fail
 clear y0 y1 y2 y3 y4 y5 y6 y7 y8 y9 y10 y11
 go_loopw [14] (fun a wr=>∃ k:Nat,k≤4∧a = .int .i64 k∧Hid (0 < k→b0 = true)∧Hid (1 < k→b1 = true)∧Hid (2 < k→b2 = true)∧Hid (3 < k→b3 = true)∧Hid (Below w.heap.size w wr)) (fun a _=>4 - (intOf a).toNat)
 case atStart=>exact ⟨0,by omega,rfl,fun h=>absurd h (by omega),fun h=>absurd h (by omega),fun h=>absurd h (by omega),fun h=>absurd h (by omega),HB⟩
 case round =>
  clear HB
  obtain ⟨k,hk,rfl,f0,f1,f2,f3,hB⟩:=hrel
  have hw:k = 0 ∨ k = 1 ∨ k = 2 ∨ k = 3 ∨ k = 4:=by omega
  clear hk
  rcases hw with rfl | rfl | rfl | rfl | rfl
  ·have ix:∀ w':World,(Instr.index 147 (.agg #[.int .i64 n,.int .i64 n,.slice ho N hc,.int .i64 n,.int .i64 n,.slice uo N tc,.int .i64 n,.int .i64 n,.slice qo N qc,.int .i64 n,.int .i64 n,.slice zo N zc]) (.int .i64 0)).run Tryz.prog w' = .ok (.agg #[.int .i64 n,.int .i64 n,.slice ho N hc]) w':=fun _=>by kernel_rfl
   have ba:=below_alloc9 wr (.cells #[.int .i64 n,.int .i64 n,.slice ho N hc] 24)
   have x1:=BoxM.new wr (.int .i64 n) (.int .i64 n) (.slice ho N hc)
   have y2:=x1.c2
   replace hB:=hide ((uH hB).trans (ba.mono (uH hB).size))
   clear ba x1
   go_wp2_with fail
   clear y2 ix
   refine (uH K0 _ (uH hB)).mono ?_
   rintro e w3 ⟨rfl,hb⟩
   replace hB:=hide ((uH hB).trans (hb.mono (uH hB).size))
   clear hb
   cases hv:b0 with
   | true =>
    go_wp2_with fail
    go_round
    case rel=>exact ⟨1,by omega,by first | rfl | go_num,fun _=>hv,fun h=>absurd h (by omega),fun h=>absurd h (by omega),fun h=>absurd h (by omega),hB⟩
    case measure=>first | (simp [intOf];done) | (simp [intOf];omega)
   | false =>
    have EB:=hide (show (b0 && (b1 && (b2 && b3))) = false by rw [hv];cases b0 <;> cases b1 <;> cases b2 <;> cases b3 <;> first | rfl | cases hv)
    go_wp2_with fail
    exact bodyPost_ret (v:=.bool false) (by simp [results,Tryz.results98,go_sem]) rfl ⟨by rw [uH EB],uH hB⟩
  ·have ix:∀ w':World,(Instr.index 147 (.agg #[.int .i64 n,.int .i64 n,.slice ho N hc,.int .i64 n,.int .i64 n,.slice uo N tc,.int .i64 n,.int .i64 n,.slice qo N qc,.int .i64 n,.int .i64 n,.slice zo N zc]) (.int .i64 1)).run Tryz.prog w' = .ok (.agg #[.int .i64 n,.int .i64 n,.slice uo N tc]) w':=fun _=>by kernel_rfl
   have ba:=below_alloc9 wr (.cells #[.int .i64 n,.int .i64 n,.slice uo N tc] 24)
   have x1:=BoxM.new wr (.int .i64 n) (.int .i64 n) (.slice uo N tc)
   have y2:=x1.c2
   replace hB:=hide ((uH hB).trans (ba.mono (uH hB).size))
   clear ba x1
   go_wp2_with fail
   clear y2 ix
   refine (uH K1 _ (uH hB)).mono ?_
   rintro e w3 ⟨rfl,hb⟩
   replace hB:=hide ((uH hB).trans (hb.mono (uH hB).size))
   clear hb
   cases hv:b1 with
   | true =>
    go_wp2_with fail
    go_round
    case rel=>exact ⟨2,by omega,by first | rfl | go_num,fun _=>uH f0 (by omega),fun _=>hv,fun h=>absurd h (by omega),fun h=>absurd h (by omega),hB⟩
    case measure=>first | (simp [intOf];done) | (simp [intOf];omega)
   | false =>
    have EB:=hide (show (b0 && (b1 && (b2 && b3))) = false by rw [hv];cases b0 <;> cases b1 <;> cases b2 <;> cases b3 <;> first | rfl | cases hv)
    go_wp2_with fail
    exact bodyPost_ret (v:=.bool false) (by simp [results,Tryz.results98,go_sem]) rfl ⟨by rw [uH EB],uH hB⟩
  ·have ix:∀ w':World,(Instr.index 147 (.agg #[.int .i64 n,.int .i64 n,.slice ho N hc,.int .i64 n,.int .i64 n,.slice uo N tc,.int .i64 n,.int .i64 n,.slice qo N qc,.int .i64 n,.int .i64 n,.slice zo N zc]) (.int .i64 2)).run Tryz.prog w' = .ok (.agg #[.int .i64 n,.int .i64 n,.slice qo N qc]) w':=fun _=>by kernel_rfl
   have ba:=below_alloc9 wr (.cells #[.int .i64 n,.int .i64 n,.slice qo N qc] 24)
   have x1:=BoxM.new wr (.int .i64 n) (.int .i64 n) (.slice qo N qc)
   have y2:=x1.c2
   replace hB:=hide ((uH hB).trans (ba.mono (uH hB).size))
   clear ba x1
   go_wp2_with fail
   clear y2 ix
   refine (uH K2 _ (uH hB)).mono ?_
   rintro e w3 ⟨rfl,hb⟩
   replace hB:=hide ((uH hB).trans (hb.mono (uH hB).size))
   clear hb
   cases hv:b2 with
   | true =>
    go_wp2_with fail
    go_round
    case rel=>exact ⟨3,by omega,by first | rfl | go_num,fun _=>uH f0 (by omega),fun _=>uH f1 (by omega),fun _=>hv,fun h=>absurd h (by omega),hB⟩
    case measure=>first | (simp [intOf];done) | (simp [intOf];omega)
   | false =>
    have EB:=hide (show (b0 && (b1 && (b2 && b3))) = false by rw [hv];cases b0 <;> cases b1 <;> cases b2 <;> cases b3 <;> first | rfl | cases hv)
    go_wp2_with fail
    exact bodyPost_ret (v:=.bool false) (by simp [results,Tryz.results98,go_sem]) rfl ⟨by rw [uH EB],uH hB⟩
  ·have ix:∀ w':World,(Instr.index 147 (.agg #[.int .i64 n,.int .i64 n,.slice ho N hc,.int .i64 n,.int .i64 n,.slice uo N tc,.int .i64 n,.int .i64 n,.slice qo N qc,.int .i64 n,.int .i64 n,.slice zo N zc]) (.int .i64 3)).run Tryz.prog w' = .ok (.agg #[.int .i64 n,.int .i64 n,.slice zo N zc]) w':=fun _=>by kernel_rfl
   have ba:=below_alloc9 wr (.cells #[.int .i64 n,.int .i64 n,.slice zo N zc] 24)
   have x1:=BoxM.new wr (.int .i64 n) (.int .i64 n) (.slice zo N zc)
   have y2:=x1.c2
   replace hB:=hide ((uH hB).trans (ba.mono (uH hB).size))
   clear ba x1
   go_wp2_with fail
   clear y2 ix
   refine (uH K3 _ (uH hB)).mono ?_
   rintro e w3 ⟨rfl,hb⟩
   replace hB:=hide ((uH hB).trans (hb.mono (uH hB).size))
   clear hb
   cases hv:b3 with
   | true =>
    go_wp2_with fail
    go_round
    case rel=>exact ⟨4,by omega,by first | rfl | go_num,fun _=>uH f0 (by omega),fun _=>uH f1 (by omega),fun _=>uH f2 (by omega),fun _=>hv,hB⟩
    case measure=>first | (simp [intOf];done) | (simp [intOf];omega)
   | false =>
    have EB:=hide (show (b0 && (b1 && (b2 && b3))) = false by rw [hv];cases b0 <;> cases b1 <;> cases b2 <;> cases b3 <;> first | rfl | cases hv)
    go_wp2_with fail
    exact bodyPost_ret (v:=.bool false) (by simp [results,Tryz.results98,go_sem]) rfl ⟨by rw [uH EB],uH hB⟩
  ·have EB:=hide (show (b0 && (b1 && (b2 && b3))) = true by rw [uH f0 (by omega),uH f1 (by omega),uH f2 (by omega),uH f3 (by omega)];rfl)
   go_wp2_with fail
   exact bodyPost_ret (v:=.bool true) (by simp [results,Tryz.results98,go_sem]) rfl ⟨by rw [uH EB],uH hB⟩
theorem hfin_any (n N:Nat) (s:Hs) (ho uo qo zo:Option Addr) (hc tc qc zc:Nat) (w:World) (h6:n≤6) (hN:n * n = N) (ok:HsOk n s) (bH:BitsAt w ho hc (mxL s.H)) (bT:BitsAt w uo tc (mxL s.T)) (bQ:BitsAt w qo qc (mxL s.Q)) (bZ:BitsAt w zo zc (mxL s.Z)) :
  Calls Tryz.prog 98 #[.agg #[.int .i64 n,.int .i64 n,.slice ho N hc,.int .i64 n,.int .i64 n,.slice uo N tc,.int .i64 n,.int .i64 n,.slice qo N qc,.int .i64 n,.int .i64 n,.slice zo N zc]] w fun e w'=>e = .returned (.bool (hsN s))∧Below w.heap.size w w':=by
 have lH:s.H.length = N:=ok.1.1.trans hN
 have lT:s.T.length = N:=ok.1.2.1.trans hN
 have lQ:s.Q.length = N:=ok.1.2.2.1.trans hN
 have lZ:s.Z.length = N:=ok.1.2.2.2.trans hN
 have h36:N≤36:=by rw [← hN];exact Nat.mul_le_mul h6 h6
 refine hfin_of n N ho uo qo zo hc tc qc zc (finL s.H) (finL s.T) (finL s.Q) (finL s.Z) w (fun w' hb=>?_) (fun w' hb=>?_) (fun w' hb=>?_) (fun w' hb=>?_)
 ·have:=vFinite_any ho hc (mxL s.H) w' (bH.below hb) (by rw [mxL_len,lH];omega)
  unfold finL
  rw [mxL_len,lH] at this
  rw [lH]
  exact this
 ·have:=vFinite_any uo tc (mxL s.T) w' (bT.below hb) (by rw [mxL_len,lT];omega)
  unfold finL
  rw [mxL_len,lT] at this
  rw [lT]
  exact this
 ·have:=vFinite_any qo qc (mxL s.Q) w' (bQ.below hb) (by rw [mxL_len,lQ];omega)
  unfold finL
  rw [mxL_len,lQ] at this
  rw [lQ]
  exact this
 ·have:=vFinite_any zo zc (mxL s.Z) w' (bZ.below hb) (by rw [mxL_len,lZ];omega)
  unfold finL
  rw [mxL_len,lZ] at this
  rw [lZ]
  exact this
end Go.Proofs.YtlnphkioddknfaaGreatDoor
namespace Go.Proofs.YtlnphkioddknfaaGreatDoor
open Go.RowKit
attribute [local go_sem ↓] Go.wp_at_zero Go.wp_at_succ
structure HvAt (base:Nat) (W:World) (N:Nat) (kh kt:Bool) (s:Hs) (ho uo qo zo:Option Addr) (hc tc qc zc:Nat):Prop where
 h:BitsAt W ho hc (mxL s.H)
 t:BitsAt W uo tc (mxL s.T)
 q:BitsAt W qo qc (mxL s.Q)
 z:BitsAt W zo zc (mxL s.Z)
 nh:NewB base ho (mxL s.H)
 nt:NewB base uo (mxL s.T)
 nq:NewB base qo (mxL s.Q)
 nz:NewB base zo (mxL s.Z)
 wh:kh = true→∃ g,ho = some ⟨g,0,none⟩∧hc = N∧base≤g∧RowB W g s.H∧OffB (some g) uo (mxL s.T)∧OffB (some g) qo (mxL s.Q)∧OffB (some g) zo (mxL s.Z)
 wt:kt = true→∃ g,uo = some ⟨g,0,none⟩∧tc = N∧base≤g∧RowB W g s.T∧OffB (some g) ho (mxL s.H)∧OffB (some g) qo (mxL s.Q)∧OffB (some g) zo (mxL s.Z)
theorem HvAt.all {base:Nat} {W W':World} {N:Nat} {kh kt:Bool} {s:Hs} {ho uo qo zo:Option Addr} {hc tc qc zc:Nat} (v:HvAt base W N kh kt s ho uo qo zo hc tc qc zc) (hb:Below W.heap.size W W'):HvAt base W' N kh kt s ho uo qo zo hc tc qc zc :=
 ⟨v.h.below hb,v.t.below hb,v.q.below hb,v.z.below hb,v.nh,v.nt,v.nq,v.nz,fun hk=>by
  obtain ⟨g,e1,e2,e3,r,o⟩:=v.wh hk
  exact ⟨g,e1,e2,e3,r.below hb r.lt,o⟩,fun hk=>by
  obtain ⟨g,e1,e2,e3,r,o⟩:=v.wt hk
  exact ⟨g,e1,e2,e3,r.below hb r.lt,o⟩⟩
theorem offRow {g k:Nat} {I:List Int} (h:k ≠ g):OffB (some g) (some ⟨k,0,none⟩) I:=.inr ⟨k,0,rfl,fun e=>h (by simpa using e)⟩
theorem newRow {base k:Nat} {I:List Int} (h:base≤k):NewB base (some ⟨k,0,none⟩) I:=.inr ⟨k,0,rfl,h⟩
theorem rowBits {W:World} {g N:Nat} {S:List Nat} (h:RowB W g S) (hf:∀ x ∈ S,x < 18446744073709551616) (hl:S.length = N):BitsAt W (some ⟨g,0,none⟩) N (mxL S):=by
 have:=h.bits hf
 rw [hl] at this
 exact this
theorem HvAt.rows {base:Nat} {W W':World} {n N gh gt gq:Nat} {kh kt:Bool} {s s':Hs} {ho uo qo zo:Option Addr} {hc tc qc zc:Nat} (v:HvAt base W N kh kt s ho uo qo zo hc tc qc zc) (hbase:base≤W.heap.size) (hN:n * n = N) (ok:HsOk n s') (hZ:s'.Z = s.Z) (hb:Below W.heap.size W W') (o:W.heap.size+1 < gh∧gh < gt∧gt < gq) (r1:RowB W' gh s'.H) (r2:RowB W' gt s'.T) (r3:RowB W' gq s'.Q) :
  HvAt base W' N true true s' (some ⟨gh,0,none⟩) (some ⟨gt,0,none⟩) (some ⟨gq,0,none⟩) zo N N N zc:=by
 obtain ⟨o1,o2,o3⟩:=o
 have ez:=OffB.old v.z (g:=some gh) (fun k e=>by cases e;omega)
 have ez2:=OffB.old v.z (g:=some gt) (fun k e=>by cases e;omega)
 exact ⟨rowBits r1 ok.2.1 (ok.1.1.trans hN),rowBits r2 ok.2.2.1 (ok.1.2.1.trans hN),rowBits r3 ok.2.2.2.1 (ok.1.2.2.1.trans hN),by rw [hZ];exact v.z.below hb,newRow (by omega),newRow (by omega),newRow (by omega),by rw [hZ];exact v.nz,
  fun _=>⟨gh,rfl,rfl,by omega,r1,offRow (by omega),offRow (by omega),by rw [hZ];exact ez⟩,fun _=>⟨gt,rfl,rfl,by omega,r2,offRow (by omega),offRow (by omega),by rw [hZ];exact ez2⟩⟩
theorem HvAt.cols {base:Nat} {W W':World} {n N gh gt gz:Nat} {kh kt:Bool} {s s':Hs} {ho uo qo zo:Option Addr} {hc tc qc zc:Nat} (v:HvAt base W N kh kt s ho uo qo zo hc tc qc zc) (hbase:base≤W.heap.size) (hN:n * n = N) (ok:HsOk n s') (hQ:s'.Q = s.Q) (hb:Below W.heap.size W W') (o:W.heap.size+1 < gt∧gt < gh∧gh < gz) (r1:RowB W' gt s'.T) (r2:RowB W' gh s'.H) (r3:RowB W' gz s'.Z) :
  HvAt base W' N true true s' (some ⟨gh,0,none⟩) (some ⟨gt,0,none⟩) qo (some ⟨gz,0,none⟩) N N qc N:=by
 obtain ⟨o1,o2,o3⟩:=o
 have eq:=OffB.old v.q (g:=some gh) (fun k e=>by cases e;omega)
 have eq2:=OffB.old v.q (g:=some gt) (fun k e=>by cases e;omega)
 exact ⟨rowBits r2 ok.2.1 (ok.1.1.trans hN),rowBits r1 ok.2.2.1 (ok.1.2.1.trans hN),by rw [hQ];exact v.q.below hb,rowBits r3 ok.2.2.2.2 (ok.1.2.2.2.trans hN),newRow (by omega),newRow (by omega),by rw [hQ];exact v.nq,newRow (by omega),
  fun _=>⟨gh,rfl,rfl,by omega,r2,offRow (by omega),by rw [hQ];exact eq,offRow (by omega)⟩,fun _=>⟨gt,rfl,rfl,by omega,r1,offRow (by omega),by rw [hQ];exact eq2,offRow (by omega)⟩⟩
structure TvSt (base:Nat) (w wr:World) (n N:Nat) (kh kt:Bool) (s:Hs) (ho uo qo zo:Option Addr) (hc tc qc zc:Nat):Prop where
 bel:Below base w wr
 hw:base≤w.heap.size
 box:BoxL 57 wr w.heap.size [.int .i64 n,.int .i64 n,.slice ho N hc,.int .i64 n,.int .i64 n,.slice uo N tc,.int .i64 n,.int .i64 n,.slice qo N qc,.int .i64 n,.int .i64 n,.slice zo N zc]
 res:BoxL 57 wr (w.heap.size+1) [.int .i64 0,.int .i64 0,.slice none 0 0,.int .i64 0,.int .i64 0,.slice none 0 0,.int .i64 0,.int .i64 0,.slice none 0 0,.int .i64 0,.int .i64 0,.slice none 0 0]
 v:HvAt base wr N kh kt s ho uo qo zo hc tc qc zc
 ok:HsOk n s
theorem TvSt.all {base:Nat} {w wr w':World} {n N:Nat} {kh kt:Bool} {s:Hs} {ho uo qo zo:Option Addr} {hc tc qc zc:Nat} (t:TvSt base w wr n N kh kt s ho uo qo zo hc tc qc zc) (hb:Below wr.heap.size wr w'):TvSt base w w' n N kh kt s ho uo qo zo hc tc qc zc :=
 ⟨t.bel.trans (hb.mono (Nat.le_trans t.hw t.bel.size)),t.hw,t.box.all hb,t.res.all hb,t.v.all hb,t.ok⟩
theorem noBits12 (n N:Nat) (ho uo qo zo:Option Addr) (hc tc qc zc:Nat):∀ v ∈ ([.int .i64 n,.int .i64 n,.slice ho N hc,.int .i64 n,.int .i64 n,.slice uo N tc,.int .i64 n,.int .i64 n,.slice qo N qc,.int .i64 n,.int .i64 n,.slice zo N zc]:List Value),∀ z,v ≠ .int .u64 z:=by
 intro v hv z
 simp only [List.mem_cons,List.not_mem_nil,or_false] at hv
 rcases hv with rfl | rfl | rfl | rfl | rfl | rfl | rfl | rfl | rfl | rfl | rfl | rfl <;> simp
theorem TvSt.put {base:Nat} {w wr:World} {n N:Nat} {kh kt k2 k3:Bool} {s s':Hs} {ho uo qo zo:Option Addr} {hc tc qc zc:Nat} {ho' uo' qo' zo':Option Addr} {hc' tc' qc' zc':Nat} (t:TvSt base w wr n N kh kt s ho uo qo zo hc tc qc zc) (v:HvAt base wr N k2 k3 s' ho' uo' qo' zo' hc' tc' qc' zc') (ok:HsOk n s'):TvSt base w (putL wr w.heap.size 0 [.int .i64 n,.int .i64 n,.slice ho' N hc',.int .i64 n,.int .i64 n,.slice uo' N tc',.int .i64 n,.int .i64 n,.slice qo' N qc',.int .i64 n,.int .i64 n,.slice zo' N zc']) n N k2 k3 s' ho' uo' qo' zo' hc' tc' qc' zc':=by
 have hx:=t.box
 have nb:=noBits12 n N ho uo qo zo hc tc qc zc
 have P:=fun {ao:Option Addr} {c:Nat} {I:List Int} (h:BitsAt wr ao c I)=>bits_putL (b:=w.heap.size) (hx.off nb h) [.int .i64 n,.int .i64 n,.slice ho' N hc',.int .i64 n,.int .i64 n,.slice uo' N tc',.int .i64 n,.int .i64 n,.slice qo' N qc',.int .i64 n,.int .i64 n,.slice zo' N zc'] 0 h
 have Rr:=fun {g:Nat} {S:List Nat} (h:RowB wr g S)=>h.putL (hx.row (by decide) h) 0 [.int .i64 n,.int .i64 n,.slice ho' N hc',.int .i64 n,.int .i64 n,.slice uo' N tc',.int .i64 n,.int .i64 n,.slice qo' N qc',.int .i64 n,.int .i64 n,.slice zo' N zc']
 exact ⟨below_putL t.hw _ _ t.bel,t.hw,hx.full _ rfl,t.res.putO (by omega) _ _,⟨P v.h,P v.t,P v.q,P v.z,v.nh,v.nt,v.nq,v.nz,fun hk=>by
  obtain ⟨g,e1,e2,e3,r,o⟩:=v.wh hk
  exact ⟨g,e1,e2,e3,Rr r,o⟩,fun hk=>by
  obtain ⟨g,e1,e2,e3,r,o⟩:=v.wt hk
  exact ⟨g,e1,e2,e3,Rr r,o⟩⟩,ok⟩
theorem HsOk.cH {n b:Nat} {s:Hs} (h:HsOk n s):HsOk n ⟨hsE n b s.H,s.T,s.Q,s.Z⟩:=⟨⟨hsE_len _ _ _,h.1.2⟩,hsE_lt h.2.1 _ _,h.2.2⟩
theorem HsOk.cT {n b:Nat} {s:Hs} (h:HsOk n s):HsOk n ⟨s.H,hsE n b s.T,s.Q,s.Z⟩:=⟨⟨h.1.1,hsE_len _ _ _,h.1.2.2⟩,h.2.1,hsE_lt h.2.2.1 _ _,h.2.2.2⟩
theorem TvSt.cleanH {base:Nat} {w wr:World} {n N:Nat} {kh kt:Bool} {s:Hs} {ho uo qo zo:Option Addr} {hc tc qc zc:Nat} (t:TvSt base w wr n N kh kt s ho uo qo zo hc tc qc zc) (h6:n≤6) (hN:n * n = N) (hk:n≤2 ∨ kh = true) :
  Calls Tryz.prog 152 #[.agg #[.int .i64 n,.int .i64 n,.slice ho N hc],.int .i64 1] wr fun e w'=>e = .returned (.tuple #[])∧TvSt base w w' n N kh kt ⟨hsE n 1 s.H,s.T,s.Q,s.Z⟩ ho uo qo zo hc tc qc zc:=by
 by_cases h2:n≤2
 ·refine (clean_none n n 1 ho N hc wr h6 (by omega) (by omega)).mono ?_
  rintro e w' ⟨rfl,hb⟩
  have e1:hsE n 1 s.H = s.H:=hsE_self n 1 s.H t.ok.1.1 (by omega)
  rw [e1]
  exact ⟨rfl,t.all hb⟩
 ·have hk:=hk.resolve_left h2
  obtain ⟨g,rfl,rfl,hg,r,o1,o2,o3⟩:=t.v.wh hk
  refine (clean_row n 1 g _ s.H wr h6 (by omega) hN r (t.ok.1.1.trans hN)).mono ?_
  rintro e w' ⟨rfl,r',hb⟩
  have gw:g ≠ w.heap.size:=t.box.row (by decide) r
  have gr:g ≠ w.heap.size+1:=t.res.row (by decide) r
  have v:=t.v
  refine ⟨rfl,⟨t.bel.grown hb (Nat.le_trans t.hw t.bel.size) (fun k e=>by cases e;exact hg),t.hw,t.box.grown hb (fun e=>gw (by simpa using e)),t.res.grown hb (fun e=>gr (by simpa using e)),⟨rowBits r' (hsE_lt t.ok.2.1 _ _) ((hsE_len _ _ _).trans hN),bits_grownOff v.t o1 hb,bits_grownOff v.q o2 hb,bits_grownOff v.z o3 hb,newRow hg,v.nt,v.nq,v.nz,fun _=>⟨g,rfl,rfl,hg,r',o1,o2,o3⟩,fun hk=>?_⟩,t.ok.cH⟩⟩
  obtain ⟨g2,e1,e2,e3,r2,p1,p2,p3⟩:=v.wt hk
  have hne:g2 ≠ g:=by
   rw [e1] at o1
   rcases o1 with e | ⟨k,off,e4,e5⟩
   ·exfalso
    rcases p1 with q | ⟨k,off,q1,q2⟩
    ·have:=t.ok.1.1
     have hl:(mxL s.H).length = 0:=by rw [q];rfl
     rw [mxL_len] at hl
     have:n = 0:=by
      rcases Nat.eq_zero_or_pos n with z | z
      ·exact z
      ·have:=Nat.mul_pos z z;omega
     omega
    ·have hl:(mxL s.T).length = 0:=by rw [e];rfl
     rw [mxL_len] at hl
     have:=t.ok.1.2.1
     rcases Nat.eq_zero_or_pos n with z | z
     ·omega
     ·have:=Nat.mul_pos z z;omega
   ·cases e4
    exact fun e=>e5 (by rw [e])
  exact ⟨g2,e1,e2,e3,(hb.block g2 r2.lt (fun e=>hne (by first | simpa using e | simpa using e.symm))).trans r2,.inr ⟨g,0,rfl,fun e=>hne (by first | simpa using e | simpa using e.symm)⟩,p2,p3⟩
theorem TvSt.cleanT {base:Nat} {w wr:World} {n N:Nat} {kh kt:Bool} {s:Hs} {ho uo qo zo:Option Addr} {hc tc qc zc:Nat} (t:TvSt base w wr n N kh kt s ho uo qo zo hc tc qc zc) (h6:n≤6) (hN:n * n = N) (hk:n≤1 ∨ kt = true) :
  Calls Tryz.prog 152 #[.agg #[.int .i64 n,.int .i64 n,.slice uo N tc],.int .i64 0] wr fun e w'=>e = .returned (.tuple #[])∧TvSt base w w' n N false false ⟨s.H,hsE n 0 s.T,s.Q,s.Z⟩ ho uo qo zo hc tc qc zc:=by
 by_cases h2:n≤1
 ·refine (clean_none n n 0 uo N tc wr h6 (by omega) (by omega)).mono ?_
  rintro e w' ⟨rfl,hb⟩
  have e1:hsE n 0 s.T = s.T:=hsE_self n 0 s.T t.ok.1.2.1 (by omega)
  rw [e1]
  have t2:=t.all hb
  exact ⟨rfl,t2.bel,t2.hw,t2.box,t2.res,⟨t2.v.h,t2.v.t,t2.v.q,t2.v.z,t2.v.nh,t2.v.nt,t2.v.nq,t2.v.nz,fun h=>by (cases h),fun h=>by (cases h)⟩,t2.ok⟩
 ·have hk:=hk.resolve_left h2
  obtain ⟨g,rfl,rfl,hg,r,o1,o2,o3⟩:=t.v.wt hk
  refine (clean_row n 0 g _ s.T wr h6 (by omega) hN r (t.ok.1.2.1.trans hN)).mono ?_
  rintro e w' ⟨rfl,r',hb⟩
  have gw:g ≠ w.heap.size:=t.box.row (by decide) r
  have gr:g ≠ w.heap.size+1:=t.res.row (by decide) r
  have v:=t.v
  exact ⟨rfl,⟨t.bel.grown hb (Nat.le_trans t.hw t.bel.size) (fun k e=>by cases e;exact hg),t.hw,t.box.grown hb (fun e=>gw (by simpa using e)),t.res.grown hb (fun e=>gr (by simpa using e)),⟨bits_grownOff v.h o1 hb,rowBits r' (hsE_lt t.ok.2.2.1 _ _) ((hsE_len _ _ _).trans hN),bits_grownOff v.q o2 hb,bits_grownOff v.z o3 hb,v.nh,newRow hg,v.nq,v.nz,fun h=>by (cases h),fun h=>by (cases h)⟩,t.ok.cT⟩⟩
def TvAns (base:Nat) (w':World) (ok:Bool) (n N:Nat) (s:Hs) (e:Ending):Prop :=
 (ok = true∧∃ ho uo qo zo hc tc qc zc,e = .returned (.tuple #[.agg #[.int .i64 n,.int .i64 n,.slice ho N hc,.int .i64 n,.int .i64 n,.slice uo N tc,.int .i64 n,.int .i64 n,.slice qo N qc,.int .i64 n,.int .i64 n,.slice zo N zc],.bool true])∧HvAt base w' N false false s ho uo qo zo hc tc qc zc) ∨ (ok = false∧e = .returned (.tuple #[.agg #[.int .i64 0,.int .i64 0,.slice none 0 0,.int .i64 0,.int .i64 0,.slice none 0 0,.int .i64 0,.int .i64 0,.slice none 0 0,.int .i64 0,.int .i64 0,.slice none 0 0],.bool false]))
theorem HvAt.putR {base:Nat} {W:World} {N b:Nat} {kh kt:Bool} {s:Hs} {ho uo qo zo:Option Addr} {hc tc qc zc:Nat} (v:HvAt base W N kh kt s ho uo qo zo hc tc qc zc) (hx:BoxL 57 W b [.int .i64 0,.int .i64 0,.slice none 0 0,.int .i64 0,.int .i64 0,.slice none 0 0,.int .i64 0,.int .i64 0,.slice none 0 0,.int .i64 0,.int .i64 0,.slice none 0 0]) (vs:List Value):HvAt base (putL W b 0 vs) N kh kt s ho uo qo zo hc tc qc zc:=by
 have nb:∀ v ∈ ([.int .i64 0,.int .i64 0,.slice none 0 0,.int .i64 0,.int .i64 0,.slice none 0 0,.int .i64 0,.int .i64 0,.slice none 0 0,.int .i64 0,.int .i64 0,.slice none 0 0]:List Value),∀ z,v ≠ .int .u64 z:=by
  intro v hv z
  simp only [List.mem_cons,List.not_mem_nil,or_false] at hv
  rcases hv with rfl | rfl | rfl | rfl | rfl | rfl | rfl | rfl | rfl | rfl | rfl | rfl <;> simp
 have P:=fun {ao:Option Addr} {c:Nat} {I:List Int} (h:BitsAt W ao c I)=>bits_putL (b:=b) (hx.off nb h) vs 0 h
 have Rr:=fun {g:Nat} {S:List Nat} (h:RowB W g S)=>h.putL (hx.row (by decide) h) 0 vs
 exact ⟨P v.h,P v.t,P v.q,P v.z,v.nh,v.nt,v.nq,v.nz,fun hk=>by
  obtain ⟨g,e1,e2,e3,r,o⟩:=v.wh hk
  exact ⟨g,e1,e2,e3,Rr r,o⟩,fun hk=>by
  obtain ⟨g,e1,e2,e3,r,o⟩:=v.wt hk
  exact ⟨g,e1,e2,e3,Rr r,o⟩⟩
theorem clean_zero1 (w:World):Calls Tryz.prog 152 #[.agg #[.int .i64 0,.int .i64 0,.slice none 0 0],.int .i64 1] w fun e w'=>e = .returned (.tuple #[])∧Below w.heap.size w w':=clean_none 0 0 1 none 0 0 w (by omega) (by omega) (by omega)
theorem clean_zero0 (w:World):Calls Tryz.prog 152 #[.agg #[.int .i64 0,.int .i64 0,.slice none 0 0],.int .i64 0] w fun e w'=>e = .returned (.tuple #[])∧Below w.heap.size w w':=clean_none 0 0 0 none 0 0 w (by omega) (by omega) (by omega)
theorem hsIk_no (n j:Nat) (s:Hs):∀ d t,hsIk n j s t = false→hsIk n j s (t+d) = false
 | 0,_,h=>h
 | d+1,t,h=>by
  show (hsIk n j s (t+d) && _) = false
  rw [hsIk_no n j s d t h];rfl
theorem hsOk_no (n:Nat) (s:Hs):∀ d t,hsOk n s t = false→hsOk n s (t+d) = false
 | 0,_,h=>h
 | d+1,t,h=>by
  show (hsOk n s (t+d) && _) = false
  rw [hsOk_no n s d t h];rfl
theorem hs_ends {n j t:Nat} {s:Hs} (hj:j < n - 2) (ht:t < n - 2 - j) (h:hsSk n j (n - 2 - t) (hsI n j (hsO n s j) t) = false):hsOk n s (n - 2) = false:=by
 have h1:hsIk n j (hsO n s j) (t+1) = false:=by
  show (hsIk n j (hsO n s j) t && _) = false
  rw [h,Bool.and_false]
 have h2:=hsIk_no n j (hsO n s j) (n - 2 - j - (t+1)) (t+1) h1
 rw [show t+1+(n - 2 - j - (t+1)) = n - 2 - j by omega] at h2
 have h3:hsOk n s (j+1) = false:=by
  show (hsOk n s j && _) = false
  rw [h2,Bool.and_false]
 have h4:=hsOk_no n s (n - 2 - (j+1)) (j+1) h3
 rwa [show j+1+(n - 2 - (j+1)) = n - 2 by omega] at h4
theorem hturned_any (base n N:Nat) (kh kt:Bool) (s:Hs) (ho uo qo zo:Option Addr) (hc tc qc zc:Nat) (w:World) (h6:n≤6) (hN:n * n = N) (hbase:base≤w.heap.size) (v:HvAt base w N kh kt s ho uo qo zo hc tc qc zc) (ok:HsOk n s) (hkt:2≤n→kt = true) (hT:Tab w) :
  Calls Tryz.prog 97 #[.agg #[.int .i64 n,.int .i64 n,.slice ho N hc,.int .i64 n,.int .i64 n,.slice uo N tc,.int .i64 n,.int .i64 n,.slice qo N qc,.int .i64 n,.int .i64 n,.slice zo N zc]] w fun e w'=>TvAns base w' (hsOk n s (n - 2)) n N ⟨hsE n 1 (hsO n s (n - 2)).H,hsE n 0 (hsO n s (n - 2)).T,(hsO n s (n - 2)).Q,(hsO n s (n - 2)).Z⟩ e∧Below base w w':=by
 obtain ⟨okF,hOF⟩:∃ b,hsOk n s (n - 2) = b:=⟨_,rfl⟩
 obtain ⟨SF,hSF⟩:∃ x:Hs,(⟨hsE n 1 (hsO n s (n - 2)).H,hsE n 0 (hsO n s (n - 2)).T,(hsO n s (n - 2)).Q,(hsO n s (n - 2)).Z⟩:Hs) = x:=⟨_,rfl⟩
 rw [hOF,hSF]
 have HOF:=hide hOF;have HSF:=hide hSF;have HN:=hide hN;have HT:=hide hT;have HBW:=hide hbase
 obtain ⟨b0,z0,z1⟩:=boxesF w [.int .i64 n,.int .i64 n,.slice ho N hc,.int .i64 n,.int .i64 n,.slice uo N tc,.int .i64 n,.int .i64 n,.slice qo N qc,.int .i64 n,.int .i64 n,.slice zo N zc] [.int .i64 0,.int .i64 0,.slice none 0 0,.int .i64 0,.int .i64 0,.slice none 0 0,.int .i64 0,.int .i64 0,.slice none 0 0,.int .i64 0,.int .i64 0,.slice none 0 0] ((w.alloc (.cells #[.int .i64 n,.int .i64 n,.slice ho N hc,.int .i64 n,.int .i64 n,.slice uo N tc,.int .i64 n,.int .i64 n,.slice qo N qc,.int .i64 n,.int .i64 n,.slice zo N zc] 57)).alloc (.cells #[.int .i64 0,.int .i64 0,.slice none 0 0,.int .i64 0,.int .i64 0,.slice none 0 0,.int .i64 0,.int .i64 0,.slice none 0 0,.int .i64 0,.int .i64 0,.slice none 0 0] 57)) (by have:=Below.refl ((w.alloc (.cells #[.int .i64 n,.int .i64 n,.slice ho N hc,.int .i64 n,.int .i64 n,.slice uo N tc,.int .i64 n,.int .i64 n,.slice qo N qc,.int .i64 n,.int .i64 n,.slice zo N zc] 57)).alloc (.cells #[.int .i64 0,.int .i64 0,.slice none 0 0,.int .i64 0,.int .i64 0,.slice none 0 0,.int .i64 0,.int .i64 0,.slice none 0 0,.int .i64 0,.int .i64 0,.slice none 0 0] 57)).heap.size ((w.alloc (.cells #[.int .i64 n,.int .i64 n,.slice ho N hc,.int .i64 n,.int .i64 n,.slice uo N tc,.int .i64 n,.int .i64 n,.slice qo N qc,.int .i64 n,.int .i64 n,.slice zo N zc] 57)).alloc (.cells #[.int .i64 0,.int .i64 0,.slice none 0 0,.int .i64 0,.int .i64 0,.slice none 0 0,.int .i64 0,.int .i64 0,.slice none 0 0,.int .i64 0,.int .i64 0,.slice none 0 0] 57));simpa only [size_alloc9] using this)
 have hS:Hid (TvSt base w ((w.alloc (.cells #[.int .i64 n,.int .i64 n,.slice ho N hc,.int .i64 n,.int .i64 n,.slice uo N tc,.int .i64 n,.int .i64 n,.slice qo N qc,.int .i64 n,.int .i64 n,.slice zo N zc] 57)).alloc (.cells #[.int .i64 0,.int .i64 0,.slice none 0 0,.int .i64 0,.int .i64 0,.slice none 0 0,.int .i64 0,.int .i64 0,.slice none 0 0,.int .i64 0,.int .i64 0,.slice none 0 0] 57)) n N kh kt s ho uo qo zo hc tc qc zc):=hide ⟨b0.mono hbase,hbase,z0,z1,v.all b0,ok⟩
 have hW:Hid (Below w.heap.size w ((w.alloc (.cells #[.int .i64 n,.int .i64 n,.slice ho N hc,.int .i64 n,.int .i64 n,.slice uo N tc,.int .i64 n,.int .i64 n,.slice qo N qc,.int .i64 n,.int .i64 n,.slice zo N zc] 57)).alloc (.cells #[.int .i64 0,.int .i64 0,.slice none 0 0,.int .i64 0,.int .i64 0,.slice none 0 0,.int .i64 0,.int .i64 0,.slice none 0 0,.int .i64 0,.int .i64 0,.slice none 0 0] 57))):=hide b0
 have HKT:=hide hkt
 clear b0 z0 z1 v ok hT hkt hOF hSF hN hbase
 have y0:=(uH hS).box.c 0 rfl
 have en2:IntKind.i64.wrap ((n:Int) - 2) = (n:Int) - 2:=wrap_in _ (by omega)
 go_enter Tryz.func97,Tryz.ntmps97
 go_wp2_with fail
 go_step3
 go_wp2_with fail
 go_step3
 go_wp2_with fail
 clear y0 en2
 go_loopg [5,13] (n - 2) (fun g fm a wr=>∃ (j:Nat) (kh kt:Bool) (ho uo qo zo:Option Addr) (hc tc qc zc:Nat),j+g = n - 2∧fm = .bool true∧a = .int .i64 j∧Hid (hsOk n s j = true)∧Hid (0 < j→kh = true)∧Hid (2≤n→kt = true)∧Hid (Below w.heap.size w wr)∧Hid (TvSt base w wr n N kh kt (hsO n s j) ho uo qo zo hc tc qc zc))
 case atStart=>exact ⟨0,kh,kt,ho,uo,qo,zo,hc,tc,qc,zc,by omega,rfl,rfl,rfl,fun h=>absurd h (Nat.lt_irrefl 0),HKT,hW,hS⟩
 case round =>
  clear hS hW HKT
  obtain ⟨j,kh,kt,ho,uo,qo,zo,hc,tc,qc,zc,hjg,rfl,rfl,hO,hK1,hK2,hW,hS⟩:=hrel
  cases gk with
  | zero =>
   have hlt:¬ ((j:Int) < (n:Int) - 2):=by omega
   have hjn:j = n - 2:=by omega
   subst hjn
   have hyes:=hide (show okF = true by rw [← uH HOF];exact uH hO)
   have HFH:=hide (show n≤2 ∨ kh = true from by
    by_cases h:n≤2
    ·exact .inl h
    ·exact .inr (uH hK1 (by omega)))
   have HFT:=hide (show n≤1 ∨ kt = true from by
    by_cases h:n≤1
    ·exact .inl h
    ·exact .inr (uH hK2 (by omega)))
   clear hO hK1 hK2 hW
   have y0:=(uH hS).box.c 0 rfl;have y1:=(uH hS).box.c 1 rfl;have y2:=(uH hS).box.c 2 rfl
   go_wp2_with fail
   clear y0 y1 y2
   refine Calls.mono (TvSt.cleanH (uH hS) h6 (uH HN) (uH HFH)) ?_
   rintro e w7 ⟨rfl,s7⟩
   have S7:=hide s7
   clear s7 hS
   have y3:=(uH S7).box.c 3 rfl;have y4:=(uH S7).box.c 4 rfl;have y5:=(uH S7).box.c 5 rfl
   go_wp2_with fail
   clear y3 y4 y5
   refine Calls.mono (TvSt.cleanT (uH S7) h6 (uH HN) (uH HFT)) ?_
   rintro e w8 ⟨rfl,s8⟩
   have S8:=hide s8
   clear s8 S7
   have X9:=(uH S8).box;have Q9:=(uH S8).res
   have y0:=X9.c 0 rfl;have y1:=X9.c 1 rfl;have y2:=X9.c 2 rfl;have y3:=X9.c 3 rfl;have y4:=X9.c 4 rfl;have y5:=X9.c 5 rfl;have y6:=X9.c 6 rfl;have y7:=X9.c 7 rfl;have y8:=X9.c 8 rfl;have y9:=X9.c 9 rfl;have y10:=X9.c 10 rfl;have y11:=X9.c 11 rfl
   have s0:=Q9.c 0 rfl;have s1:=Q9.c 1 rfl;have s2:=Q9.c 2 rfl;have s3:=Q9.c 3 rfl;have s4:=Q9.c 4 rfl;have s5:=Q9.c 5 rfl;have s6:=Q9.c 6 rfl;have s7:=Q9.c 7 rfl;have s8:=Q9.c 8 rfl;have s9:=Q9.c 9 rfl;have s10:=Q9.c 10 rfl;have s11:=Q9.c 11 rfl
   have f0:=Q9.free 0;have f1:=Q9.free 1;have f2:=Q9.free 2;have f3:=Q9.free 3;have f4:=Q9.free 4;have f5:=Q9.free 5;have f6:=Q9.free 6;have f7:=Q9.free 7;have f8:=Q9.free 8;have f9:=Q9.free 9;have f10:=Q9.free 10;have f11:=Q9.free 11
   have XP:BoxL 57 ((((((((((((w8.setCell ⟨w.heap.size+1,0,none⟩ (.int .i64 n)).setCell ⟨w.heap.size+1,1,none⟩ (.int .i64 n)).setCell ⟨w.heap.size+1,2,none⟩ (.slice ho N hc)).setCell ⟨w.heap.size+1,3,none⟩ (.int .i64 n)).setCell ⟨w.heap.size+1,4,none⟩ (.int .i64 n)).setCell ⟨w.heap.size+1,5,none⟩ (.slice uo N tc)).setCell ⟨w.heap.size+1,6,none⟩ (.int .i64 n)).setCell ⟨w.heap.size+1,7,none⟩ (.int .i64 n)).setCell ⟨w.heap.size+1,8,none⟩ (.slice qo N qc)).setCell ⟨w.heap.size+1,9,none⟩ (.int .i64 n)).setCell ⟨w.heap.size+1,10,none⟩ (.int .i64 n)).setCell ⟨w.heap.size+1,11,none⟩ (.slice zo N zc)) (w.heap.size+1) [.int .i64 n,.int .i64 n,.slice ho N hc,.int .i64 n,.int .i64 n,.slice uo N tc,.int .i64 n,.int .i64 n,.slice qo N qc,.int .i64 n,.int .i64 n,.slice zo N zc]:=Q9.full [.int .i64 n,.int .i64 n,.slice ho N hc,.int .i64 n,.int .i64 n,.slice uo N tc,.int .i64 n,.int .i64 n,.slice qo N qc,.int .i64 n,.int .i64 n,.slice zo N zc] rfl
   have BP:Below base w ((((((((((((w8.setCell ⟨w.heap.size+1,0,none⟩ (.int .i64 n)).setCell ⟨w.heap.size+1,1,none⟩ (.int .i64 n)).setCell ⟨w.heap.size+1,2,none⟩ (.slice ho N hc)).setCell ⟨w.heap.size+1,3,none⟩ (.int .i64 n)).setCell ⟨w.heap.size+1,4,none⟩ (.int .i64 n)).setCell ⟨w.heap.size+1,5,none⟩ (.slice uo N tc)).setCell ⟨w.heap.size+1,6,none⟩ (.int .i64 n)).setCell ⟨w.heap.size+1,7,none⟩ (.int .i64 n)).setCell ⟨w.heap.size+1,8,none⟩ (.slice qo N qc)).setCell ⟨w.heap.size+1,9,none⟩ (.int .i64 n)).setCell ⟨w.heap.size+1,10,none⟩ (.int .i64 n)).setCell ⟨w.heap.size+1,11,none⟩ (.slice zo N zc)):=below_putL (b:=w.heap.size+1) (by have:=uH HBW;omega) [.int .i64 n,.int .i64 n,.slice ho N hc,.int .i64 n,.int .i64 n,.slice uo N tc,.int .i64 n,.int .i64 n,.slice qo N qc,.int .i64 n,.int .i64 n,.slice zo N zc] 0 (uH S8).bel
   have VP:HvAt base ((((((((((((w8.setCell ⟨w.heap.size+1,0,none⟩ (.int .i64 n)).setCell ⟨w.heap.size+1,1,none⟩ (.int .i64 n)).setCell ⟨w.heap.size+1,2,none⟩ (.slice ho N hc)).setCell ⟨w.heap.size+1,3,none⟩ (.int .i64 n)).setCell ⟨w.heap.size+1,4,none⟩ (.int .i64 n)).setCell ⟨w.heap.size+1,5,none⟩ (.slice uo N tc)).setCell ⟨w.heap.size+1,6,none⟩ (.int .i64 n)).setCell ⟨w.heap.size+1,7,none⟩ (.int .i64 n)).setCell ⟨w.heap.size+1,8,none⟩ (.slice qo N qc)).setCell ⟨w.heap.size+1,9,none⟩ (.int .i64 n)).setCell ⟨w.heap.size+1,10,none⟩ (.int .i64 n)).setCell ⟨w.heap.size+1,11,none⟩ (.slice zo N zc)) N false false _ ho uo qo zo hc tc qc zc:=(uH S8).v.putR Q9 [.int .i64 n,.int .i64 n,.slice ho N hc,.int .i64 n,.int .i64 n,.slice uo N tc,.int .i64 n,.int .i64 n,.slice qo N qc,.int .i64 n,.int .i64 n,.slice zo N zc]
   have VQ:HvAt base ((((((((((((w8.setCell ⟨w.heap.size+1,0,none⟩ (.int .i64 n)).setCell ⟨w.heap.size+1,1,none⟩ (.int .i64 n)).setCell ⟨w.heap.size+1,2,none⟩ (.slice ho N hc)).setCell ⟨w.heap.size+1,3,none⟩ (.int .i64 n)).setCell ⟨w.heap.size+1,4,none⟩ (.int .i64 n)).setCell ⟨w.heap.size+1,5,none⟩ (.slice uo N tc)).setCell ⟨w.heap.size+1,6,none⟩ (.int .i64 n)).setCell ⟨w.heap.size+1,7,none⟩ (.int .i64 n)).setCell ⟨w.heap.size+1,8,none⟩ (.slice qo N qc)).setCell ⟨w.heap.size+1,9,none⟩ (.int .i64 n)).setCell ⟨w.heap.size+1,10,none⟩ (.int .i64 n)).setCell ⟨w.heap.size+1,11,none⟩ (.slice zo N zc)) N false false SF ho uo qo zo hc tc qc zc:=by rw [← uH HSF];exact VP
   have z0:=XP.c 0 rfl;have z1:=XP.c 1 rfl;have z2:=XP.c 2 rfl;have z3:=XP.c 3 rfl;have z4:=XP.c 4 rfl;have z5:=XP.c 5 rfl;have z6:=XP.c 6 rfl;have z7:=XP.c 7 rfl;have z8:=XP.c 8 rfl;have z9:=XP.c 9 rfl;have z10:=XP.c 10 rfl;have z11:=XP.c 11 rfl
   replace BP:=hide BP;replace VQ:=hide VQ
   clear X9 Q9 XP VP S8
   go_wp2_with fail
   try rw [Exit.noGoto_ret]
   exact bodyPost_ret (v:=.tuple #[.agg #[.int .i64 n,.int .i64 n,.slice ho N hc,.int .i64 n,.int .i64 n,.slice uo N tc,.int .i64 n,.int .i64 n,.slice qo N qc,.int .i64 n,.int .i64 n,.slice zo N zc],.bool true]) (by simp [results,Tryz.results97,go_sem,z0,z1,z2,z3,z4,z5,z6,z7,z8,z9,z10,z11]) rfl ⟨.inl ⟨uH hyes,ho,uo,qo,zo,hc,tc,qc,zc,rfl,uH VQ⟩,uH BP⟩
  | succ g =>
   have hlt:(j:Int) < (n:Int) - 2:=by omega
   obtain ⟨m,hm⟩:∃ m,m+1 = n:=⟨n - 1,by omega⟩
   have em:IntKind.i64.wrap ((n:Int) - 1) = (m:Int):=(wrap_in _ (by omega)).trans (by omega)
   have em2:(n:Int) - 1 = (m:Int):=by omega
   have em3:IntKind.i64.wrap (m:Int) = (m:Int):=wrap_in _ (by omega)
   go_wp2_with fail
   clear em em2 em3
   go_loopg [5,7] (n - 2 - j) (fun g2 fm a wr=>∃ (t i:Nat) (kh kt:Bool) (ho uo qo zo:Option Addr) (hc tc qc zc:Nat),t+g2 = n - 2 - j∧fm = .bool true∧a = .int .i64 i∧i+t+1 = n∧Hid (hsIk n j (hsO n s j) t = true)∧Hid (0 < t→kh = true)∧Hid (2≤n→kt = true)∧Hid (Below w.heap.size w wr)∧Hid (TvSt base w wr n N kh kt (hsI n j (hsO n s j) t) ho uo qo zo hc tc qc zc))
   case atStart=>exact ⟨0,m,kh,kt,ho,uo,qo,zo,hc,tc,qc,zc,by omega,rfl,rfl,by omega,rfl,fun h=>absurd h (Nat.lt_irrefl 0),hK2,hW,hS⟩
   case round =>
    clear hS hW hK1 hK2
    obtain ⟨t,i,kh,kt,ho,uo,qo,zo,hc,tc,qc,zc,htg,rfl,rfl,hit,hI,hK1,hK2,hW,hS⟩:=hrel
    cases gk with
    | zero =>
     have hgt:¬ ((j:Int)+1 < (i:Int)):=by omega
     have ej:IntKind.i64.wrap ((j:Int)+1) = (j:Int)+1:=wrap_in _ (by omega)
     go_wp2_with fail
     go_roundg g
     case measure=>omega
     case rel =>
      have htn:t = n - 2 - j:=by omega
      subst htn
      refine ⟨j+1,kh,kt,ho,uo,qo,zo,hc,tc,qc,zc,by omega,rfl,by go_num,?_,fun _=>uH hK1 (by omega),hK2,hW,hS⟩
      show (hsOk n s j && hsIk n j (hsO n s j) (n - 2 - j)) = true
      rw [uH hO,uH hI];rfl
    | succ g2 =>
     have hgt:(j:Int)+1 < (i:Int):=by omega
     have ej:IntKind.i64.wrap ((j:Int)+1) = (j:Int)+1:=wrap_in _ (by omega)
     obtain ⟨p,hp⟩:∃ p,p+1 = i:=⟨i - 1,by omega⟩
     have HPT:=hide (show p = n - 2 - t by omega)
     have KR:=hide (rowsT_any n N i j p _ ho uo qo zo hc tc qc zc _ h6 hp (by omega) (by omega) (uH HN) (uH hS).ok (uH hS).v.h (uH hS).v.t (uH hS).v.q ((uH HT).all (uH hW)))
     have y0:=(uH hS).box.c 0 rfl;have y1:=(uH hS).box.c 1 rfl;have y2:=(uH hS).box.c 2 rfl;have y3:=(uH hS).box.c 3 rfl;have y4:=(uH hS).box.c 4 rfl;have y5:=(uH hS).box.c 5 rfl;have y6:=(uH hS).box.c 6 rfl;have y7:=(uH hS).box.c 7 rfl;have y8:=(uH hS).box.c 8 rfl;have y9:=(uH hS).box.c 9 rfl;have y10:=(uH hS).box.c 10 rfl;have y11:=(uH hS).box.c 11 rfl
     go_wp2_with fail
     clear y0 y1 y2 y3 y4 y5 y6 y7 y8 y9 y10 y11
     refine (uH KR).mono ?_
     rintro e w3 ⟨hans,hb⟩
     have SZ:=hide (show base≤wr.heap.size from Nat.le_trans (uH hS).hw (uH hS).bel.size)
     have S3:=hide ((uH hS).all hb)
     have W3:=hide ((uH hW).trans (hb.mono (uH hW).size))
     rcases hans with ⟨hk,gh,gt,gq,rfl,o,r1,r2,r3⟩ | ⟨hk,rfl⟩
     ·have V3:=(uH hS).v.rows (uH SZ) (uH HN) ((uH hS).ok.Rr j p) rfl hb o r1 r2 r3
      have s0:=(uH S3).box.c 0 rfl;have s1:=(uH S3).box.c 1 rfl;have s2:=(uH S3).box.c 2 rfl;have s3:=(uH S3).box.c 3 rfl;have s4:=(uH S3).box.c 4 rfl;have s5:=(uH S3).box.c 5 rfl;have s6:=(uH S3).box.c 6 rfl;have s7:=(uH S3).box.c 7 rfl;have s8:=(uH S3).box.c 8 rfl;have s9:=(uH S3).box.c 9 rfl;have s10:=(uH S3).box.c 10 rfl;have s11:=(uH S3).box.c 11 rfl
      have f0:=(uH S3).box.free 0;have f1:=(uH S3).box.free 1;have f2:=(uH S3).box.free 2;have f3:=(uH S3).box.free 3;have f4:=(uH S3).box.free 4;have f5:=(uH S3).box.free 5;have f6:=(uH S3).box.free 6;have f7:=(uH S3).box.free 7;have f8:=(uH S3).box.free 8;have f9:=(uH S3).box.free 9;have f10:=(uH S3).box.free 10;have f11:=(uH S3).box.free 11
      have S4:TvSt base w ((((((((((((w3.setCell ⟨w.heap.size,0,none⟩ (.int .i64 n)).setCell ⟨w.heap.size,1,none⟩ (.int .i64 n)).setCell ⟨w.heap.size,2,none⟩ (.slice (some ⟨gh,0,none⟩) N N)).setCell ⟨w.heap.size,3,none⟩ (.int .i64 n)).setCell ⟨w.heap.size,4,none⟩ (.int .i64 n)).setCell ⟨w.heap.size,5,none⟩ (.slice (some ⟨gt,0,none⟩) N N)).setCell ⟨w.heap.size,6,none⟩ (.int .i64 n)).setCell ⟨w.heap.size,7,none⟩ (.int .i64 n)).setCell ⟨w.heap.size,8,none⟩ (.slice (some ⟨gq,0,none⟩) N N)).setCell ⟨w.heap.size,9,none⟩ (.int .i64 n)).setCell ⟨w.heap.size,10,none⟩ (.int .i64 n)).setCell ⟨w.heap.size,11,none⟩ (.slice zo N zc)) n N true true (hsRr n j p (hsI n j (hsO n s j) t)) (some ⟨gh,0,none⟩) (some ⟨gt,0,none⟩) (some ⟨gq,0,none⟩) zo N N N zc:=(uH S3).put V3 ((uH hS).ok.Rr j p)
      have W4:Below w.heap.size w ((((((((((((w3.setCell ⟨w.heap.size,0,none⟩ (.int .i64 n)).setCell ⟨w.heap.size,1,none⟩ (.int .i64 n)).setCell ⟨w.heap.size,2,none⟩ (.slice (some ⟨gh,0,none⟩) N N)).setCell ⟨w.heap.size,3,none⟩ (.int .i64 n)).setCell ⟨w.heap.size,4,none⟩ (.int .i64 n)).setCell ⟨w.heap.size,5,none⟩ (.slice (some ⟨gt,0,none⟩) N N)).setCell ⟨w.heap.size,6,none⟩ (.int .i64 n)).setCell ⟨w.heap.size,7,none⟩ (.int .i64 n)).setCell ⟨w.heap.size,8,none⟩ (.slice (some ⟨gq,0,none⟩) N N)).setCell ⟨w.heap.size,9,none⟩ (.int .i64 n)).setCell ⟨w.heap.size,10,none⟩ (.int .i64 n)).setCell ⟨w.heap.size,11,none⟩ (.slice zo N zc)):=below_putL (b:=w.heap.size) (Nat.le_refl _) [.int .i64 n,.int .i64 n,.slice (some ⟨gh,0,none⟩) N N,.int .i64 n,.int .i64 n,.slice (some ⟨gt,0,none⟩) N N,.int .i64 n,.int .i64 n,.slice (some ⟨gq,0,none⟩) N N,.int .i64 n,.int .i64 n,.slice zo N zc] 0 (uH W3)
      have KL:=hide (colsT_any n N i p _ (some ⟨gh,0,none⟩) (some ⟨gt,0,none⟩) (some ⟨gq,0,none⟩) zo N N N zc _ h6 hp (by omega) (uH HN) S4.ok S4.v.t S4.v.h S4.v.z ((uH HT).all W4))
      have y0:=S4.box.c 0 rfl;have y1:=S4.box.c 1 rfl;have y2:=S4.box.c 2 rfl;have y3:=S4.box.c 3 rfl;have y4:=S4.box.c 4 rfl;have y5:=S4.box.c 5 rfl;have y6:=S4.box.c 6 rfl;have y7:=S4.box.c 7 rfl;have y8:=S4.box.c 8 rfl;have y9:=S4.box.c 9 rfl;have y10:=S4.box.c 10 rfl;have y11:=S4.box.c 11 rfl
      replace hS:=hide S4;replace hW:=hide W4
      have HK:=hide hk
      clear hb V3 S4 W4 S3 W3 SZ o r1 r2 r3 KR hk
      go_wp2_with fail
      clear s0 s1 s2 s3 s4 s5 s6 s7 s8 s9 s10 s11 f0 f1 f2 f3 f4 f5 f6 f7 f8 f9 f10 f11 y0 y1 y2 y3 y4 y5 y6 y7 y8 y9 y10 y11
      refine (uH KL).mono ?_
      rintro e w4 ⟨hans,hb⟩
      have SZ:=hide (show base≤_ from Nat.le_trans (uH hS).hw (uH hS).bel.size)
      have S3:=hide ((uH hS).all hb)
      have W3:=hide ((uH hW).trans (hb.mono (uH hW).size))
      rcases hans with ⟨hk2,gh2,gt2,gz,rfl,o,r1,r2,r3⟩ | ⟨hk2,rfl⟩
      ·have V3:=(uH hS).v.cols (uH SZ) (uH HN) ((uH hS).ok.Ll p) rfl hb o r1 r2 r3
       have s0:=(uH S3).box.c 0 rfl;have s1:=(uH S3).box.c 1 rfl;have s2:=(uH S3).box.c 2 rfl;have s3:=(uH S3).box.c 3 rfl;have s4:=(uH S3).box.c 4 rfl;have s5:=(uH S3).box.c 5 rfl;have s6:=(uH S3).box.c 6 rfl;have s7:=(uH S3).box.c 7 rfl;have s8:=(uH S3).box.c 8 rfl;have s9:=(uH S3).box.c 9 rfl;have s10:=(uH S3).box.c 10 rfl;have s11:=(uH S3).box.c 11 rfl
       have f0:=(uH S3).box.free 0;have f1:=(uH S3).box.free 1;have f2:=(uH S3).box.free 2;have f3:=(uH S3).box.free 3;have f4:=(uH S3).box.free 4;have f5:=(uH S3).box.free 5;have f6:=(uH S3).box.free 6;have f7:=(uH S3).box.free 7;have f8:=(uH S3).box.free 8;have f9:=(uH S3).box.free 9;have f10:=(uH S3).box.free 10;have f11:=(uH S3).box.free 11
       have S4:TvSt base w ((((((((((((w4.setCell ⟨w.heap.size,0,none⟩ (.int .i64 n)).setCell ⟨w.heap.size,1,none⟩ (.int .i64 n)).setCell ⟨w.heap.size,2,none⟩ (.slice (some ⟨gh2,0,none⟩) N N)).setCell ⟨w.heap.size,3,none⟩ (.int .i64 n)).setCell ⟨w.heap.size,4,none⟩ (.int .i64 n)).setCell ⟨w.heap.size,5,none⟩ (.slice (some ⟨gt2,0,none⟩) N N)).setCell ⟨w.heap.size,6,none⟩ (.int .i64 n)).setCell ⟨w.heap.size,7,none⟩ (.int .i64 n)).setCell ⟨w.heap.size,8,none⟩ (.slice (some ⟨gq,0,none⟩) N N)).setCell ⟨w.heap.size,9,none⟩ (.int .i64 n)).setCell ⟨w.heap.size,10,none⟩ (.int .i64 n)).setCell ⟨w.heap.size,11,none⟩ (.slice (some ⟨gz,0,none⟩) N N)) n N true true (hsS n j p (hsI n j (hsO n s j) t)) (some ⟨gh2,0,none⟩) (some ⟨gt2,0,none⟩) (some ⟨gq,0,none⟩) (some ⟨gz,0,none⟩) N N N N:=(uH S3).put V3 ((uH hS).ok.Ll p)
       have W4:Below w.heap.size w ((((((((((((w4.setCell ⟨w.heap.size,0,none⟩ (.int .i64 n)).setCell ⟨w.heap.size,1,none⟩ (.int .i64 n)).setCell ⟨w.heap.size,2,none⟩ (.slice (some ⟨gh2,0,none⟩) N N)).setCell ⟨w.heap.size,3,none⟩ (.int .i64 n)).setCell ⟨w.heap.size,4,none⟩ (.int .i64 n)).setCell ⟨w.heap.size,5,none⟩ (.slice (some ⟨gt2,0,none⟩) N N)).setCell ⟨w.heap.size,6,none⟩ (.int .i64 n)).setCell ⟨w.heap.size,7,none⟩ (.int .i64 n)).setCell ⟨w.heap.size,8,none⟩ (.slice (some ⟨gq,0,none⟩) N N)).setCell ⟨w.heap.size,9,none⟩ (.int .i64 n)).setCell ⟨w.heap.size,10,none⟩ (.int .i64 n)).setCell ⟨w.heap.size,11,none⟩ (.slice (some ⟨gz,0,none⟩) N N)):=below_putL (b:=w.heap.size) (Nat.le_refl _) [.int .i64 n,.int .i64 n,.slice (some ⟨gh2,0,none⟩) N N,.int .i64 n,.int .i64 n,.slice (some ⟨gt2,0,none⟩) N N,.int .i64 n,.int .i64 n,.slice (some ⟨gq,0,none⟩) N N,.int .i64 n,.int .i64 n,.slice (some ⟨gz,0,none⟩) N N] 0 (uH W3)
       replace hS:=hide S4;replace hW:=hide W4
       have HKK:=hide (show hsSk n j p (hsI n j (hsO n s j) t) = true by unfold hsSk;rw [uH HK,hk2];rfl)
       have ei:IntKind.i64.wrap ((i:Int) - 1) = (p:Int):=(wrap_in _ (by omega)).trans (by omega)
       have ei2:(i:Int) - 1 = (p:Int):=by omega
       have ei3:IntKind.i64.wrap (p:Int) = (p:Int):=wrap_in _ (by omega)
       clear hb V3 S4 W4 S3 W3 SZ o r1 r2 r3 KL hk2
       go_wp2_with fail
       clear s0 s1 s2 s3 s4 s5 s6 s7 s8 s9 s10 s11 f0 f1 f2 f3 f4 f5 f6 f7 f8 f9 f10 f11
       go_roundg g2
       case measure=>omega
       case rel =>
        refine ⟨t+1,p,true,true,some ⟨gh2,0,none⟩,some ⟨gt2,0,none⟩,some ⟨gq,0,none⟩,some ⟨gz,0,none⟩,N,N,N,N,by omega,rfl,rfl,by omega,?_,fun _=>rfl,fun _=>rfl,hW,?_⟩
        ·show (hsIk n j (hsO n s j) t && hsSk n j (n - 2 - t) (hsI n j (hsO n s j) t)) = true
         rw [uH hI,← uH HPT,uH HKK];rfl
        ·have:=uH hS
         rw [uH HPT] at this
         exact this
      ·have hno:=hide (show okF = false by
        rw [← uH HOF]
        refine hs_ends (j:=j) (t:=t) (by omega) (by omega) ?_
        unfold hsSk
        rw [← uH HPT,hk2,Bool.and_false])
       have s0:=(uH S3).box.c 0 rfl;have s1:=(uH S3).box.c 1 rfl;have s2:=(uH S3).box.c 2 rfl;have s3:=(uH S3).box.c 3 rfl;have s4:=(uH S3).box.c 4 rfl;have s5:=(uH S3).box.c 5 rfl;have s6:=(uH S3).box.c 6 rfl;have s7:=(uH S3).box.c 7 rfl;have s8:=(uH S3).box.c 8 rfl;have s9:=(uH S3).box.c 9 rfl;have s10:=(uH S3).box.c 10 rfl;have s11:=(uH S3).box.c 11 rfl
       have f0:=(uH S3).box.free 0;have f1:=(uH S3).box.free 1;have f2:=(uH S3).box.free 2;have f3:=(uH S3).box.free 3;have f4:=(uH S3).box.free 4;have f5:=(uH S3).box.free 5;have f6:=(uH S3).box.free 6;have f7:=(uH S3).box.free 7;have f8:=(uH S3).box.free 8;have f9:=(uH S3).box.free 9;have f10:=(uH S3).box.free 10;have f11:=(uH S3).box.free 11
       have X:BoxL 57 ((((((((((((w4.setCell ⟨w.heap.size,0,none⟩ (.int .i64 0)).setCell ⟨w.heap.size,1,none⟩ (.int .i64 0)).setCell ⟨w.heap.size,2,none⟩ (.slice none 0 0)).setCell ⟨w.heap.size,3,none⟩ (.int .i64 0)).setCell ⟨w.heap.size,4,none⟩ (.int .i64 0)).setCell ⟨w.heap.size,5,none⟩ (.slice none 0 0)).setCell ⟨w.heap.size,6,none⟩ (.int .i64 0)).setCell ⟨w.heap.size,7,none⟩ (.int .i64 0)).setCell ⟨w.heap.size,8,none⟩ (.slice none 0 0)).setCell ⟨w.heap.size,9,none⟩ (.int .i64 0)).setCell ⟨w.heap.size,10,none⟩ (.int .i64 0)).setCell ⟨w.heap.size,11,none⟩ (.slice none 0 0)) w.heap.size [.int .i64 0,.int .i64 0,.slice none 0 0,.int .i64 0,.int .i64 0,.slice none 0 0,.int .i64 0,.int .i64 0,.slice none 0 0,.int .i64 0,.int .i64 0,.slice none 0 0]:=(uH S3).box.full [.int .i64 0,.int .i64 0,.slice none 0 0,.int .i64 0,.int .i64 0,.slice none 0 0,.int .i64 0,.int .i64 0,.slice none 0 0,.int .i64 0,.int .i64 0,.slice none 0 0] rfl
       have R:BoxL 57 ((((((((((((w4.setCell ⟨w.heap.size,0,none⟩ (.int .i64 0)).setCell ⟨w.heap.size,1,none⟩ (.int .i64 0)).setCell ⟨w.heap.size,2,none⟩ (.slice none 0 0)).setCell ⟨w.heap.size,3,none⟩ (.int .i64 0)).setCell ⟨w.heap.size,4,none⟩ (.int .i64 0)).setCell ⟨w.heap.size,5,none⟩ (.slice none 0 0)).setCell ⟨w.heap.size,6,none⟩ (.int .i64 0)).setCell ⟨w.heap.size,7,none⟩ (.int .i64 0)).setCell ⟨w.heap.size,8,none⟩ (.slice none 0 0)).setCell ⟨w.heap.size,9,none⟩ (.int .i64 0)).setCell ⟨w.heap.size,10,none⟩ (.int .i64 0)).setCell ⟨w.heap.size,11,none⟩ (.slice none 0 0)) (w.heap.size+1) [.int .i64 0,.int .i64 0,.slice none 0 0,.int .i64 0,.int .i64 0,.slice none 0 0,.int .i64 0,.int .i64 0,.slice none 0 0,.int .i64 0,.int .i64 0,.slice none 0 0]:=(uH S3).res.putO (by omega) 0 [.int .i64 0,.int .i64 0,.slice none 0 0,.int .i64 0,.int .i64 0,.slice none 0 0,.int .i64 0,.int .i64 0,.slice none 0 0,.int .i64 0,.int .i64 0,.slice none 0 0]
       have B:Below base w ((((((((((((w4.setCell ⟨w.heap.size,0,none⟩ (.int .i64 0)).setCell ⟨w.heap.size,1,none⟩ (.int .i64 0)).setCell ⟨w.heap.size,2,none⟩ (.slice none 0 0)).setCell ⟨w.heap.size,3,none⟩ (.int .i64 0)).setCell ⟨w.heap.size,4,none⟩ (.int .i64 0)).setCell ⟨w.heap.size,5,none⟩ (.slice none 0 0)).setCell ⟨w.heap.size,6,none⟩ (.int .i64 0)).setCell ⟨w.heap.size,7,none⟩ (.int .i64 0)).setCell ⟨w.heap.size,8,none⟩ (.slice none 0 0)).setCell ⟨w.heap.size,9,none⟩ (.int .i64 0)).setCell ⟨w.heap.size,10,none⟩ (.int .i64 0)).setCell ⟨w.heap.size,11,none⟩ (.slice none 0 0)):=below_putL (b:=w.heap.size) (uH HBW) [.int .i64 0,.int .i64 0,.slice none 0 0,.int .i64 0,.int .i64 0,.slice none 0 0,.int .i64 0,.int .i64 0,.slice none 0 0,.int .i64 0,.int .i64 0,.slice none 0 0] 0 (uH S3).bel
       clear hb hS hW W3 SZ KL hk2
       have y0:=X.c 0 rfl;have y1:=X.c 1 rfl;have y2:=X.c 2 rfl
       have HX:=hide X;have HR:=hide R;have HB:=hide B
       clear X R B
       go_wp2_with fail
       clear y0 y1 y2 s0 s1 s2 s3 s4 s5 s6 s7 s8 s9 s10 s11 f0 f1 f2 f3 f4 f5 f6 f7 f8 f9 f10 f11 S3
       refine (clean_zero1 _).mono ?_
       rintro e w7 ⟨rfl,hb⟩
       replace HX:=hide ((uH HX).all hb);replace HR:=hide ((uH HR).all hb);replace HB:=hide ((uH HB).trans (hb.mono (Nat.le_trans (uH HBW) (uH HB).size)))
       clear hb
       have y3:=(uH HX).c 3 rfl;have y4:=(uH HX).c 4 rfl;have y5:=(uH HX).c 5 rfl
       go_wp2_with fail
       clear y3 y4 y5
       refine (clean_zero0 _).mono ?_
       rintro e w8 ⟨rfl,hb⟩
       replace HX:=hide ((uH HX).all hb);replace HR:=hide ((uH HR).all hb);replace HB:=hide ((uH HB).trans (hb.mono (Nat.le_trans (uH HBW) (uH HB).size)))
       clear hb
       have X9:=uH HX;have Q9:=uH HR
       have y0:=X9.c 0 rfl;have y1:=X9.c 1 rfl;have y2:=X9.c 2 rfl;have y3:=X9.c 3 rfl;have y4:=X9.c 4 rfl;have y5:=X9.c 5 rfl;have y6:=X9.c 6 rfl;have y7:=X9.c 7 rfl;have y8:=X9.c 8 rfl;have y9:=X9.c 9 rfl;have y10:=X9.c 10 rfl;have y11:=X9.c 11 rfl
       have s0:=Q9.c 0 rfl;have s1:=Q9.c 1 rfl;have s2:=Q9.c 2 rfl;have s3:=Q9.c 3 rfl;have s4:=Q9.c 4 rfl;have s5:=Q9.c 5 rfl;have s6:=Q9.c 6 rfl;have s7:=Q9.c 7 rfl;have s8:=Q9.c 8 rfl;have s9:=Q9.c 9 rfl;have s10:=Q9.c 10 rfl;have s11:=Q9.c 11 rfl
       have f0:=Q9.free 0;have f1:=Q9.free 1;have f2:=Q9.free 2;have f3:=Q9.free 3;have f4:=Q9.free 4;have f5:=Q9.free 5;have f6:=Q9.free 6;have f7:=Q9.free 7;have f8:=Q9.free 8;have f9:=Q9.free 9;have f10:=Q9.free 10;have f11:=Q9.free 11
       have XP:BoxL 57 ((((((((((((w8.setCell ⟨w.heap.size+1,0,none⟩ (.int .i64 0)).setCell ⟨w.heap.size+1,1,none⟩ (.int .i64 0)).setCell ⟨w.heap.size+1,2,none⟩ (.slice none 0 0)).setCell ⟨w.heap.size+1,3,none⟩ (.int .i64 0)).setCell ⟨w.heap.size+1,4,none⟩ (.int .i64 0)).setCell ⟨w.heap.size+1,5,none⟩ (.slice none 0 0)).setCell ⟨w.heap.size+1,6,none⟩ (.int .i64 0)).setCell ⟨w.heap.size+1,7,none⟩ (.int .i64 0)).setCell ⟨w.heap.size+1,8,none⟩ (.slice none 0 0)).setCell ⟨w.heap.size+1,9,none⟩ (.int .i64 0)).setCell ⟨w.heap.size+1,10,none⟩ (.int .i64 0)).setCell ⟨w.heap.size+1,11,none⟩ (.slice none 0 0)) (w.heap.size+1) [.int .i64 0,.int .i64 0,.slice none 0 0,.int .i64 0,.int .i64 0,.slice none 0 0,.int .i64 0,.int .i64 0,.slice none 0 0,.int .i64 0,.int .i64 0,.slice none 0 0]:=Q9.full [.int .i64 0,.int .i64 0,.slice none 0 0,.int .i64 0,.int .i64 0,.slice none 0 0,.int .i64 0,.int .i64 0,.slice none 0 0,.int .i64 0,.int .i64 0,.slice none 0 0] rfl
       have BP:Below base w ((((((((((((w8.setCell ⟨w.heap.size+1,0,none⟩ (.int .i64 0)).setCell ⟨w.heap.size+1,1,none⟩ (.int .i64 0)).setCell ⟨w.heap.size+1,2,none⟩ (.slice none 0 0)).setCell ⟨w.heap.size+1,3,none⟩ (.int .i64 0)).setCell ⟨w.heap.size+1,4,none⟩ (.int .i64 0)).setCell ⟨w.heap.size+1,5,none⟩ (.slice none 0 0)).setCell ⟨w.heap.size+1,6,none⟩ (.int .i64 0)).setCell ⟨w.heap.size+1,7,none⟩ (.int .i64 0)).setCell ⟨w.heap.size+1,8,none⟩ (.slice none 0 0)).setCell ⟨w.heap.size+1,9,none⟩ (.int .i64 0)).setCell ⟨w.heap.size+1,10,none⟩ (.int .i64 0)).setCell ⟨w.heap.size+1,11,none⟩ (.slice none 0 0)):=below_putL (b:=w.heap.size+1) (by have:=uH HBW;omega) [.int .i64 0,.int .i64 0,.slice none 0 0,.int .i64 0,.int .i64 0,.slice none 0 0,.int .i64 0,.int .i64 0,.slice none 0 0,.int .i64 0,.int .i64 0,.slice none 0 0] 0 (uH HB)
       have z0:=XP.c 0 rfl;have z1:=XP.c 1 rfl;have z2:=XP.c 2 rfl;have z3:=XP.c 3 rfl;have z4:=XP.c 4 rfl;have z5:=XP.c 5 rfl;have z6:=XP.c 6 rfl;have z7:=XP.c 7 rfl;have z8:=XP.c 8 rfl;have z9:=XP.c 9 rfl;have z10:=XP.c 10 rfl;have z11:=XP.c 11 rfl
       replace BP:=hide BP
       clear X9 Q9 XP HX HR HB
       go_wp2_with fail
       try rw [Exit.noGoto_ret]
       exact bodyPost_ret (v:=.tuple #[.agg #[.int .i64 0,.int .i64 0,.slice none 0 0,.int .i64 0,.int .i64 0,.slice none 0 0,.int .i64 0,.int .i64 0,.slice none 0 0,.int .i64 0,.int .i64 0,.slice none 0 0],.bool false]) (by simp [results,Tryz.results97,go_sem,z0,z1,z2,z3,z4,z5,z6,z7,z8,z9,z10,z11]) rfl ⟨.inr ⟨uH hno,rfl⟩,uH BP⟩
     ·have hno:=hide (show okF = false by
       rw [← uH HOF]
       refine hs_ends (j:=j) (t:=t) (by omega) (by omega) ?_
       unfold hsSk
       rw [← uH HPT,hk,Bool.false_and])
      have s0:=(uH S3).box.c 0 rfl;have s1:=(uH S3).box.c 1 rfl;have s2:=(uH S3).box.c 2 rfl;have s3:=(uH S3).box.c 3 rfl;have s4:=(uH S3).box.c 4 rfl;have s5:=(uH S3).box.c 5 rfl;have s6:=(uH S3).box.c 6 rfl;have s7:=(uH S3).box.c 7 rfl;have s8:=(uH S3).box.c 8 rfl;have s9:=(uH S3).box.c 9 rfl;have s10:=(uH S3).box.c 10 rfl;have s11:=(uH S3).box.c 11 rfl
      have f0:=(uH S3).box.free 0;have f1:=(uH S3).box.free 1;have f2:=(uH S3).box.free 2;have f3:=(uH S3).box.free 3;have f4:=(uH S3).box.free 4;have f5:=(uH S3).box.free 5;have f6:=(uH S3).box.free 6;have f7:=(uH S3).box.free 7;have f8:=(uH S3).box.free 8;have f9:=(uH S3).box.free 9;have f10:=(uH S3).box.free 10;have f11:=(uH S3).box.free 11
      have X:BoxL 57 ((((((((((((w3.setCell ⟨w.heap.size,0,none⟩ (.int .i64 0)).setCell ⟨w.heap.size,1,none⟩ (.int .i64 0)).setCell ⟨w.heap.size,2,none⟩ (.slice none 0 0)).setCell ⟨w.heap.size,3,none⟩ (.int .i64 0)).setCell ⟨w.heap.size,4,none⟩ (.int .i64 0)).setCell ⟨w.heap.size,5,none⟩ (.slice none 0 0)).setCell ⟨w.heap.size,6,none⟩ (.int .i64 0)).setCell ⟨w.heap.size,7,none⟩ (.int .i64 0)).setCell ⟨w.heap.size,8,none⟩ (.slice none 0 0)).setCell ⟨w.heap.size,9,none⟩ (.int .i64 0)).setCell ⟨w.heap.size,10,none⟩ (.int .i64 0)).setCell ⟨w.heap.size,11,none⟩ (.slice none 0 0)) w.heap.size [.int .i64 0,.int .i64 0,.slice none 0 0,.int .i64 0,.int .i64 0,.slice none 0 0,.int .i64 0,.int .i64 0,.slice none 0 0,.int .i64 0,.int .i64 0,.slice none 0 0]:=(uH S3).box.full [.int .i64 0,.int .i64 0,.slice none 0 0,.int .i64 0,.int .i64 0,.slice none 0 0,.int .i64 0,.int .i64 0,.slice none 0 0,.int .i64 0,.int .i64 0,.slice none 0 0] rfl
      have R:BoxL 57 ((((((((((((w3.setCell ⟨w.heap.size,0,none⟩ (.int .i64 0)).setCell ⟨w.heap.size,1,none⟩ (.int .i64 0)).setCell ⟨w.heap.size,2,none⟩ (.slice none 0 0)).setCell ⟨w.heap.size,3,none⟩ (.int .i64 0)).setCell ⟨w.heap.size,4,none⟩ (.int .i64 0)).setCell ⟨w.heap.size,5,none⟩ (.slice none 0 0)).setCell ⟨w.heap.size,6,none⟩ (.int .i64 0)).setCell ⟨w.heap.size,7,none⟩ (.int .i64 0)).setCell ⟨w.heap.size,8,none⟩ (.slice none 0 0)).setCell ⟨w.heap.size,9,none⟩ (.int .i64 0)).setCell ⟨w.heap.size,10,none⟩ (.int .i64 0)).setCell ⟨w.heap.size,11,none⟩ (.slice none 0 0)) (w.heap.size+1) [.int .i64 0,.int .i64 0,.slice none 0 0,.int .i64 0,.int .i64 0,.slice none 0 0,.int .i64 0,.int .i64 0,.slice none 0 0,.int .i64 0,.int .i64 0,.slice none 0 0]:=(uH S3).res.putO (by omega) 0 [.int .i64 0,.int .i64 0,.slice none 0 0,.int .i64 0,.int .i64 0,.slice none 0 0,.int .i64 0,.int .i64 0,.slice none 0 0,.int .i64 0,.int .i64 0,.slice none 0 0]
      have B:Below base w ((((((((((((w3.setCell ⟨w.heap.size,0,none⟩ (.int .i64 0)).setCell ⟨w.heap.size,1,none⟩ (.int .i64 0)).setCell ⟨w.heap.size,2,none⟩ (.slice none 0 0)).setCell ⟨w.heap.size,3,none⟩ (.int .i64 0)).setCell ⟨w.heap.size,4,none⟩ (.int .i64 0)).setCell ⟨w.heap.size,5,none⟩ (.slice none 0 0)).setCell ⟨w.heap.size,6,none⟩ (.int .i64 0)).setCell ⟨w.heap.size,7,none⟩ (.int .i64 0)).setCell ⟨w.heap.size,8,none⟩ (.slice none 0 0)).setCell ⟨w.heap.size,9,none⟩ (.int .i64 0)).setCell ⟨w.heap.size,10,none⟩ (.int .i64 0)).setCell ⟨w.heap.size,11,none⟩ (.slice none 0 0)):=below_putL (b:=w.heap.size) (uH HBW) [.int .i64 0,.int .i64 0,.slice none 0 0,.int .i64 0,.int .i64 0,.slice none 0 0,.int .i64 0,.int .i64 0,.slice none 0 0,.int .i64 0,.int .i64 0,.slice none 0 0] 0 (uH S3).bel
      clear hb hS hW W3 SZ KR hk
      have y0:=X.c 0 rfl;have y1:=X.c 1 rfl;have y2:=X.c 2 rfl
      have HX:=hide X;have HR:=hide R;have HB:=hide B
      clear X R B
      go_wp2_with fail
      clear y0 y1 y2 s0 s1 s2 s3 s4 s5 s6 s7 s8 s9 s10 s11 f0 f1 f2 f3 f4 f5 f6 f7 f8 f9 f10 f11 S3
      refine (clean_zero1 _).mono ?_
      rintro e w7 ⟨rfl,hb⟩
      replace HX:=hide ((uH HX).all hb);replace HR:=hide ((uH HR).all hb);replace HB:=hide ((uH HB).trans (hb.mono (Nat.le_trans (uH HBW) (uH HB).size)))
      clear hb
      have y3:=(uH HX).c 3 rfl;have y4:=(uH HX).c 4 rfl;have y5:=(uH HX).c 5 rfl
      go_wp2_with fail
      clear y3 y4 y5
      refine (clean_zero0 _).mono ?_
      rintro e w8 ⟨rfl,hb⟩
      replace HX:=hide ((uH HX).all hb);replace HR:=hide ((uH HR).all hb);replace HB:=hide ((uH HB).trans (hb.mono (Nat.le_trans (uH HBW) (uH HB).size)))
      clear hb
      have X9:=uH HX;have Q9:=uH HR
      have y0:=X9.c 0 rfl;have y1:=X9.c 1 rfl;have y2:=X9.c 2 rfl;have y3:=X9.c 3 rfl;have y4:=X9.c 4 rfl;have y5:=X9.c 5 rfl;have y6:=X9.c 6 rfl;have y7:=X9.c 7 rfl;have y8:=X9.c 8 rfl;have y9:=X9.c 9 rfl;have y10:=X9.c 10 rfl;have y11:=X9.c 11 rfl
      have s0:=Q9.c 0 rfl;have s1:=Q9.c 1 rfl;have s2:=Q9.c 2 rfl;have s3:=Q9.c 3 rfl;have s4:=Q9.c 4 rfl;have s5:=Q9.c 5 rfl;have s6:=Q9.c 6 rfl;have s7:=Q9.c 7 rfl;have s8:=Q9.c 8 rfl;have s9:=Q9.c 9 rfl;have s10:=Q9.c 10 rfl;have s11:=Q9.c 11 rfl
      have f0:=Q9.free 0;have f1:=Q9.free 1;have f2:=Q9.free 2;have f3:=Q9.free 3;have f4:=Q9.free 4;have f5:=Q9.free 5;have f6:=Q9.free 6;have f7:=Q9.free 7;have f8:=Q9.free 8;have f9:=Q9.free 9;have f10:=Q9.free 10;have f11:=Q9.free 11
      have XP:BoxL 57 ((((((((((((w8.setCell ⟨w.heap.size+1,0,none⟩ (.int .i64 0)).setCell ⟨w.heap.size+1,1,none⟩ (.int .i64 0)).setCell ⟨w.heap.size+1,2,none⟩ (.slice none 0 0)).setCell ⟨w.heap.size+1,3,none⟩ (.int .i64 0)).setCell ⟨w.heap.size+1,4,none⟩ (.int .i64 0)).setCell ⟨w.heap.size+1,5,none⟩ (.slice none 0 0)).setCell ⟨w.heap.size+1,6,none⟩ (.int .i64 0)).setCell ⟨w.heap.size+1,7,none⟩ (.int .i64 0)).setCell ⟨w.heap.size+1,8,none⟩ (.slice none 0 0)).setCell ⟨w.heap.size+1,9,none⟩ (.int .i64 0)).setCell ⟨w.heap.size+1,10,none⟩ (.int .i64 0)).setCell ⟨w.heap.size+1,11,none⟩ (.slice none 0 0)) (w.heap.size+1) [.int .i64 0,.int .i64 0,.slice none 0 0,.int .i64 0,.int .i64 0,.slice none 0 0,.int .i64 0,.int .i64 0,.slice none 0 0,.int .i64 0,.int .i64 0,.slice none 0 0]:=Q9.full [.int .i64 0,.int .i64 0,.slice none 0 0,.int .i64 0,.int .i64 0,.slice none 0 0,.int .i64 0,.int .i64 0,.slice none 0 0,.int .i64 0,.int .i64 0,.slice none 0 0] rfl
      have BP:Below base w ((((((((((((w8.setCell ⟨w.heap.size+1,0,none⟩ (.int .i64 0)).setCell ⟨w.heap.size+1,1,none⟩ (.int .i64 0)).setCell ⟨w.heap.size+1,2,none⟩ (.slice none 0 0)).setCell ⟨w.heap.size+1,3,none⟩ (.int .i64 0)).setCell ⟨w.heap.size+1,4,none⟩ (.int .i64 0)).setCell ⟨w.heap.size+1,5,none⟩ (.slice none 0 0)).setCell ⟨w.heap.size+1,6,none⟩ (.int .i64 0)).setCell ⟨w.heap.size+1,7,none⟩ (.int .i64 0)).setCell ⟨w.heap.size+1,8,none⟩ (.slice none 0 0)).setCell ⟨w.heap.size+1,9,none⟩ (.int .i64 0)).setCell ⟨w.heap.size+1,10,none⟩ (.int .i64 0)).setCell ⟨w.heap.size+1,11,none⟩ (.slice none 0 0)):=below_putL (b:=w.heap.size+1) (by have:=uH HBW;omega) [.int .i64 0,.int .i64 0,.slice none 0 0,.int .i64 0,.int .i64 0,.slice none 0 0,.int .i64 0,.int .i64 0,.slice none 0 0,.int .i64 0,.int .i64 0,.slice none 0 0] 0 (uH HB)
      have z0:=XP.c 0 rfl;have z1:=XP.c 1 rfl;have z2:=XP.c 2 rfl;have z3:=XP.c 3 rfl;have z4:=XP.c 4 rfl;have z5:=XP.c 5 rfl;have z6:=XP.c 6 rfl;have z7:=XP.c 7 rfl;have z8:=XP.c 8 rfl;have z9:=XP.c 9 rfl;have z10:=XP.c 10 rfl;have z11:=XP.c 11 rfl
      replace BP:=hide BP
      clear X9 Q9 XP HX HR HB
      go_wp2_with fail
      try rw [Exit.noGoto_ret]
      exact bodyPost_ret (v:=.tuple #[.agg #[.int .i64 0,.int .i64 0,.slice none 0 0,.int .i64 0,.int .i64 0,.slice none 0 0,.int .i64 0,.int .i64 0,.slice none 0 0,.int .i64 0,.int .i64 0,.slice none 0 0],.bool false]) (by simp [results,Tryz.results97,go_sem,z0,z1,z2,z3,z4,z5,z6,z7,z8,z9,z10,z11]) rfl ⟨.inr ⟨uH hno,rfl⟩,uH BP⟩
end Go.Proofs.YtlnphkioddknfaaGreatDoor
namespace Go.Proofs.YtlnphkioddknfaaGreatDoor
open Go.RowKit
attribute [local go_sem ↓] Go.wp_at_zero Go.wp_at_succ
structure BgSt (w wr:World) (x0 x1 x2 y0 y1 y2:Value):Prop where
 bel:Below w.heap.size w wr
 a:BoxM wr w.heap.size x0 x1 x2
 b:BoxM wr (w.heap.size+1) y0 y1 y2
 res:BoxL 57 wr (w.heap.size+1+1) [.int .i64 0,.int .i64 0,.slice none 0 0,.int .i64 0,.int .i64 0,.slice none 0 0,.int .i64 0,.int .i64 0,.slice none 0 0,.int .i64 0,.int .i64 0,.slice none 0 0]
theorem BgSt.all {w wr w':World} {x0 x1 x2 y0 y1 y2:Value} (s:BgSt w wr x0 x1 x2 y0 y1 y2) (hb:Below wr.heap.size wr w'):BgSt w w' x0 x1 x2 y0 y1 y2:=⟨s.bel.trans (hb.mono s.bel.size),s.a.all hb,s.b.all hb,s.res.all hb⟩
theorem BgSt.start (w:World) (x0 x1 x2 y0 y1 y2:Value):BgSt w (((w.alloc (.cells #[x0,x1,x2] 24)).alloc (.cells #[y0,y1,y2] 24)).alloc (.cells #[.int .i64 0,.int .i64 0,.slice none 0 0,.int .i64 0,.int .i64 0,.slice none 0 0,.int .i64 0,.int .i64 0,.slice none 0 0,.int .i64 0,.int .i64 0,.slice none 0 0] 57)) x0 x1 x2 y0 y1 y2:=by
 have b0:=below_alloc9 w (.cells #[x0,x1,x2] 24)
 have s0:=size_alloc9 w (.cells #[x0,x1,x2] 24)
 have h0:=BoxM.new w x0 x1 x2
 generalize w.alloc (.cells #[x0,x1,x2] 24) = wa at *
 have b1:=below_alloc9 wa (.cells #[y0,y1,y2] 24)
 have s1:=size_alloc9 wa (.cells #[y0,y1,y2] 24)
 have h1:=BoxM.new wa y0 y1 y2
 have h01:=h0.all b1
 generalize wa.alloc (.cells #[y0,y1,y2] 24) = wb at *
 have b2:=below_alloc9 wb (.cells #[.int .i64 0,.int .i64 0,.slice none 0 0,.int .i64 0,.int .i64 0,.slice none 0 0,.int .i64 0,.int .i64 0,.slice none 0 0,.int .i64 0,.int .i64 0,.slice none 0 0] 57)
 have h2:=BoxL.new 57 wb [.int .i64 0,.int .i64 0,.slice none 0 0,.int .i64 0,.int .i64 0,.slice none 0 0,.int .i64 0,.int .i64 0,.slice none 0 0,.int .i64 0,.int .i64 0,.slice none 0 0]
 rw [s0] at s1 h1
 rw [s1] at h2
 have c1:=b0.trans (b1.mono b0.size)
 exact ⟨c1.trans (b2.mono c1.size),h01.all b2,h1.all b2,h2⟩
def BgAns (base:Nat) (w':World) (n N:Nat) (kt:Bool) (s:Hs) (e:Ending):Prop:=∃ ho uo qo zo hc tc qc zc,e = .returned (.tuple #[.agg #[.int .i64 n,.int .i64 n,.slice ho N hc,.int .i64 n,.int .i64 n,.slice uo N tc,.int .i64 n,.int .i64 n,.slice qo N qc,.int .i64 n,.int .i64 n,.slice zo N zc],.int .i64 0])∧HvAt base w' N false kt s ho uo qo zo hc tc qc zc
theorem noBitsZ:∀ v ∈ ([.int .i64 0,.int .i64 0,.slice none 0 0,.int .i64 0,.int .i64 0,.slice none 0 0,.int .i64 0,.int .i64 0,.slice none 0 0,.int .i64 0,.int .i64 0,.slice none 0 0]:List Value),∀ z,v ≠ .int .u64 z:=by
 intro v hv z
 simp only [List.mem_cons,List.not_mem_nil,or_false] at hv
 rcases hv with rfl | rfl | rfl | rfl | rfl | rfl | rfl | rfl | rfl | rfl | rfl | rfl <;> simp
theorem begun_no_of (n N ac bc:Nat) (ao bo:Option Addr) (w:World)
  (C1:∀ w',Below w.heap.size w w'→Calls Tryz.prog 124 #[.agg #[.int .i64 n,.int .i64 n,.slice bo N bc]] w' fun e w''=>∃ v u,e = .returned (.tuple #[v,u,.int .i64 2])∧NewM w'.heap.size w'' 0 0 [] v∧NewM w'.heap.size w'' 0 0 [] u∧Below w'.heap.size w' w'') :
  Calls Tryz.prog 96 #[.agg #[.int .i64 n,.int .i64 n,.slice ao N ac],.agg #[.int .i64 n,.int .i64 n,.slice bo N bc]] w fun e w'=>e = .returned (.tuple #[.agg #[.int .i64 0,.int .i64 0,.slice none 0 0,.int .i64 0,.int .i64 0,.slice none 0 0,.int .i64 0,.int .i64 0,.slice none 0 0,.int .i64 0,.int .i64 0,.slice none 0 0],.int .i64 2])∧Below w.heap.size w w':=by
 have HS:=hide (BgSt.start w (.int .i64 n) (.int .i64 n) (.slice ao N ac) (.int .i64 n) (.int .i64 n) (.slice bo N bc))
 have K1:=hide C1
 clear C1
 have y0:=(uH HS).b.c0;have y1:=(uH HS).b.c1;have y2:=(uH HS).b.c2
 go_enter Tryz.func96,Tryz.ntmps96
 go_wp2_with fail
 clear y0 y1 y2
 refine (uH K1 _ (uH HS).bel).mono ?_
 rintro e w1 ⟨v,u,rfl,⟨vo,vc,rfl,_,_⟩,⟨yo,yc,rfl,_,_⟩,hb⟩
 have ba1:=below_alloc9 w1 (.cells #[.int .i64 0,.int .i64 0,.slice vo 0 vc] 24)
 have ba2:=below_alloc9 (w1.alloc (.cells #[.int .i64 0,.int .i64 0,.slice vo 0 vc] 24)) (.cells #[.int .i64 0,.int .i64 0,.slice yo 0 yc] 24)
 replace HS:=hide ((((uH HS).all hb).all ba1).all ba2)
 clear hb K1 ba1 ba2
 have s0:=(uH HS).res.c 0 rfl;have s1:=(uH HS).res.c 1 rfl;have s2:=(uH HS).res.c 2 rfl;have s3:=(uH HS).res.c 3 rfl;have s4:=(uH HS).res.c 4 rfl;have s5:=(uH HS).res.c 5 rfl;have s6:=(uH HS).res.c 6 rfl;have s7:=(uH HS).res.c 7 rfl;have s8:=(uH HS).res.c 8 rfl;have s9:=(uH HS).res.c 9 rfl;have s10:=(uH HS).res.c 10 rfl;have s11:=(uH HS).res.c 11 rfl
 have f0:=(uH HS).res.free 0;have f1:=(uH HS).res.free 1;have f2:=(uH HS).res.free 2;have f3:=(uH HS).res.free 3;have f4:=(uH HS).res.free 4;have f5:=(uH HS).res.free 5;have f6:=(uH HS).res.free 6;have f7:=(uH HS).res.free 7;have f8:=(uH HS).res.free 8;have f9:=(uH HS).res.free 9;have f10:=(uH HS).res.free 10;have f11:=(uH HS).res.free 11
 have XP:BoxL 57 ((((((((((((((w1.alloc (.cells #[.int .i64 0,.int .i64 0,.slice vo 0 vc] 24)).alloc (.cells #[.int .i64 0,.int .i64 0,.slice yo 0 yc] 24)).setCell ⟨w.heap.size+1+1,0,none⟩ (.int .i64 0)).setCell ⟨w.heap.size+1+1,1,none⟩ (.int .i64 0)).setCell ⟨w.heap.size+1+1,2,none⟩ (.slice none 0 0)).setCell ⟨w.heap.size+1+1,3,none⟩ (.int .i64 0)).setCell ⟨w.heap.size+1+1,4,none⟩ (.int .i64 0)).setCell ⟨w.heap.size+1+1,5,none⟩ (.slice none 0 0)).setCell ⟨w.heap.size+1+1,6,none⟩ (.int .i64 0)).setCell ⟨w.heap.size+1+1,7,none⟩ (.int .i64 0)).setCell ⟨w.heap.size+1+1,8,none⟩ (.slice none 0 0)).setCell ⟨w.heap.size+1+1,9,none⟩ (.int .i64 0)).setCell ⟨w.heap.size+1+1,10,none⟩ (.int .i64 0)).setCell ⟨w.heap.size+1+1,11,none⟩ (.slice none 0 0)) (w.heap.size+1+1) [.int .i64 0,.int .i64 0,.slice none 0 0,.int .i64 0,.int .i64 0,.slice none 0 0,.int .i64 0,.int .i64 0,.slice none 0 0,.int .i64 0,.int .i64 0,.slice none 0 0]:=(uH HS).res.full [.int .i64 0,.int .i64 0,.slice none 0 0,.int .i64 0,.int .i64 0,.slice none 0 0,.int .i64 0,.int .i64 0,.slice none 0 0,.int .i64 0,.int .i64 0,.slice none 0 0] rfl
 have BP:Below w.heap.size w ((((((((((((((w1.alloc (.cells #[.int .i64 0,.int .i64 0,.slice vo 0 vc] 24)).alloc (.cells #[.int .i64 0,.int .i64 0,.slice yo 0 yc] 24)).setCell ⟨w.heap.size+1+1,0,none⟩ (.int .i64 0)).setCell ⟨w.heap.size+1+1,1,none⟩ (.int .i64 0)).setCell ⟨w.heap.size+1+1,2,none⟩ (.slice none 0 0)).setCell ⟨w.heap.size+1+1,3,none⟩ (.int .i64 0)).setCell ⟨w.heap.size+1+1,4,none⟩ (.int .i64 0)).setCell ⟨w.heap.size+1+1,5,none⟩ (.slice none 0 0)).setCell ⟨w.heap.size+1+1,6,none⟩ (.int .i64 0)).setCell ⟨w.heap.size+1+1,7,none⟩ (.int .i64 0)).setCell ⟨w.heap.size+1+1,8,none⟩ (.slice none 0 0)).setCell ⟨w.heap.size+1+1,9,none⟩ (.int .i64 0)).setCell ⟨w.heap.size+1+1,10,none⟩ (.int .i64 0)).setCell ⟨w.heap.size+1+1,11,none⟩ (.slice none 0 0)):=below_putL (b:=w.heap.size+1+1) (by omega) [.int .i64 0,.int .i64 0,.slice none 0 0,.int .i64 0,.int .i64 0,.slice none 0 0,.int .i64 0,.int .i64 0,.slice none 0 0,.int .i64 0,.int .i64 0,.slice none 0 0] 0 (uH HS).bel
 have z0:=XP.c 0 rfl;have z1:=XP.c 1 rfl;have z2:=XP.c 2 rfl;have z3:=XP.c 3 rfl;have z4:=XP.c 4 rfl;have z5:=XP.c 5 rfl;have z6:=XP.c 6 rfl;have z7:=XP.c 7 rfl;have z8:=XP.c 8 rfl;have z9:=XP.c 9 rfl;have z10:=XP.c 10 rfl;have z11:=XP.c 11 rfl
 replace BP:=hide BP
 clear XP HS
 go_wp2_with fail
 exact bodyPost_ret (v:=.tuple #[.agg #[.int .i64 0,.int .i64 0,.slice none 0 0,.int .i64 0,.int .i64 0,.slice none 0 0,.int .i64 0,.int .i64 0,.slice none 0 0,.int .i64 0,.int .i64 0,.slice none 0 0],.int .i64 2]) (by simp [results,Tryz.results96,go_sem,z0,z1,z2,z3,z4,z5,z6,z7,z8,z9,z10,z11]) rfl ⟨rfl,uH BP⟩
theorem begun_of (n N ac bc K:Nat) (ao bo:Option Addr) (H T Q Z:List Nat) (w:World) (lT:T.length = N) (hKP:0 < K→0 < N)
  (C1:∀ w',Below w.heap.size w w'→Calls Tryz.prog 124 #[.agg #[.int .i64 n,.int .i64 n,.slice bo N bc]] w' fun e w''=>FacYes w' w'' n n N N K Q T e∧Below w'.heap.size w' w'')
  (C2:∀ w' qo qc,Below w.heap.size w w'→BitsAt w' qo qc (mxL Q)→Calls Tryz.prog 72 #[.agg #[.int .i64 n,.int .i64 n,.slice qo N qc],.agg #[.int .i64 n,.int .i64 n,.slice ao N ac]] w' fun e w''=>∃ ho hc,e = .returned (.tuple #[.agg #[.int .i64 n,.int .i64 n,.slice ho N hc],.int .i64 0])∧NewB w'.heap.size ho (mxL H)∧BitsAt w'' ho hc (mxL H)∧Below w'.heap.size w' w'')
  (C3:∀ w',Below w.heap.size w w'→Calls Tryz.prog 149 #[.int .i64 n] w' fun e w''=>∃ zo zc,e = .returned (.tuple #[.agg #[.int .i64 n,.int .i64 n,.slice zo N zc],.int .i64 0])∧NewB w'.heap.size zo (mxL Z)∧BitsAt w'' zo zc (mxL Z)∧Below w'.heap.size w' w'') :
  Calls Tryz.prog 96 #[.agg #[.int .i64 n,.int .i64 n,.slice ao N ac],.agg #[.int .i64 n,.int .i64 n,.slice bo N bc]] w fun e w'=>BgAns w.heap.size w' n N (decide (0 < K)) ⟨H,T,Q,Z⟩ e∧Below w.heap.size w w':=by
 obtain ⟨kk,hkk⟩:∃ b,decide (0 < K) = b:=⟨_,rfl⟩
 rw [hkk]
 have HKK:=hide hkk;have LT:=hide lT
 clear hkk lT
 have HS:=hide (BgSt.start w (.int .i64 n) (.int .i64 n) (.slice ao N ac) (.int .i64 n) (.int .i64 n) (.slice bo N bc))
 have K1:=hide C1;have K2:=hide C2;have K3:=hide C3;have HKP:=hide hKP
 clear C1 C2 C3 hKP
 have y0:=(uH HS).b.c0;have y1:=(uH HS).b.c1;have y2:=(uH HS).b.c2
 go_enter Tryz.func96,Tryz.ntmps96
 go_wp2_with fail
 clear y0 y1 y2
 refine (uH K1 _ (uH HS).bel).mono ?_
 rintro e w1 ⟨⟨qo,qc,uo,tc,rfl,hnq,hq,hnt,ht,hrow,hoff⟩,hb⟩
 have ba1:=below_alloc9 w1 (.cells #[.int .i64 n,.int .i64 n,.slice qo N qc] 24)
 have sa1:=size_alloc9 w1 (.cells #[.int .i64 n,.int .i64 n,.slice qo N qc] 24)
 have xq:=BoxM.new w1 (.int .i64 n) (.int .i64 n) (.slice qo N qc)
 have ba2:=below_alloc9 (w1.alloc (.cells #[.int .i64 n,.int .i64 n,.slice qo N qc] 24)) (.cells #[.int .i64 n,.int .i64 n,.slice uo N tc] 24)
 have xt:=BoxM.new (w1.alloc (.cells #[.int .i64 n,.int .i64 n,.slice qo N qc] 24)) (.int .i64 n) (.int .i64 n) (.slice uo N tc)
 rw [sa1] at xt
 have SZ1:=(uH HS).bel.size
 have HNQ:=hide (hnq.least SZ1);have HNT:=hide (hnt.least SZ1)
 have HQ:=hide ((hq.below ba1).below ba2);have HTT:=hide ((ht.below ba1).below ba2);have HRW:=hide ((RowIf.all hrow ba1).all ba2)
 have HOF:=hide hoff
 have XQ:=hide (xq.all ba2);have XT:=hide xt
 replace HS:=hide ((((uH HS).all hb).all ba1).all ba2)
 clear hb ba1 sa1 xq ba2 xt SZ1 hnq hq hnt ht hrow hoff K1
 have y0:=(uH XQ).c0;have y1:=(uH XQ).c1;have y2:=(uH XQ).c2
 have u0:=(uH HS).a.c0;have u1:=(uH HS).a.c1;have u2:=(uH HS).a.c2
 go_wp2_with fail
 clear y0 y1 y2 u0 u1 u2
 refine (uH K2 _ qo qc (uH HS).bel (uH HQ)).mono ?_
 rintro e w2 ⟨ho,hc,rfl,hnh,hh,hb⟩
 have ba:=below_alloc9 w2 (.cells #[.int .i64 n,.int .i64 n,.slice ho N hc] 24)
 have HO2:=hide (show ∀ g,RowIf K N (((w1.alloc (.cells #[.int .i64 n,.int .i64 n,.slice qo N qc] 24)).alloc (.cells #[.int .i64 n,.int .i64 n,.slice uo N tc] 24))) uo tc T→0 < K→uo = some ⟨g,0,none⟩→OffB (some g) ho (mxL H) from fun g hr hk e=>by
  obtain ⟨g',e',_,r⟩:=hr hk
  rw [e'] at e
  cases e
  exact OffB.new hnh (fun k ek=>by cases ek;exact r.lt))
 replace HO2:=hide (fun g=>uH HO2 g (uH HRW))
 have XH:=hide (BoxM.new w2 (.int .i64 n) (.int .i64 n) (.slice ho N hc))
 have HNH:=hide (hnh.least (uH HS).bel.size)
 have HH:=hide (hh.below ba)
 replace HQ:=hide (((uH HQ).below hb).below ba);replace HTT:=hide (((uH HTT).below hb).below ba);replace HRW:=hide (((uH HRW).all hb).all ba)
 replace XQ:=hide (((uH XQ).all hb).all ba);replace XT:=hide (((uH XT).all hb).all ba)
 replace HS:=hide (((uH HS).all hb).all ba)
 clear hb ba hnh hh K2
 have u0:=(uH HS).a.c0
 go_wp2_with fail
 clear u0
 refine (uH K3 _ (uH HS).bel).mono ?_
 rintro e w3 ⟨zo,zc,rfl,hnz,hz,hb⟩
 have ba:=below_alloc9 w3 (.cells #[.int .i64 n,.int .i64 n,.slice zo N zc] 24)
 have HO3:=hide (show 0 < K→∀ g,uo = some ⟨g,0,none⟩→OffB (some g) zo (mxL Z) from fun hk g e=>by
  obtain ⟨g',e',_,r⟩:=uH HRW hk
  rw [e'] at e
  cases e
  exact OffB.new hnz (fun k ek=>by cases ek;exact r.lt))
 have XZ:=hide (BoxM.new w3 (.int .i64 n) (.int .i64 n) (.slice zo N zc))
 have HNZ:=hide (hnz.least (uH HS).bel.size)
 have HZ:=hide (hz.below ba)
 replace HH:=hide (((uH HH).below hb).below ba)
 replace HQ:=hide (((uH HQ).below hb).below ba);replace HTT:=hide (((uH HTT).below hb).below ba);replace HRW:=hide (((uH HRW).all hb).all ba)
 replace XH:=hide (((uH XH).all hb).all ba);replace XQ:=hide (((uH XQ).all hb).all ba);replace XT:=hide (((uH XT).all hb).all ba)
 replace HS:=hide (((uH HS).all hb).all ba)
 clear hb ba hnz hz K3
 have p0:=(uH XH).c0;have p1:=(uH XH).c1;have p2:=(uH XH).c2;have p3:=(uH XT).c0;have p4:=(uH XT).c1;have p5:=(uH XT).c2;have p6:=(uH XQ).c0;have p7:=(uH XQ).c1;have p8:=(uH XQ).c2;have p9:=(uH XZ).c0;have q10:=(uH XZ).c1;have q11:=(uH XZ).c2
 have hres:=(uH HS).res
 have s0:=hres.c 0 rfl;have s1:=hres.c 1 rfl;have s2:=hres.c 2 rfl;have s3:=hres.c 3 rfl;have s4:=hres.c 4 rfl;have s5:=hres.c 5 rfl;have s6:=hres.c 6 rfl;have s7:=hres.c 7 rfl;have s8:=hres.c 8 rfl;have s9:=hres.c 9 rfl;have s10:=hres.c 10 rfl;have s11:=hres.c 11 rfl
 have f0:=hres.free 0;have f1:=hres.free 1;have f2:=hres.free 2;have f3:=hres.free 3;have f4:=hres.free 4;have f5:=hres.free 5;have f6:=hres.free 6;have f7:=hres.free 7;have f8:=hres.free 8;have f9:=hres.free 9;have f10:=hres.free 10;have f11:=hres.free 11
 have XP:BoxL 57 (((((((((((((w3.alloc (.cells #[.int .i64 n,.int .i64 n,.slice zo N zc] 24)).setCell ⟨w.heap.size+1+1,0,none⟩ (.int .i64 n)).setCell ⟨w.heap.size+1+1,1,none⟩ (.int .i64 n)).setCell ⟨w.heap.size+1+1,2,none⟩ (.slice ho N hc)).setCell ⟨w.heap.size+1+1,3,none⟩ (.int .i64 n)).setCell ⟨w.heap.size+1+1,4,none⟩ (.int .i64 n)).setCell ⟨w.heap.size+1+1,5,none⟩ (.slice uo N tc)).setCell ⟨w.heap.size+1+1,6,none⟩ (.int .i64 n)).setCell ⟨w.heap.size+1+1,7,none⟩ (.int .i64 n)).setCell ⟨w.heap.size+1+1,8,none⟩ (.slice qo N qc)).setCell ⟨w.heap.size+1+1,9,none⟩ (.int .i64 n)).setCell ⟨w.heap.size+1+1,10,none⟩ (.int .i64 n)).setCell ⟨w.heap.size+1+1,11,none⟩ (.slice zo N zc)) (w.heap.size+1+1) [.int .i64 n,.int .i64 n,.slice ho N hc,.int .i64 n,.int .i64 n,.slice uo N tc,.int .i64 n,.int .i64 n,.slice qo N qc,.int .i64 n,.int .i64 n,.slice zo N zc]:=hres.full [.int .i64 n,.int .i64 n,.slice ho N hc,.int .i64 n,.int .i64 n,.slice uo N tc,.int .i64 n,.int .i64 n,.slice qo N qc,.int .i64 n,.int .i64 n,.slice zo N zc] rfl
 have BP:Below w.heap.size w (((((((((((((w3.alloc (.cells #[.int .i64 n,.int .i64 n,.slice zo N zc] 24)).setCell ⟨w.heap.size+1+1,0,none⟩ (.int .i64 n)).setCell ⟨w.heap.size+1+1,1,none⟩ (.int .i64 n)).setCell ⟨w.heap.size+1+1,2,none⟩ (.slice ho N hc)).setCell ⟨w.heap.size+1+1,3,none⟩ (.int .i64 n)).setCell ⟨w.heap.size+1+1,4,none⟩ (.int .i64 n)).setCell ⟨w.heap.size+1+1,5,none⟩ (.slice uo N tc)).setCell ⟨w.heap.size+1+1,6,none⟩ (.int .i64 n)).setCell ⟨w.heap.size+1+1,7,none⟩ (.int .i64 n)).setCell ⟨w.heap.size+1+1,8,none⟩ (.slice qo N qc)).setCell ⟨w.heap.size+1+1,9,none⟩ (.int .i64 n)).setCell ⟨w.heap.size+1+1,10,none⟩ (.int .i64 n)).setCell ⟨w.heap.size+1+1,11,none⟩ (.slice zo N zc)):=below_putL (b:=w.heap.size+1+1) (by omega) [.int .i64 n,.int .i64 n,.slice ho N hc,.int .i64 n,.int .i64 n,.slice uo N tc,.int .i64 n,.int .i64 n,.slice qo N qc,.int .i64 n,.int .i64 n,.slice zo N zc] 0 (uH HS).bel
 have P:=fun {ao:Option Addr} {c:Nat} {I:List Int} (h:BitsAt (w3.alloc (.cells #[.int .i64 n,.int .i64 n,.slice zo N zc] 24)) ao c I)=>bits_putL (b:=w.heap.size+1+1) (hres.off noBitsZ h) [.int .i64 n,.int .i64 n,.slice ho N hc,.int .i64 n,.int .i64 n,.slice uo N tc,.int .i64 n,.int .i64 n,.slice qo N qc,.int .i64 n,.int .i64 n,.slice zo N zc] 0 h
 have VP:HvAt w.heap.size (((((((((((((w3.alloc (.cells #[.int .i64 n,.int .i64 n,.slice zo N zc] 24)).setCell ⟨w.heap.size+1+1,0,none⟩ (.int .i64 n)).setCell ⟨w.heap.size+1+1,1,none⟩ (.int .i64 n)).setCell ⟨w.heap.size+1+1,2,none⟩ (.slice ho N hc)).setCell ⟨w.heap.size+1+1,3,none⟩ (.int .i64 n)).setCell ⟨w.heap.size+1+1,4,none⟩ (.int .i64 n)).setCell ⟨w.heap.size+1+1,5,none⟩ (.slice uo N tc)).setCell ⟨w.heap.size+1+1,6,none⟩ (.int .i64 n)).setCell ⟨w.heap.size+1+1,7,none⟩ (.int .i64 n)).setCell ⟨w.heap.size+1+1,8,none⟩ (.slice qo N qc)).setCell ⟨w.heap.size+1+1,9,none⟩ (.int .i64 n)).setCell ⟨w.heap.size+1+1,10,none⟩ (.int .i64 n)).setCell ⟨w.heap.size+1+1,11,none⟩ (.slice zo N zc)) N false kk ⟨H,T,Q,Z⟩ ho uo qo zo hc tc qc zc:=⟨P (uH HH),P (uH HTT),P (uH HQ),P (uH HZ),uH HNH,uH HNT,uH HNQ,uH HNZ,fun hk=>by (cases hk),fun hk=>by
  have hk:=of_decide_eq_true ((uH HKK).trans hk)
  obtain ⟨g,e1,e2,r⟩:=uH HRW hk
  have hg:w.heap.size≤g:=by
   rcases uH HNT with e | ⟨k,off,e3,e4⟩
   ·exfalso
    have hl:(mxL T).length = 0:=by rw [e];rfl
    have:=hres.lt
    have z:T = []:=List.eq_nil_of_length_eq_zero (by rw [mxL_len] at hl;exact hl)
    exact absurd (uH HKP hk) (by rw [← uH LT,z];decide)
   ·rw [e1] at e3;cases e3;exact e4
  exact ⟨g,e1,e2,hg,r.putL (hres.row (by decide) r) 0 [.int .i64 n,.int .i64 n,.slice ho N hc,.int .i64 n,.int .i64 n,.slice uo N tc,.int .i64 n,.int .i64 n,.slice qo N qc,.int .i64 n,.int .i64 n,.slice zo N zc],uH HO2 g hk e1,uH HOF hk g e1,uH HO3 hk g e1⟩⟩
 have z0:=XP.c 0 rfl;have z1:=XP.c 1 rfl;have z2:=XP.c 2 rfl;have z3:=XP.c 3 rfl;have z4:=XP.c 4 rfl;have z5:=XP.c 5 rfl;have z6:=XP.c 6 rfl;have z7:=XP.c 7 rfl;have z8:=XP.c 8 rfl;have z9:=XP.c 9 rfl;have z10:=XP.c 10 rfl;have z11:=XP.c 11 rfl
 replace BP:=hide BP;replace VP:=hide VP
 clear XP P hres HS XH XT XQ XZ HH HTT HQ HZ HRW HNH HNT HNQ HNZ HO2 HO3 HOF
 go_wp2_with fail
 exact bodyPost_ret (v:=.tuple #[.agg #[.int .i64 n,.int .i64 n,.slice ho N hc,.int .i64 n,.int .i64 n,.slice uo N tc,.int .i64 n,.int .i64 n,.slice qo N qc,.int .i64 n,.int .i64 n,.slice zo N zc],.int .i64 0]) (by simp [results,Tryz.results96,go_sem,z0,z1,z2,z3,z4,z5,z6,z7,z8,z9,z10,z11]) rfl ⟨⟨ho,uo,qo,zo,hc,tc,qc,zc,rfl,uH VP⟩,uH BP⟩
theorem HvAt.ok {base:Nat} {W:World} {n N:Nat} {kh kt:Bool} {s:Hs} {ho uo qo zo:Option Addr} {hc tc qc zc:Nat} (v:HvAt base W N kh kt s ho uo qo zo hc tc qc zc) (l:s.H.length = n * n∧s.T.length = n * n∧s.Q.length = n * n∧s.Z.length = n * n):HsOk n s:=⟨l,v.h.nat,v.t.nat,v.q.nat,v.z.nat⟩
theorem HvAt.least {base base':Nat} {W:World} {N:Nat} {kh kt:Bool} {s:Hs} {ho uo qo zo:Option Addr} {hc tc qc zc:Nat} (v:HvAt base W N kh kt s ho uo qo zo hc tc qc zc) (h:base'≤base):HvAt base' W N kh kt s ho uo qo zo hc tc qc zc:=⟨v.h,v.t,v.q,v.z,v.nh.least h,v.nt.least h,v.nq.least h,v.nz.least h,fun hk=>by
  obtain ⟨g,e1,e2,e3,r⟩:=v.wh hk
  exact ⟨g,e1,e2,Nat.le_trans h e3,r⟩,fun hk=>by
  obtain ⟨g,e1,e2,e3,r⟩:=v.wt hk
  exact ⟨g,e1,e2,Nat.le_trans h e3,r⟩⟩
theorem hsB_len (n:Nat) (A B:List Nat) (hB:B.length = n * n):(hsB n A B).H.length = n * n∧(hsB n A B).T.length = n * n∧(hsB n A B).Q.length = n * n∧(hsB n A B).Z.length = n * n :=
 ⟨show (muM n n n (tuM n n (facQ n n B)) A).length = n * n from mkM_len _ _ _,qrR_len n n B hB _,qrQ_len _ _ _ _ _,show (eyM n).length = n * n from mkM_len _ _ _⟩
theorem begun_yes (n ac bc:Nat) (ao bo:Option Addr) (A B:List Nat) (w:World) (hA:Mx w ao ac n n A) (hB:Mx w bo bc n n B) (fB:finL B = true) (hk:facK n n B = true) (hT:Tab w) :
  Calls Tryz.prog 96 #[.agg #[.int .i64 n,.int .i64 n,.slice ao (n * n) ac],.agg #[.int .i64 n,.int .i64 n,.slice bo (n * n) bc]] w fun e w'=>BgAns w.heap.size w' n (n * n) (decide (0 < qrN n n)) (hsB n A B) e∧Below w.heap.size w w':=by
 obtain ⟨l1,l2,l3,l4⟩:=hsB_len n A B hB.2.1
 refine begun_of n (n * n) ac bc (qrN n n) ao bo _ _ _ _ w l2 (fun h=>?_) (fun w' hb=>?_) (fun w' qo qc hb hq=>?_) (fun w' hb=>?_)
 ·have:0 < n:=by unfold qrN at h;omega
  exact Nat.mul_pos this this
 ·have:=qFactor_row n n bc bo B w' (hB.below hb) fB (hT.all hb)
  rw [hB.2.1] at this
  refine this.mono ?_
  rintro e w'' ⟨⟨_,h⟩ | ⟨h,_⟩,hb2⟩
  ·exact ⟨h,hb2⟩
  ·rw [hk] at h;cases h
 ·have:=qTurned_yes n n n qc ac qo ao (facQ n n B) A w' ⟨hq,l3,hB.2.2.1,hB.2.2.1⟩ (hA.below hb) (hT.all hb)
  rw [hA.2.1,show (facQ n n B).length = n * n from l3] at this
  refine this.mono ?_
  rintro e w'' ⟨v,rfl,⟨po,pc,rfl,h1,h2⟩,hb2⟩
  exact ⟨po,pc,by rw [show (muM n n n (tuM n n (facQ n n B)) A).length = n * n from l1],h1,h2,hb2⟩
 ·refine (mEye_ok n w' hB.2.2.1).mono ?_
  rintro e w'' ⟨v,rfl,⟨po,pc,rfl,h1,h2⟩,hb2⟩
  exact ⟨po,pc,by rw [show (eyM n).length = n * n from l4],h1,h2,hb2⟩
theorem begun_no (n ac bc:Nat) (ao bo:Option Addr) (B:List Nat) (w:World) (hB:Mx w bo bc n n B) (fB:finL B = true) (hk:facK n n B = false) (hT:Tab w) :
  Calls Tryz.prog 96 #[.agg #[.int .i64 n,.int .i64 n,.slice ao (n * n) ac],.agg #[.int .i64 n,.int .i64 n,.slice bo (n * n) bc]] w fun e w'=>e = .returned (.tuple #[.agg #[.int .i64 0,.int .i64 0,.slice none 0 0,.int .i64 0,.int .i64 0,.slice none 0 0,.int .i64 0,.int .i64 0,.slice none 0 0,.int .i64 0,.int .i64 0,.slice none 0 0],.int .i64 2])∧Below w.heap.size w w' :=
 begun_no_of n (n * n) ac bc ao bo w (fun w' hb=>by
  have:=qFactor_no n n bc bo B w' (hB.below hb) fB hk (hT.all hb)
  rw [hB.2.1] at this
  exact this)
end Go.Proofs.YtlnphkioddknfaaGreatDoor
namespace Go.Proofs.YtlnphkioddknfaaGreatDoor
open Go.RowKit
attribute [local go_sem ↓] Go.wp_at_zero Go.wp_at_succ
theorem ck_mx {w:World} {ao:Option Addr} {cap r c:Nat} {S:List Nat} (h:Mx w ao cap r c S) (hf:finL S = true):ckE (r:Int) (c:Int) (mxL S) = 0:=by
 unfold ckE
 rw [mxL_len,mx_ok h]
 have:fnK (mxL S) S.length = true:=hf
 rw [this]
 rfl
end Go.Proofs.YtlnphkioddknfaaGreatDoor
