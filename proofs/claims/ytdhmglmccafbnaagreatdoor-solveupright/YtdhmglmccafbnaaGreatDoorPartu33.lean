/- Part 33 of the texts. -/
import Derived.Test.YtdhmglmccafbnaaGreatDoorPartu28
import Derived.Test.YtdhmglmccafbnaaGreatDoorPartu22
import Derived.Test.YtdhmglmccafbnaaGreatDoorPartu25
import Derived.Test.YtdhmglmccafbnaaGreatDoorPartu26
import Derived.Deep.RegionWith
import Derived.Test.YtdhmglmccafbnaaGreatDoorPartu32
import Derived.Test.YtdhmglmccafbnaaGreatDoorPartu23
import Derived.Test.YtdhmglmccafbnaaGreatDoorPartu31
import Derived.Test.YtdhmglmccafbnaaGreatDoorPartu29
import Derived.Deep.RegionHeld3
import Derived.Test.YtdhmglmccafbnaaGreatDoorPartu30
import Derived.Test.YtdhmglmccafbnaaGreatDoorPartu27
set_option maxHeartbeats 8000000
set_option maxRecDepth 20000
namespace Go.Proofs.YtdhmglmccafbnaaGreatDoor
open Go.RowKit
attribute [local go_sem ↓] Go.wp_at_zero Go.wp_at_succ
theorem two_bits (w:World) (a b:Nat) (ha:a < 18446744073709551616) (hb:b < 18446744073709551616):BitsAt (w.alloc (.cells #[.int .u64 (a:Nat),.int .u64 (b:Nat)] 28)) (some ⟨w.heap.size,0,none⟩) 2 [(a:Int),(b:Int)]:=by
 have h:RowB (w.alloc (.cells #[.int .u64 (a:Nat),.int .u64 (b:Nat)] 28)) w.heap.size [a,b]:=heap_alloc_new w _
 exact h.bits (fun x hx=>by simp at hx;rcases hx with rfl | rfl;exact ha;exact hb)
end Go.Proofs.YtdhmglmccafbnaaGreatDoor
namespace Go.Proofs.YtdhmglmccafbnaaGreatDoor
open Go.RowKit
attribute [local go_sem ↓] Go.wp_at_zero Go.wp_at_succ
theorem hmake_inf (ao:Option Addr) (n c:Nat) (w:World) (h1:1≤n) (h2:n≤64)
  (C1:Calls Tryz.prog 142 #[.slice ao n c] w fun e w''=>e = .returned (.bool false)∧Below w.heap.size w w'') :
  Calls Tryz.prog 256 #[.slice ao n c] w fun e w'=>e = .returned (.tuple #[.slice none 0 0,.int .u64 0,.int .u64 0,.int .i64 4])∧Below w.heap.size w w':=by
 have K1:=hide C1
 have h1I:(n:Int)≤64:=by omega
 have h2I:¬ (n:Int) = 0:=by omega
 have e0:((n:Int) == 0) = false:=by rw [beq_eq_false_iff_ne];exact h2I
 clear C1
 go_enter Tryz.func256,Tryz.ntmps256
 go_wp2_with fail
 refine Calls.mono (uH K1) ?_
 rintro e w1 ⟨rfl,hb1⟩
 clear K1
 go_wp2
 exact bodyPost_ret (v:=.tuple #[.slice none 0 0,.int .u64 0,.int .u64 0,.int .i64 4]) (by simp [results,Tryz.results256,go_sem]) rfl ⟨rfl,hb1⟩
theorem box_new13 (w:World) (d:Nat):(w.alloc (.cells #[.int .u64 (d:Nat)] 28)).cell? ⟨w.heap.size,0,none⟩ = some (.int .u64 (d:Nat)):=by
 rw [cell_of_row _ w.heap.size 0 _ _ _ (heap_alloc_new w (.cells #[.int .u64 (d:Nat)] 28))]
 rfl
theorem box_two13 (w:World) (bt d:Nat) (hbt:bt < 18446744073709551616) (hd:d < 18446744073709551616) :
  BitsAt ((w.alloc (.cells #[.int .u64 (d:Nat)] 28)).alloc (.cells #[.int .u64 (bt:Nat),.int .u64 (d:Nat)] 28)) (some ⟨w.heap.size+1,0,none⟩) 2 [(bt:Int),(d:Int)]∧Below w.heap.size w ((w.alloc (.cells #[.int .u64 (d:Nat)] 28)).alloc (.cells #[.int .u64 (bt:Nat),.int .u64 (d:Nat)] 28))∧((w.alloc (.cells #[.int .u64 (d:Nat)] 28)).alloc (.cells #[.int .u64 (bt:Nat),.int .u64 (d:Nat)] 28)).cell? ⟨w.heap.size,0,none⟩ = some (.int .u64 (d:Nat)):=by
 have h1:=two_bits (w.alloc (.cells #[.int .u64 (d:Nat)] 28)) bt d hbt hd
 rw [size_alloc9] at h1
 have b1:=below_alloc9 w (.cells #[.int .u64 (d:Nat)] 28)
 have b2:=below_alloc9 (w.alloc (.cells #[.int .u64 (d:Nat)] 28)) (.cells #[.int .u64 (bt:Nat),.int .u64 (d:Nat)] 28)
 exact ⟨h1,b1.trans (b2.mono b1.size),cell_keep (box_new13 w d) b2⟩
theorem hmake_flat1 (b off c a:Nat) (w:World) (hc:1≤c)
  (hx:w.cell? ⟨b,off,none⟩ = some (.int .u64 (a:Nat)))
  (C1:Calls Tryz.prog 142 #[.slice (some ⟨b,off,none⟩) 1 c] w fun e w''=>e = .returned (.bool true)∧Below w.heap.size w w'')
  (C2:∀ w',Below w.heap.size w w'→Calls Tryz.prog 122 #[.slice (some ⟨b,off,none⟩) 0 0] w' fun e w''=>e = .returned (.int .u64 (0:Nat))∧Below w'.heap.size w' w'')
  (S:List Nat)
  (C3:∀ w',Below w.heap.size w w'→Calls Tryz.prog 281 #[.slice (some ⟨b,off,none⟩) 0 0,.func (.func 282) #[] #[]] w' fun e w''=>∃ vo vc,e = .returned (.slice vo 1 vc)∧NewB w'.heap.size vo (mxL S)∧BitsAt w'' vo vc (mxL S)∧Below w'.heap.size w' w'') :
  Calls Tryz.prog 256 #[.slice (some ⟨b,off,none⟩) 1 c] w fun e w'=>∃ vo vc,e = .returned (.tuple #[.slice vo 1 vc,.int .u64 0,.int .u64 (a:Nat),.int .i64 0])∧NewB w.heap.size vo (mxL S)∧BitsAt w' vo vc (mxL S)∧Below w.heap.size w w':=by
 have K1:=hide C1;have K2:=hide C2;have K3:=hide C3
 have h4I:(1:Int)≤(c:Int):=by omega
 clear C1 C2 C3
 go_enter Tryz.func256,Tryz.ntmps256
 go_wp2_with fail
 refine Calls.mono (uH K1) ?_
 rintro e w1 ⟨rfl,hb1⟩
 have c0:=cell_keep hx hb1
 have B1:=hide hb1
 clear K1 hx hb1
 go_wp2_with fail
 go_quiet (fail)
 clear c0
 go_wp2_with fail
 have B2:=hide (below_drewN (uH B1) nq)
 clear B1
 refine (uH K2 _ (uH B2)).mono ?_
 rintro e w2 ⟨rfl,hb2⟩
 have B3:=hide ((uH B2).trans (hb2.mono (uH B2).size))
 clear K2 B2 hb2
 go_wp2_with fail
 refine (uH K3 _ (uH B3)).mono ?_
 rintro e w3 ⟨vo,vc,rfl,hn,hs,hb3⟩
 have B4:=hide ((uH B3).trans (hb3.mono (uH B3).size))
 have HN:=hide (NewB.least hn (uH B3).size)
 have HS:=hide hs
 clear K3 B3 hb3 hn hs
 go_wp2
 exact bodyPost_ret (v:=.tuple #[.slice vo 1 vc,.int .u64 0,.int .u64 (a:Nat),.int .i64 0]) (by simp [results,Tryz.results256,go_sem]) rfl ⟨vo,vc,rfl,uH HN,uH HS,uH B4⟩
theorem hmake_flat (b off n c a:Nat) (w:World) (h1:2≤n) (h2:n≤64) (hc:n≤c)
  (hx:w.cell? ⟨b,off,none⟩ = some (.int .u64 (a:Nat)))
  (C1:Calls Tryz.prog 142 #[.slice (some ⟨b,off,none⟩) n c] w fun e w''=>e = .returned (.bool true)∧Below w.heap.size w w'')
  (C2:∀ w',Below w.heap.size w w'→Calls Tryz.prog 122 #[.slice (some ⟨b,off+1,none⟩) (n - 1) (n - 1)] w' fun e w''=>e = .returned (.int .u64 (0:Nat))∧Below w'.heap.size w' w'')
  (S:List Nat)
  (C3:∀ w',Below w.heap.size w w'→Calls Tryz.prog 281 #[.slice (some ⟨b,off+1,none⟩) (n - 1) (n - 1),.func (.func 282) #[] #[]] w' fun e w''=>∃ vo vc,e = .returned (.slice vo n vc)∧NewB w'.heap.size vo (mxL S)∧BitsAt w'' vo vc (mxL S)∧Below w'.heap.size w' w'') :
  Calls Tryz.prog 256 #[.slice (some ⟨b,off,none⟩) n c] w fun e w'=>∃ vo vc,e = .returned (.tuple #[.slice vo n vc,.int .u64 0,.int .u64 (a:Nat),.int .i64 0])∧NewB w.heap.size vo (mxL S)∧BitsAt w' vo vc (mxL S)∧Below w.heap.size w w':=by
 have K1:=hide C1;have K2:=hide C2;have K3:=hide C3
 have h1I:(n:Int)≤64:=by omega
 have h3I:(2:Int)≤(n:Int):=by omega
 have h4I:(n:Int)≤(c:Int):=by omega
 have h2I:¬ (n:Int) = 0:=by omega
 have e0:((n:Int) == 0) = false:=by rw [beq_eq_false_iff_ne];exact h2I
 have e1:decide ((64:Int) < (n:Int)) = false:=decide_eq_false (by omega)
 clear C1 C2 C3
 go_enter Tryz.func256,Tryz.ntmps256
 go_wp2_with fail
 refine Calls.mono (uH K1) ?_
 rintro e w1 ⟨rfl,hb1⟩
 have c0:=cell_keep hx hb1
 have B1:=hide hb1
 clear K1 hx hb1
 go_wp2_with fail
 go_quiet (fail)
 clear c0
 go_wp2_with fail
 have B2:=hide (below_drewN (uH B1) nq)
 clear B1
 refine (uH K2 _ (uH B2)).mono ?_
 rintro e w2 ⟨rfl,hb2⟩
 have B3:=hide ((uH B2).trans (hb2.mono (uH B2).size))
 clear K2 B2 hb2
 go_wp2_with fail
 refine (uH K3 _ (uH B3)).mono ?_
 rintro e w3 ⟨vo,vc,rfl,hn,hs,hb3⟩
 have B4:=hide ((uH B3).trans (hb3.mono (uH B3).size))
 have HN:=hide (NewB.least hn (uH B3).size)
 have HS:=hide hs
 clear K3 B3 hb3 hn hs
 go_wp2
 exact bodyPost_ret (v:=.tuple #[.slice vo n vc,.int .u64 0,.int .u64 (a:Nat),.int .i64 0]) (by simp [results,Tryz.results256,go_sem]) rfl ⟨vo,vc,rfl,uH HN,uH HS,uH B4⟩
theorem hmake_range (b off n c a m bt d:Nat) (w:World) (h1:2≤n) (h2:n≤64) (hc:n≤c) (hm:¬ m = 0) (hbt:bt < 18446744073709551616) (hd:d < 18446744073709551616)
  (hx:w.cell? ⟨b,off,none⟩ = some (.int .u64 (a:Nat)))
  (C1:Calls Tryz.prog 142 #[.slice (some ⟨b,off,none⟩) n c] w fun e w''=>e = .returned (.bool true)∧Below w.heap.size w w'')
  (C2:∀ w',Below w.heap.size w w'→Calls Tryz.prog 122 #[.slice (some ⟨b,off+1,none⟩) (n - 1) (n - 1)] w' fun e w''=>e = .returned (.int .u64 (m:Nat))∧Below w'.heap.size w' w'')
  (C4:∀ w',Below w.heap.size w w'→Calls Tryz.prog 283 #[.slice (some ⟨b,off,none⟩) n c] w' fun e w''=>e = .returned (.int .u64 (bt:Nat))∧Below w'.heap.size w' w'')
  (C5:∀ w',Below w.heap.size w w'→Calls Tryz.prog 174 #[.int .u64 a,.int .u64 bt] w' fun e w''=>e = .returned (.int .u64 (d:Nat))∧Below w'.heap.size w' w'')
  (C6:∀ w' ao,Below w.heap.size w w'→BitsAt w' ao 2 [(bt:Int),(d:Int)]→Calls Tryz.prog 142 #[.slice ao 2 2] w' fun e w''=>e = .returned (.bool false)∧Below w'.heap.size w' w'') :
  Calls Tryz.prog 256 #[.slice (some ⟨b,off,none⟩) n c] w fun e w'=>e = .returned (.tuple #[.slice none 0 0,.int .u64 0,.int .u64 0,.int .i64 2])∧Below w.heap.size w w':=by
 have K1:=hide C1;have K2:=hide C2;have K4:=hide C4;have K5:=hide C5;have K6:=hide C6
 have h1I:(n:Int)≤64:=by omega
 have h3I:(2:Int)≤(n:Int):=by omega
 have h4I:(n:Int)≤(c:Int):=by omega
 have h2I:¬ (n:Int) = 0:=by omega
 have e0:((n:Int) == 0) = false:=by rw [beq_eq_false_iff_ne];exact h2I
 have e1:decide ((64:Int) < (n:Int)) = false:=decide_eq_false (by omega)
 have em:((m:Int) == 0) = false:=by rw [beq_eq_false_iff_ne];omega
 have HBT:=hide hbt;have HD:=hide hd
 clear hbt hd
 clear C1 C2 C4 C5 C6
 go_enter Tryz.func256,Tryz.ntmps256
 go_wp2_with fail
 refine Calls.mono (uH K1) ?_
 rintro e w1 ⟨rfl,hb1⟩
 have c0:=cell_keep hx hb1
 have B1:=hide hb1
 clear K1 hx hb1
 go_wp2_with fail
 go_quiet (fail)
 clear c0
 go_wp2_with fail
 have B2:=hide (below_drewN (uH B1) nq)
 clear B1
 refine (uH K2 _ (uH B2)).mono ?_
 rintro e w2 ⟨rfl,hb2⟩
 have B3:=hide ((uH B2).trans (hb2.mono (uH B2).size))
 clear K2 B2 hb2
 go_wp2_with fail
 refine (uH K4 _ (uH B3)).mono ?_
 rintro e w3 ⟨rfl,hb3⟩
 have B4:=hide ((uH B3).trans (hb3.mono (uH B3).size))
 clear K4 B3 hb3
 go_wp2_with fail
 refine (uH K5 _ (uH B4)).mono ?_
 rintro e w4 ⟨rfl,hb3⟩
 have B5:=hide ((uH B4).trans (hb3.mono (uH B4).size))
 clear K5 B4 hb3
 go_wp2_with fail
 obtain ⟨hb1,hb2,hb3⟩:=box_two13 w4 bt d (uH HBT) (uH HD)
 have B6:=hide ((uH B5).trans (hb2.mono (uH B5).size))
 have CB:=hide hb3
 refine (uH K6 _ _ (uH B6) hb1).mono ?_
 clear hb1 hb2 hb3
 rintro e w5 ⟨rfl,hb3⟩
 have B7:=hide ((uH B6).trans (hb3.mono (uH B6).size))
 have CD:=hide (cell_keep (uH CB) hb3)
 clear K6 B5 B6 CB hb3 HBT HD
 go_wp2
 exact bodyPost_ret (v:=.tuple #[.slice none 0 0,.int .u64 0,.int .u64 0,.int .i64 2]) (by simp [results,Tryz.results256,go_sem]) rfl ⟨rfl,uH B7⟩
theorem hmake_ok (b off n c a m bt d u t:Nat) (w:World) (h1:2≤n) (h2:n≤64) (hc:n≤c) (hm:¬ m = 0) (hbt:bt < 18446744073709551616) (hd:d < 18446744073709551616)
  (hx:w.cell? ⟨b,off,none⟩ = some (.int .u64 (a:Nat)))
  (C1:Calls Tryz.prog 142 #[.slice (some ⟨b,off,none⟩) n c] w fun e w''=>e = .returned (.bool true)∧Below w.heap.size w w'')
  (C2:∀ w',Below w.heap.size w w'→Calls Tryz.prog 122 #[.slice (some ⟨b,off+1,none⟩) (n - 1) (n - 1)] w' fun e w''=>e = .returned (.int .u64 (m:Nat))∧Below w'.heap.size w' w'')
  (C4:∀ w',Below w.heap.size w w'→Calls Tryz.prog 283 #[.slice (some ⟨b,off,none⟩) n c] w' fun e w''=>e = .returned (.int .u64 (bt:Nat))∧Below w'.heap.size w' w'')
  (C5:∀ w',Below w.heap.size w w'→Calls Tryz.prog 174 #[.int .u64 a,.int .u64 bt] w' fun e w''=>e = .returned (.int .u64 (d:Nat))∧Below w'.heap.size w' w'')
  (C6:∀ w' ao,Below w.heap.size w w'→BitsAt w' ao 2 [(bt:Int),(d:Int)]→Calls Tryz.prog 142 #[.slice ao 2 2] w' fun e w''=>e = .returned (.bool true)∧Below w'.heap.size w' w'')
  (S:List Nat)
  (C7:∀ w' g,Below w.heap.size w w'→w'.cell? ⟨g,0,none⟩ = some (.int .u64 (d:Nat))→Calls Tryz.prog 281 #[.slice (some ⟨b,off+1,none⟩) (n - 1) (n - 1),.func (.func 284) #[] #[.pointer (some ⟨g,0,none⟩)]] w' fun e w''=>∃ vo vc,e = .returned (.slice vo n vc)∧NewB w'.heap.size vo (mxL S)∧BitsAt w'' vo vc (mxL S)∧Below w'.heap.size w' w'')
  (C8:∀ w',Below w.heap.size w w'→Calls Tryz.prog 174 #[.int .u64 bt,.int .u64 a] w' fun e w''=>e = .returned (.int .u64 (u:Nat))∧Below w'.heap.size w' w'')
  (C9:∀ w',Below w.heap.size w w'→Calls Tryz.prog 176 #[.int .u64 u,.int .u64 bt] w' fun e w''=>e = .returned (.int .u64 (t:Nat))∧Below w'.heap.size w' w'') :
  Calls Tryz.prog 256 #[.slice (some ⟨b,off,none⟩) n c] w fun e w'=>∃ vo vc,e = .returned (.tuple #[.slice vo n vc,.int .u64 (t:Nat),.int .u64 (bt:Nat),.int .i64 0])∧NewB w.heap.size vo (mxL S)∧BitsAt w' vo vc (mxL S)∧Below w.heap.size w w':=by
 have K1:=hide C1;have K2:=hide C2;have K4:=hide C4;have K5:=hide C5;have K6:=hide C6;have K7:=hide C7;have K8:=hide C8;have K9:=hide C9
 have h1I:(n:Int)≤64:=by omega
 have h3I:(2:Int)≤(n:Int):=by omega
 have h4I:(n:Int)≤(c:Int):=by omega
 have h2I:¬ (n:Int) = 0:=by omega
 have e0:((n:Int) == 0) = false:=by rw [beq_eq_false_iff_ne];exact h2I
 have e1:decide ((64:Int) < (n:Int)) = false:=decide_eq_false (by omega)
 have em:((m:Int) == 0) = false:=by rw [beq_eq_false_iff_ne];omega
 have HBT:=hide hbt;have HD:=hide hd
 clear hbt hd
 clear C1 C2 C4 C5 C6 C7 C8 C9
 go_enter Tryz.func256,Tryz.ntmps256
 go_wp2_with fail
 refine Calls.mono (uH K1) ?_
 rintro e w1 ⟨rfl,hb1⟩
 have c0:=cell_keep hx hb1
 have B1:=hide hb1
 clear K1 hx hb1
 go_wp2_with fail
 go_quiet (fail)
 clear c0
 go_wp2_with fail
 have B2:=hide (below_drewN (uH B1) nq)
 clear B1
 refine (uH K2 _ (uH B2)).mono ?_
 rintro e w2 ⟨rfl,hb2⟩
 have B3:=hide ((uH B2).trans (hb2.mono (uH B2).size))
 clear K2 B2 hb2
 go_wp2_with fail
 refine (uH K4 _ (uH B3)).mono ?_
 rintro e w3 ⟨rfl,hb3⟩
 have B4:=hide ((uH B3).trans (hb3.mono (uH B3).size))
 clear K4 B3 hb3
 go_wp2_with fail
 refine (uH K5 _ (uH B4)).mono ?_
 rintro e w4 ⟨rfl,hb3⟩
 have B5:=hide ((uH B4).trans (hb3.mono (uH B4).size))
 clear K5 B4 hb3
 go_wp2_with fail
 obtain ⟨hb1,hb2,hb3⟩:=box_two13 w4 bt d (uH HBT) (uH HD)
 have B6:=hide ((uH B5).trans (hb2.mono (uH B5).size))
 have CB:=hide hb3
 refine (uH K6 _ _ (uH B6) hb1).mono ?_
 clear hb1 hb2 hb3
 rintro e w5 ⟨rfl,hb3⟩
 have B7:=hide ((uH B6).trans (hb3.mono (uH B6).size))
 have CD:=hide (cell_keep (uH CB) hb3)
 clear K6 B5 B6 CB hb3 HBT HD
 go_wp2_with fail
 refine (uH K7 _ _ (uH B7) (uH CD)).mono ?_
 rintro e w6 ⟨vo,vc,rfl,hn,hs,hb3⟩
 have B8:=hide ((uH B7).trans (hb3.mono (uH B7).size))
 have HN:=hide (NewB.least hn (uH B7).size)
 have HS:=hide hs
 clear K7 B7 hb3 hn hs CD
 go_wp2_with fail
 refine (uH K8 _ (uH B8)).mono ?_
 rintro e w7 ⟨rfl,hb3⟩
 have B9:=hide ((uH B8).trans (hb3.mono (uH B8).size))
 replace HS:=hide ((uH HS).below hb3)
 clear K8 B8 hb3
 go_wp2_with fail
 refine (uH K9 _ (uH B9)).mono ?_
 rintro e w8 ⟨rfl,hb3⟩
 have BA:=hide ((uH B9).trans (hb3.mono (uH B9).size))
 replace HS:=hide ((uH HS).below hb3)
 clear K9 B9 hb3
 go_wp2
 exact bodyPost_ret (v:=.tuple #[.slice vo n vc,.int .u64 (t:Nat),.int .u64 (bt:Nat),.int .i64 0]) (by simp [results,Tryz.results256,go_sem]) rfl ⟨vo,vc,rfl,uH HN,uH HS,uH BA⟩
end Go.Proofs.YtdhmglmccafbnaaGreatDoor
namespace Go.Proofs.YtdhmglmccafbnaaGreatDoor
open Go.RowKit
theorem bg_ngt {xs:List Nat} (h:∀ x ∈ xs,fFin x = true):bgF 0 xs = 0 ↔ ngt xs = true:=by
 obtain ⟨g1,g2,g3,g4⟩:=bgF_fin xs 0 (by decide) h
 constructor
 ·intro h0
  exact List.all_eq_true.2 (fun x hx=>decide_eq_true ((fK_zero x).2 (by have:=g3 x hx;omega)))
 ·intro hn
  rcases g4 with g4 | ⟨x,hx,g4⟩
  ·exact g4
  ·rw [← g4]
   exact (fK_zero x).1 (ngt_true hn x hx)
theorem toN_drop (I:List Int) (k:Nat):toN (I.drop k) = (toN I).drop k:=by
 unfold toN
 rw [List.map_drop]
theorem bits_rest {w:World} {b off c:Nat} {I:List Int} (h:BitsAt w (some ⟨b,off,none⟩) c I) (h1:2≤I.length):BitsAt w (some ⟨b,off+1,none⟩) (I.length - 1) (I.drop 1):=by
 obtain ⟨b',off',e,hb,hc⟩:=h.ne (by omega)
 simp only [Option.some.injEq,Addr.mk.injEq] at e
 obtain ⟨rfl,rfl,_⟩:=e
 refine ⟨by rw [List.length_drop];omega,fun x hx=>h.2.1 x (List.mem_of_mem_drop hx),.inr ⟨b,off+1,rfl,hb,fun i hi=>?_⟩⟩
 have hi':1+i < I.length:=by rw [List.length_drop] at hi;omega
 have e2:=hc (1+i) hi'
 rw [List.getElem?_drop,show off+1+i = off+(1+i) by omega,e2,(h.wf (1+i)).1]
theorem atB_drop (I:List Int) (j:Nat):atB (I.drop 1) j = atB I (j+1):=by
 unfold atB
 rw [List.getElem?_drop,Nat.add_comm 1 j]
theorem fin_rest {I:List Int} (h:fnK I I.length = true):∀ x ∈ (toN I).drop 1,fFin x = true:=fun x hx=>toN_all I (fun x=>fFin x = true) ((fnK_all _).1 h) x (List.mem_of_mem_drop hx)
theorem hMake_flat (ao:Option Addr) (c:Nat) (I:List Int) (w:World) (hI:BitsAt w ao c I) (h1:1≤I.length) (h2:I.length≤64) (hf:fnK I I.length = true) (hn:ngt ((toN I).drop 1) = true) :
  Calls Tryz.prog 256 #[.slice ao I.length c] w fun e w'=>∃ vo vc,e = .returned (.tuple #[.slice vo I.length vc,.int .u64 0,.int .u64 (atB I 0:Nat),.int .i64 0])∧NewB w.heap.size vo (mxL (mkJ (fun _=>0) I.length))∧BitsAt w' vo vc (mxL (mkJ (fun _=>0) I.length))∧Below w.heap.size w w':=by
 obtain ⟨b,off,rfl,hb,hc⟩:=hI.ne (by omega)
 have c0:=hc 0 (by omega)
 have C1:=vFinite_any _ c I w hI (by omega)
 rw [hf] at C1
 have cf:∀ args w,(callFunc 282 args).run Tryz.prog w = .ok (.enter 282 args) w:=fun _ _=>by kernel_rfl
 have hle:=hI.1
 rcases Nat.lt_or_ge 1 I.length with g | g
 ·have R:=fun w' (h:Below w.heap.size w w')=>bits_rest (hI.below h) g
  have e:((I.drop 1).length:Nat) = I.length - 1:=by rw [List.length_drop]
  refine hmake_flat b off I.length c (atB I 0) w g h2 hle c0 C1 (fun w' h=>?_) (mkJ (fun _=>0) I.length) (fun w' h=>?_)
  ·have B:=vBiggest_any _ _ (I.drop 1) w' (R w' h) (by omega)
   rw [bgK_all,toN_drop,(bg_ngt (fin_rest hf)).2 hn,e] at B
   exact B
  ·have O:=oneAnd_any 282 #[] _ _ (I.drop 1) (fun _=>0) w' cf (R w' h) (by omega) (fun _ _=>by show 0 < 18446744073709551616;decide) (fun w'' k _ _=>hmake1_any _ w'')
   rw [e,show I.length - 1+1 = I.length by omega] at O
   exact O
 ·have e1:I.length = 1:=by omega
  rw [e1] at hle C1 ⊢
  refine hmake_flat1 b off c (atB I 0) w hle c0 C1 (fun w' h=>vBiggest_any _ _ [] w' (BitsAt.nilAt _ _ _) (by simp)) (mkJ (fun _=>0) 1) (fun w' h=>?_)
  exact oneAnd_any 282 #[] _ _ [] (fun _=>0) w' cf (BitsAt.nilAt _ _ _) (by simp) (fun _ _=>by show 0 < 18446744073709551616;decide) (fun w'' k _ _=>hmake1_any _ w'')
theorem ngt_two {I:List Int} (hn:ngt ((toN I).drop 1) = false):2≤I.length:=by
 rcases Nat.lt_or_ge I.length 2 with g | g
 ·rw [List.drop_eq_nil_of_le (by rw [toN_len];omega)] at hn
  cases hn
 ·exact g
theorem hMake_no (ao:Option Addr) (c:Nat) (I:List Int) (w:World) (hI:BitsAt w ao c I) (h2:I.length≤64) (hf:fnK I I.length = true) (hn:ngt ((toN I).drop 1) = false) (hk:(fFin (hmB (atB I 0) ((toN I).drop 1)) && fFin (hmD (atB I 0) ((toN I).drop 1))) = false) (hT:Tab w) :
  Calls Tryz.prog 256 #[.slice ao I.length c] w fun e w'=>e = .returned (.tuple #[.slice none 0 0,.int .u64 0,.int .u64 0,.int .i64 2])∧Below w.heap.size w w':=by
 have g:=ngt_two hn
 obtain ⟨b,off,rfl,hb,hc⟩:=hI.ne (by omega)
 have c0:=hc 0 (by omega)
 have C1:=vFinite_any _ c I w hI (by omega)
 rw [hf] at C1
 have R:=fun w' (h:Below w.heap.size w w')=>bits_rest (hI.below h) g
 have e:((I.drop 1).length:Nat) = I.length - 1:=by rw [List.length_drop]
 have ha:=hI.lt 0
 have eB:(if ldS (toN I) = true then nrV (toN I) else fN (nrV (toN I))) = hmB (atB I 0) ((toN I).drop 1):=by
  unfold hmB
  rw [← toN_cons (by omega)]
 refine hmake_range b off I.length c (atB I 0) (bgF 0 ((toN I).drop 1)) (hmB (atB I 0) ((toN I).drop 1)) (hmD (atB I 0) ((toN I).drop 1)) w g h2 hI.1 (fun h0=>by rw [(bg_ngt (fin_rest hf)).1 h0] at hn;cases hn) (hmB_lt _ _) (hmD_lt _ _ ha) c0 C1 (fun w' h=>?_) (fun w' h=>?_) (fun w' h=>psub_any _ _ w' ha (hmB_lt _ _) (hT.all h)) (fun w' ao h h2=>?_)
 ·have B:=vBiggest_any _ _ (I.drop 1) w' (R w' h) (by omega)
  rw [bgK_all,toN_drop,e] at B
  exact B
 ·have B:=hbeta_any _ c I w' (hI.below h) h2 (hT.all h)
  rw [eB] at B
  exact B
 ·have F:=vFinite_any ao 2 _ w' h2 (by simp)
  rw [show fnK [((hmB (atB I 0) ((toN I).drop 1):Nat):Int),((hmD (atB I 0) ((toN I).drop 1):Nat):Int)] [((hmB (atB I 0) ((toN I).drop 1):Nat):Int),((hmD (atB I 0) ((toN I).drop 1):Nat):Int)].length = false from (show fnK [((hmB (atB I 0) ((toN I).drop 1):Nat):Int),((hmD (atB I 0) ((toN I).drop 1):Nat):Int)] 2 = _ from by show ((true && fFin (hmB (atB I 0) ((toN I).drop 1))) && fFin (hmD (atB I 0) ((toN I).drop 1))) = _;rw [Bool.true_and,hk])] at F
  exact F
theorem hMake_yes (ao:Option Addr) (c:Nat) (I:List Int) (w:World) (hI:BitsAt w ao c I) (h2:I.length≤64) (hf:fnK I I.length = true) (hn:ngt ((toN I).drop 1) = false) (hk:(fFin (hmB (atB I 0) ((toN I).drop 1)) && fFin (hmD (atB I 0) ((toN I).drop 1))) = true) (hT:Tab w) :
  Calls Tryz.prog 256 #[.slice ao I.length c] w fun e w'=>∃ vo vc,e = .returned (.tuple #[.slice vo I.length vc,.int .u64 (dV (aV (hmB (atB I 0) ((toN I).drop 1)) (fN (atB I 0))) (hmB (atB I 0) ((toN I).drop 1)):Nat),.int .u64 (hmB (atB I 0) ((toN I).drop 1):Nat),.int .i64 0])∧NewB w.heap.size vo (mxL (mkJ (fun j=>dV (atB I (j+1)) (hmD (atB I 0) ((toN I).drop 1))) I.length))∧BitsAt w' vo vc (mxL (mkJ (fun j=>dV (atB I (j+1)) (hmD (atB I 0) ((toN I).drop 1))) I.length))∧Below w.heap.size w w':=by
 have g:=ngt_two hn
 obtain ⟨b,off,rfl,hb,hc⟩:=hI.ne (by omega)
 have c0:=hc 0 (by omega)
 have C1:=vFinite_any _ c I w hI (by omega)
 rw [hf] at C1
 have R:=fun w' (h:Below w.heap.size w w')=>bits_rest (hI.below h) g
 have e:((I.drop 1).length:Nat) = I.length - 1:=by rw [List.length_drop]
 have ha:=hI.lt 0
 have eB:(if ldS (toN I) = true then nrV (toN I) else fN (nrV (toN I))) = hmB (atB I 0) ((toN I).drop 1):=by
  unfold hmB
  rw [← toN_cons (by omega)]
 have cf:∀ args w,(callFunc 284 args).run Tryz.prog w = .ok (.enter 284 args) w:=fun _ _=>by kernel_rfl
 refine hmake_ok b off I.length c (atB I 0) (bgF 0 ((toN I).drop 1)) (hmB (atB I 0) ((toN I).drop 1)) (hmD (atB I 0) ((toN I).drop 1)) (aV (hmB (atB I 0) ((toN I).drop 1)) (fN (atB I 0))) _ w g h2 hI.1 (fun h0=>by rw [(bg_ngt (fin_rest hf)).1 h0] at hn;cases hn) (hmB_lt _ _) (hmD_lt _ _ ha) c0 C1 (fun w' h=>?_) (fun w' h=>?_) (fun w' h=>psub_any _ _ w' ha (hmB_lt _ _) (hT.all h)) (fun w' ao h h2=>?_) (mkJ (fun j=>dV (atB I (j+1)) (hmD (atB I 0) ((toN I).drop 1))) I.length) (fun w' gx h hg=>?_) (fun w' h=>psub_any _ _ w' (hmB_lt _ _) ha (hT.all h)) (fun w' h=>pdiv_any _ _ w' (aV_lt _ _ (hmB_lt _ _) (fN_lt _ ha)) (hmB_lt _ _) (hT.all h))
 ·have B:=vBiggest_any _ _ (I.drop 1) w' (R w' h) (by omega)
  rw [bgK_all,toN_drop,e] at B
  exact B
 ·have B:=hbeta_any _ c I w' (hI.below h) h2 (hT.all h)
  rw [eB] at B
  exact B
 ·have F:=vFinite_any ao 2 _ w' h2 (by simp)
  rw [show fnK [((hmB (atB I 0) ((toN I).drop 1):Nat):Int),((hmD (atB I 0) ((toN I).drop 1):Nat):Int)] [((hmB (atB I 0) ((toN I).drop 1):Nat):Int),((hmD (atB I 0) ((toN I).drop 1):Nat):Int)].length = true from (show fnK [((hmB (atB I 0) ((toN I).drop 1):Nat):Int),((hmD (atB I 0) ((toN I).drop 1):Nat):Int)] 2 = _ from by show ((true && fFin (hmB (atB I 0) ((toN I).drop 1))) && fFin (hmD (atB I 0) ((toN I).drop 1))) = _;rw [Bool.true_and,hk])] at F
  exact F
 ·have O:=oneAnd_any 284 #[.pointer (some ⟨gx,0,none⟩)] _ _ (I.drop 1) (fun j=>dV (atB I (j+1)) (hmD (atB I 0) ((toN I).drop 1))) w' cf (R w' h) (by omega) (fun _ _=>dV_lt _ _) (fun w'' k hb hk2=>by
   rw [atB_drop]
   exact hmake2_any _ _ gx w'' (hI.lt _) (hmD_lt _ _ ha) (cell_keep hg hb) ((hT.all h).all hb))
  rw [e,show I.length - 1+1 = I.length by omega] at O
  exact O
theorem hMake_ok (ao:Option Addr) (c:Nat) (I:List Int) (w:World) (hI:BitsAt w ao c I) (h1:1≤I.length) (h2:I.length≤64) (hf:fnK I I.length = true) (hk:mrK (toN I) = true) (hT:Tab w) :
  Calls Tryz.prog 256 #[.slice ao I.length c] w fun e w''=>∃ vo vc,e = .returned (.tuple #[.slice vo I.length vc,.int .u64 (mrT (toN I):Nat),.int .u64 (mrB (toN I):Nat),.int .i64 0])∧NewB w.heap.size vo (mxL (mrV (toN I)))∧BitsAt w'' vo vc (mxL (mrV (toN I)))∧Below w.heap.size w w'':=by
 obtain ⟨e1,e2,e3⟩:=mk_facts h1
 cases hn:ngt ((toN I).drop 1)
 ·rw [hn,Bool.false_or] at e3
  rw [e3] at hk
  rw [e1,e2,hn,if_neg (by decide),if_neg (by decide),mr_mkJ h1 (fun x=>dV x (hmD (atB I 0) ((toN I).drop 1))) (fun x=>by rw [hn,if_neg (by decide)])]
  exact hMake_yes ao c I w hI h2 hf hn hk hT
 ·rw [e1,e2,hn,if_pos rfl,if_pos rfl,mr_mkJ h1 (fun _=>0) (fun x=>by rw [hn,if_pos rfl])]
  exact hMake_flat ao c I w hI h1 h2 hf hn
theorem hMake_none (ao:Option Addr) (c:Nat) (I:List Int) (w:World) (hI:BitsAt w ao c I) (h1:1≤I.length) (h2:I.length≤64) (hf:fnK I I.length = true) (hk:mrK (toN I) = false) (hT:Tab w) :
  Calls Tryz.prog 256 #[.slice ao I.length c] w fun e w''=>∃ so cs,e = .returned (.tuple #[.slice so 0 cs,.int .u64 0,.int .u64 0,.int .i64 2])∧Below w.heap.size w w'':=by
 obtain ⟨_,_,e3⟩:=mk_facts h1
 rw [hk] at e3
 have e3':=e3.symm
 rw [Bool.or_eq_false_iff] at e3'
 refine (hMake_no ao c I w hI h2 hf e3'.1 e3'.2 hT).mono ?_
 rintro e w' ⟨rfl,hb⟩
 exact ⟨_,_,rfl,hb⟩
theorem hMake_inf (ao:Option Addr) (c:Nat) (I:List Int) (w:World) (hI:BitsAt w ao c I) (h1:1≤I.length) (h2:I.length≤64) (hf:fnK I I.length = false) :
  Calls Tryz.prog 256 #[.slice ao I.length c] w fun e w''=>∃ so cs,e = .returned (.tuple #[.slice so 0 cs,.int .u64 0,.int .u64 0,.int .i64 4])∧Below w.heap.size w w'':=by
 have C1:=vFinite_any ao c I w hI (by omega)
 rw [hf] at C1
 refine (hmake_inf ao I.length c w h1 h2 C1).mono ?_
 rintro e w' ⟨rfl,hb⟩
 exact ⟨_,_,rfl,hb⟩
end Go.Proofs.YtdhmglmccafbnaaGreatDoor
namespace Go.Proofs.YtdhmglmccafbnaaGreatDoor
open Go.RowKit
attribute [local go_sem ↓] Go.wp_at_zero Go.wp_at_succ
theorem himage1_of (t x y p o k n m c d bx by' ba:Nat) (b1 o1 b2 o2:Nat) (w:World) (hk:k < n) (hm:k < m)
  (h1:w.cell? ⟨bx,0,none⟩ = some (.slice (some ⟨b1,o1,none⟩) n c)) (h2:w.cell? ⟨by',0,none⟩ = some (.slice (some ⟨b2,o2,none⟩) m d)) (h5:w.cell? ⟨ba,0,none⟩ = some (.int .u64 (t:Nat)))
  (h3:w.cell? ⟨b1,o1+k,none⟩ = some (.int .u64 (x:Nat))) (h4:w.cell? ⟨b2,o2+k,none⟩ = some (.int .u64 (y:Nat)))
  (C1:∀ w',Below w.heap.size w w'→Calls Tryz.prog 175 #[.int .u64 t,.int .u64 y] w' fun r w''=>r = .returned (.int .u64 (p:Nat))∧Below w'.heap.size w' w'')
  (C2:∀ w',Below w.heap.size w w'→Calls Tryz.prog 174 #[.int .u64 x,.int .u64 p] w' fun r w''=>r = .returned (.int .u64 (o:Nat))∧Below w'.heap.size w' w'') :
  Calls Tryz.prog 301 #[.int .i64 k,.pointer (some ⟨bx,0,none⟩),.pointer (some ⟨ba,0,none⟩),.pointer (some ⟨by',0,none⟩)] w fun e w'=>e = .returned (.int .u64 (o:Nat))∧Below w.heap.size w w':=by
 have K1:=hide C1;have K2:=hide C2
 have hkI:(k:Int) < (n:Int):=by omega
 have hkJ:(k:Int) < (m:Int):=by omega
 have HK:=hide (fun w' (h:Below w.heap.size w w')=>(show Below w.heap.size w w'∧w'.cell? ⟨bx,0,none⟩ = some (.slice (some ⟨b1,o1,none⟩) n c)∧w'.cell? ⟨by',0,none⟩ = some (.slice (some ⟨b2,o2,none⟩) m d)∧w'.cell? ⟨b1,o1+k,none⟩ = some (.int .u64 (x:Nat))∧w'.cell? ⟨b2,o2+k,none⟩ = some (.int .u64 (y:Nat))∧w'.cell? ⟨ba,0,none⟩ = some (.int .u64 (t:Nat)) from
  ⟨h,cell_keep h1 h,cell_keep h2 h,cell_keep h3 h,cell_keep h4 h,cell_keep h5 h⟩))
 clear C1 C2 h1 h2 h3 h4 h5
 go_enter Tryz.func301,Tryz.ntmps301
 go_wp2_with fail
 go_region_held3 (fun w'=>Below w.heap.size w w'∧w'.cell? ⟨bx,0,none⟩ = some (.slice (some ⟨b1,o1,none⟩) n c)∧w'.cell? ⟨by',0,none⟩ = some (.slice (some ⟨b2,o2,none⟩) m d)∧w'.cell? ⟨b1,o1+k,none⟩ = some (.int .u64 (x:Nat))∧w'.cell? ⟨b2,o2+k,none⟩ = some (.int .u64 (y:Nat))∧w'.cell? ⟨ba,0,none⟩ = some (.int .u64 (t:Nat)))
  (first | exact uH HK _ (Below.refl _ _).drew | exact uH HK _ (by assumption) | fail "KK")
  (first | (go_at_call 175;refine (uH K1 _ (And.left (by assumption))).mono ?_;rintro e w1 ⟨rfl,hb1⟩;have hB1:Below w.heap.size w w1:=Below.trans (And.left (by assumption)) (hb1.mono (Below.size (And.left (by assumption))));clear hb1) | (go_at_call 174;refine (uH K2 _ (And.left (by assumption))).mono ?_;rintro e w2 ⟨rfl,hb2⟩;have hB2:Below w.heap.size w w2:=Below.trans (And.left (by assumption)) (hb2.mono (Below.size (And.left (by assumption))));clear hb2) | fail "NO ARM")
 go_wp2
 go_ret
 exact ⟨rfl,And.left (by assumption)⟩
structure ImAt (w:World) (v:Value) (H:Nat) (xo vo:Option Addr) (n xc m vc t:Nat):Prop where
 ex:∃ bx bt bv,v = .func (.func 301) #[] #[.pointer (some ⟨bx,0,none⟩),.pointer (some ⟨bt,0,none⟩),.pointer (some ⟨bv,0,none⟩)]∧H≤bx∧H≤bt∧H≤bv∧w.cell? ⟨bx,0,none⟩ = some (.slice xo n xc)∧w.cell? ⟨bt,0,none⟩ = some (.int .u64 (t:Nat))∧w.cell? ⟨bv,0,none⟩ = some (.slice vo m vc)
theorem himage_of (xo vo:Option Addr) (n xc m vc tau d t:Nat) (w:World)
  (C1:∀ w',Below w.heap.size w w'→Calls Tryz.prog 191 #[.slice vo m vc,.slice xo n xc] w' fun e w''=>e = .returned (.tuple #[.int .u64 (d:Nat),.int .i64 0])∧Below w'.heap.size w' w'')
  (C2:∀ w',Below w.heap.size w w'→Calls Tryz.prog 175 #[.int .u64 tau,.int .u64 d] w' fun e w''=>e = .returned (.int .u64 (t:Nat))∧Below w'.heap.size w' w'') :
  Calls Tryz.prog 285 #[.slice xo n xc,.slice vo m vc,.int .u64 tau] w fun e w'=>∃ v,e = .returned v∧ImAt w' v w.heap.size xo vo n xc m vc t∧Below w.heap.size w w':=by
 have K1:=hide C1;have K2:=hide C2
 clear C1 C2
 have b1:=below_alloc9 w (.cells #[.slice xo n xc] 23)
 have x1:=new_cell w (.slice xo n xc) 23
 have s1:=size_alloc9 w (.cells #[.slice xo n xc] 23)
 have b2:=below_alloc9 (w.alloc (.cells #[.slice xo n xc] 23)) (.cells #[.slice vo m vc] 23)
 have x2:=new_cell (w.alloc (.cells #[.slice xo n xc] 23)) (.slice vo m vc) 23
 have y1:=cell_keep x1 b2
 rw [s1] at x2
 have HA:=hide (show Below w.heap.size w ((w.alloc (.cells #[.slice xo n xc] 23)).alloc (.cells #[.slice vo m vc] 23)) from b1.trans (b2.mono b1.size))
 have HX:=hide y1;have HV:=hide x2
 clear b1 x1 s1 b2 x2 y1
 go_enter Tryz.func285,Tryz.ntmps285
 go_wp2_with fail
 refine (uH K1 _ (uH HA)).mono ?_
 rintro e w1 ⟨rfl,hb1⟩
 replace HX:=hide (cell_keep (uH HX) hb1)
 replace HV:=hide (cell_keep (uH HV) hb1)
 replace HA:=hide ((uH HA).trans (hb1.mono (uH HA).size))
 clear hb1 K1
 go_wp2_with fail
 refine (uH K2 _ (uH HA)).mono ?_
 rintro e w2 ⟨rfl,hb1⟩
 replace HX:=hide (cell_keep (uH HX) hb1)
 replace HV:=hide (cell_keep (uH HV) hb1)
 replace HA:=hide ((uH HA).trans (hb1.mono (uH HA).size))
 clear hb1 K2
 have b3:=below_alloc9 w2 (.cells #[.int .u64 (t:Nat)] 28)
 have x3:=hide (new_cell w2 (.int .u64 (t:Nat)) 28)
 replace HX:=hide (cell_keep (uH HX) b3)
 replace HV:=hide (cell_keep (uH HV) b3)
 have HS:=hide (uH HA).size
 replace HA:=hide ((uH HA).trans (b3.mono (uH HA).size))
 clear b3
 go_wp2
 go_ret
 exact ⟨_,rfl,⟨_,_,_,rfl,Nat.le_refl _,uH HS,Nat.le_succ _,uH HX,uH x3,uH HV⟩,uH HA⟩
theorem himage_any (xo vo:Option Addr) (xc vc tau:Nat) (xs vs:List Nat) (w:World) (hX:BitsAt w xo xc (mxL xs)) (hV:BitsAt w vo vc (mxL vs)) (hl:xs.length = vs.length) (h6:vs.length≤64) (ht:tau < 18446744073709551616) (hT:Tab w) :
  Calls Tryz.prog 285 #[.slice xo xs.length xc,.slice vo vs.length vc,.int .u64 tau] w fun e w'=>∃ v,e = .returned v∧ImAt w' v w.heap.size xo vo xs.length xc vs.length vc (mV tau (dtV 0 vs xs))∧Below w.heap.size w w':=by
 refine himage_of xo vo xs.length xc vs.length vc tau (dtV 0 vs xs) _ w (fun w' hb=>?_) (fun w' hb=>?_)
 ·have D:=vDot_any vo xo vc xc (mxL vs) (mxL xs) w' (hV.below hb) (hX.below hb) (hT.all hb)
  have g:goB (mxL vs) (mxL xs) = true:=decide_eq_true ⟨by rw [mxL_len];exact h6,by rw [mxL_len,mxL_len,hl]⟩
  rw [if_pos g,if_pos g,dtK_dtV (mxL vs) (mxL xs) (mxL vs).length (Nat.le_refl _) (by rw [mxL_len,mxL_len,hl];exact Nat.le_refl _),toN_mxL,toN_mxL,mxL_len,mxL_len,List.take_of_length_le (Nat.le_refl _),List.take_of_length_le (by rw [hl];exact Nat.le_refl _)] at D
  exact D
 ·refine vmul_any tau (dtV 0 vs xs) w' ht ?_ (hT.all hb)
  have:=dtK_lt (mxL vs) (mxL xs) (mxL vs).length
  rwa [dtK_dtV (mxL vs) (mxL xs) (mxL vs).length (Nat.le_refl _) (by rw [mxL_len,mxL_len,hl];exact Nat.le_refl _),toN_mxL,toN_mxL,mxL_len,List.take_of_length_le (Nat.le_refl _),List.take_of_length_le (by rw [hl];exact Nat.le_refl _)] at this
structure MiSt (w wr:World) (r c n cap:Nat) (ao:Option Addr) (S:List Nat):Prop where
 bel:Below w.heap.size w wr
 m:BoxM wr w.heap.size (.int .i64 r) (.int .i64 c) (.slice ao n cap)
 res:BoxM wr (w.heap.size+1) (.int .i64 0) (.int .i64 0) (.slice none 0 0)
 row:RowB wr (w.heap.size+1+1) S
theorem MiSt.all {w wr w':World} {r c n cap:Nat} {ao:Option Addr} {S:List Nat} (h:MiSt w wr r c n cap ao S) (hb:Below wr.heap.size wr w'):MiSt w w' r c n cap ao S :=
 ⟨h.bel.trans (hb.mono h.bel.size),h.m.all hb,h.res.all hb,h.row.below hb h.row.lt⟩
theorem MiSt.set {w wr:World} {r c n cap:Nat} {ao:Option Addr} {S:List Nat} (h:MiSt w wr r c n cap ao S) (p x:Nat):MiSt w (wr.setCell ⟨w.heap.size+1+1,p,none⟩ (.int .u64 (x:Int))) r c n cap ao (S.set p x) :=
 ⟨h.bel.setCell (p:=⟨w.heap.size+1+1,p,none⟩) (by show w.heap.size≤w.heap.size+1+1;omega) _,h.m.other (p:=⟨w.heap.size+1+1,p,none⟩) (by show w.heap.size ≠ w.heap.size+1+1;omega) _,h.res.other (p:=⟨w.heap.size+1+1,p,none⟩) (by show w.heap.size+1 ≠ w.heap.size+1+1;omega) _,h.row.set p x⟩
theorem MiSt.start (w:World) (r c n cap:Nat) (ao:Option Addr) :
  MiSt w (((w.alloc (.cells #[.int .i64 r,.int .i64 c,.slice ao n cap] 25)).alloc (.cells #[.int .i64 0,.int .i64 0,.slice none 0 0] 25)).alloc (.cells (madeCells #[.int .u64 0] n) 28)) r c n cap ao (List.replicate n 0):=by
 have b0:=below_alloc9 w (.cells #[.int .i64 r,.int .i64 c,.slice ao n cap] 25)
 have s0:=size_alloc9 w (.cells #[.int .i64 r,.int .i64 c,.slice ao n cap] 25)
 have x0:=BoxM.new w (.int .i64 r) (.int .i64 c) (.slice ao n cap)
 generalize w.alloc (.cells #[.int .i64 r,.int .i64 c,.slice ao n cap] 25) = w0 at *
 have b3:=below_alloc9 w0 (.cells #[.int .i64 0,.int .i64 0,.slice none 0 0] 25)
 have z3:=size_alloc9 w0 (.cells #[.int .i64 0,.int .i64 0,.slice none 0 0] 25)
 have x3:=BoxM.new w0 (.int .i64 0) (.int .i64 0) (.slice none 0 0)
 generalize w0.alloc (.cells #[.int .i64 0,.int .i64 0,.slice none 0 0] 25) = w3 at *
 have b4:=below_alloc9 w3 (.cells (madeCells #[.int .u64 0] n) 28)
 have x4:=RowB.made w3 n
 rw [s0] at x3 z3
 rw [z3] at x4
 have c3:=b0.trans (b3.mono b0.size)
 exact ⟨c3.trans (b4.mono c3.size),(x0.all b3).all b4,x3.all b4,x4⟩
theorem MiSt.copied {w wr w':World} {r c n cap:Nat} {ao:Option Addr} {S T:List Nat} (h:MiSt w wr r c n cap ao S) (hb:Below (w.heap.size+1+1) wr w') (hr:RowB w' (w.heap.size+1+1) T):MiSt w w' r c n cap ao T :=
 ⟨h.bel.trans (hb.mono (by omega)),h.m.below hb (by omega),h.res.below hb (by omega),hr⟩
structure MjSt (w wr:World) (r c n cap:Nat) (ao:Option Addr) (S:List Nat) (bx bt bv:Nat) (po vo:Option Addr) (L pc vc t:Nat) (X:List Int):Prop where
 st:MiSt w wr r c n cap ao S
 lx:w.heap.size+1+1+1≤bx
 lt:w.heap.size+1+1+1≤bt
 lv:w.heap.size+1+1+1≤bv
 cx:wr.cell? ⟨bx,0,none⟩ = some (.slice po L pc)
 ct:wr.cell? ⟨bt,0,none⟩ = some (.int .u64 (t:Nat))
 cv:wr.cell? ⟨bv,0,none⟩ = some (.slice vo L vc)
 x:BitsAt wr po pc X
 nx:NewB (w.heap.size+1+1+1) po X
theorem MjSt.all {w wr w':World} {r c n cap:Nat} {ao:Option Addr} {S:List Nat} {bx bt bv:Nat} {po vo:Option Addr} {L pc vc t:Nat} {X:List Int} (h:MjSt w wr r c n cap ao S bx bt bv po vo L pc vc t X) (hb:Below wr.heap.size wr w'):MjSt w w' r c n cap ao S bx bt bv po vo L pc vc t X :=
 ⟨h.st.all hb,h.lx,h.lt,h.lv,cell_keep h.cx hb,cell_keep h.ct hb,cell_keep h.cv hb,h.x.below hb,h.nx⟩
theorem MjSt.set {w wr:World} {r c n cap:Nat} {ao:Option Addr} {S:List Nat} {bx bt bv:Nat} {po vo:Option Addr} {L pc vc t:Nat} {X:List Int} (h:MjSt w wr r c n cap ao S bx bt bv po vo L pc vc t X) (p x:Nat):MjSt w (wr.setCell ⟨w.heap.size+1+1,p,none⟩ (.int .u64 (x:Int))) r c n cap ao (S.set p x) bx bt bv po vo L pc vc t X:=by
 have l1:=h.lx;have l2:=h.lt;have l3:=h.lv
 refine ⟨h.st.set p x,l1,l2,l3,?_,?_,?_,h.x.far h.nx (by omega) p _,h.nx⟩
 ·rw [cell_setCell_other _ _ _ _ (show bx ≠ w.heap.size+1+1 by omega)];exact h.cx
 ·rw [cell_setCell_other _ _ _ _ (show bt ≠ w.heap.size+1+1 by omega)];exact h.ct
 ·rw [cell_setCell_other _ _ _ _ (show bv ≠ w.heap.size+1+1 by omega)];exact h.cv
end Go.Proofs.YtdhmglmccafbnaaGreatDoor
namespace Go.Proofs.YtdhmglmccafbnaaGreatDoor
open Go.RowKit
attribute [local go_sem ↓] Go.wp_at_zero Go.wp_at_succ
theorem mirrored_of (r c n cap i k L vc tau:Nat) (ao vo:Option Addr) (T:Nat→Nat→List Nat) (X:Nat→List Int) (P U:Nat→Nat→Nat) (t:Nat→Nat) (w:World) (h36:n≤36) (h6:c≤6) (hr6:r≤6) (hil:i+L≤r) (hk:k≤c)
  (hS:BitsAt w ao cap (mxL (T k 0))) (lT:∀ d j,(T d j).length = n) (hnext:∀ d,T d L = T (d+1) 0)
  (hP:∀ d j,k≤d→d < c→j < L→P d j < n∧(i+j) * c+d = P d j∧(T d j).set (P d j) (U d j) = T d (j+1))
  (C1:∀ w' d,Below w.heap.size w w'→k≤d→d < c→Calls Tryz.prog 121 #[.agg #[.int .i64 r,.int .i64 c,.slice ao n cap],.int .i64 i,.int .i64 (d:Nat),.int .i64 L,.int .i64 1] w' fun e w''=>∃ po pc,e = .returned (.tuple #[.agg #[.int .i64 L,.int .i64 1,.slice po L pc],.int .i64 0])∧NewB w'.heap.size po (X d)∧BitsAt w'' po pc (X d)∧Below w'.heap.size w' w'')
  (C2:∀ w' d po pc,Below w.heap.size w w'→k≤d→d < c→BitsAt w' po pc (X d)→Calls Tryz.prog 285 #[.slice po L pc,.slice vo L vc,.int .u64 tau] w' fun e w''=>∃ v,e = .returned v∧ImAt w'' v w'.heap.size po vo L pc L vc (t d)∧Below w'.heap.size w' w'')
  (C3:∀ w' d j po pc bx bt bv,Below w.heap.size w w'→k≤d→d < c→j < L→BitsAt w' po pc (X d)→w'.cell? ⟨bx,0,none⟩ = some (.slice po L pc)→w'.cell? ⟨bt,0,none⟩ = some (.int .u64 (t d:Nat))→w'.cell? ⟨bv,0,none⟩ = some (.slice vo L vc)→Calls Tryz.prog 301 #[.int .i64 (j:Nat),.pointer (some ⟨bx,0,none⟩),.pointer (some ⟨bt,0,none⟩),.pointer (some ⟨bv,0,none⟩)] w' fun e w''=>e = .returned (.int .u64 (U d j:Nat))∧Below w'.heap.size w' w'') :
  Calls Tryz.prog 258 #[.agg #[.int .i64 r,.int .i64 c,.slice ao n cap],.int .i64 i,.int .i64 k,.slice vo L vc,.int .u64 tau] w fun e w'=>∃ g,e = .returned (.agg #[.int .i64 r,.int .i64 c,.slice (some ⟨g,0,none⟩) n n])∧w.heap.size≤g∧RowB w' g (T c 0)∧Below w.heap.size w w':=by
 have ST:=hide (MiSt.start w r c n cap ao)
 have hmk:=run_make_row' (P:=Tryz.prog) 23 28 (.int .u64 0) 8 Tryz.underlying23 (by kernel_rfl) rfl .i64 .i64 n (by omega) (by omega)
 have HP:=hide hP;have K1:=hide C1;have K2:=hide C2;have K3:=hide C3;have LT:=hide lT;have HX:=hide hnext
 obtain ⟨w5,hcp,hr5,hb5⟩:=copy_run _ (w.heap.size+1+1) n cap ao (T k 0) (uH ST).row (hS.below (uH ST).bel) (lT k 0)
 have ST5:=hide ((uH ST).copied hb5 hr5)
 clear hP C1 C2 C3 lT hS hr5 hb5 hnext
 have y0:=(uH ST).m.c0;have y1:=(uH ST).m.c1;have y2:=(uH ST).m.c2
 go_enter Tryz.func258,Tryz.ntmps258
 go_wp2_with fail
 clear hmk hcp y0 y1 y2 ST
 go_loopw [12] (fun a wr=>∃ d:Nat,k≤d∧d≤c∧a = .int .i64 d∧Hid (MiSt w wr r c n cap ao (T d 0))) (fun a _=>c - (intOf a).toNat)
 case atStart=>exact ⟨k,Nat.le_refl _,hk,rfl,ST5⟩
 case round =>
  clear ST5
  obtain ⟨d,hkd,hdc,rfl,hS⟩:=hrel
  by_cases hlt:d < c
  ·have hdI:(d:Int) < (c:Int):=by omega
   have y0:=(uH hS).m.c0;have y1:=(uH hS).m.c1;have y2:=(uH hS).m.c2
   go_wp2_with fail
   clear y0 y1 y2
   refine (uH K1 _ d (uH hS).bel hkd hlt).mono ?_
   rintro e w2 ⟨po,pc,rfl,hn,hx,hb⟩
   have S2:=hide ((uH hS).all hb)
   have HN:=hide (NewB.least hn (show w.heap.size+1+1+1≤wr.heap.size from (uH hS).row.lt))
   have HB:=hide hx
   clear hn hx hb hS
   go_wp2_with fail
   have ba:=below_alloc9 w2 (.cells #[.int .i64 L,.int .i64 1,.slice po L pc] 25)
   replace S2:=hide ((uH S2).all ba)
   replace HB:=hide ((uH HB).below ba)
   clear ba
   have HL:=hide (show w.heap.size+1+1+1≤(w2.alloc (.cells #[.int .i64 L,.int .i64 1,.slice po L pc] 25)).heap.size from (uH S2).row.lt)
   refine (uH K2 _ d po pc (uH S2).bel hkd hlt (uH HB)).mono ?_
   rintro e w3 ⟨v,rfl,hv,hb⟩
   obtain ⟨bx,bt,bv,rfl,l1,l2,l3,c1,c2,c3⟩:=hv.ex
   have S3:=hide (show MjSt w w3 r c n cap ao (T d 0) bx bt bv po vo L pc vc (t d) (X d) from ⟨(uH S2).all hb,Nat.le_trans (uH HL) l1,Nat.le_trans (uH HL) l2,Nat.le_trans (uH HL) l3,c1,c2,c3,(uH HB).below hb,uH HN⟩)
   clear hv hb l1 l2 l3 c1 c2 c3 S2 HN HB HL
   have KC:=hide (fun w' j hb hj hx h1 h2 h3=>uH K3 w' d j po pc bx bt bv hb hkd hlt hj hx h1 h2 h3)
   have HPD:=hide (fun j hj=>uH HP d j hkd hlt hj)
   have LTD:=hide (uH LT d)
   have HXD:=hide (uH HX d)
   generalize hTD:T d = TD at *
   generalize hUD:U d = UD at *
   generalize hPD:P d = PD at *
   generalize t d = td at *
   generalize X d = XD at *
   go_wp2_with fail
   go_loopw [48] (fun a wr=>∃ j:Nat,j≤L∧a = .int .i64 j∧Hid (MjSt w wr r c n cap ao (TD j) bx bt bv po vo L pc vc td XD)) (fun a _=>L - (intOf a).toNat)
   case atStart=>exact ⟨0,Nat.zero_le _,rfl,S3⟩
   case round =>
    clear S3
    obtain ⟨j,hj,rfl,hS⟩:=hrel
    by_cases hjl:j < L
    ·have hjI:(j:Int) < (L:Int):=by omega
     obtain ⟨hp,hpe,hset⟩:=uH HPD j hjl
     have KJ:=hide (fun w' hb hx h1 h2 h3=>uH KC w' j hb hjl hx h1 h2 h3)
     have LL:=hide (uH LTD j);have HN:=hide hset
     clear hset
     obtain ⟨a,ha⟩:∃ a,i+j = a:=⟨_,rfl⟩
     rw [ha] at hpe
     obtain ⟨q,hq⟩:∃ q,a * c = q:=⟨_,rfl⟩
     rw [hq] at hpe
     have e1:IntKind.i64.wrap ((i:Int)+(j:Int)) = (a:Int):=(wrap_in _ (by omega)).trans (by omega)
     have e2:IntKind.i64.wrap ((a:Int) * (c:Int)) = (q:Int):=by
      rw [cast_mul10 a c,hq]
      exact wrap_in _ (by omega)
     have e3:IntKind.i64.wrap ((q:Int)+(d:Int)) = (PD j:Int):=(wrap_in _ (by omega)).trans (by omega)
     have e4:(i:Int)+(j:Int) = (a:Int):=by omega
     have e5:(a:Int) * (c:Int) = (q:Int):=by rw [cast_mul10 a c,hq]
     have e6:(q:Int)+(d:Int) = (PD j:Int):=by omega
     have w1:IntKind.i64.wrap (a:Int) = (a:Int):=wrap_in _ (by omega)
     have w2:IntKind.i64.wrap (q:Int) = (q:Int):=wrap_in _ (by omega)
     have w3:IntKind.i64.wrap (PD j:Int) = (PD j:Int):=wrap_in _ (by omega)
     generalize hTT:TD j = TT at *
     generalize hTN:TD (j+1) = TN at *
     generalize PD j = p at *
     generalize UD j = u at *
     have hpI:(p:Int) < (n:Int):=by omega
     clear hq hpe ha
     go_wp2_with fail
     refine at_world (fun W=>MjSt w W r c n cap ao TT bx bt bv po vo L pc vc td XD) (uH hS) ?_
     clear hS
     intro W st
     have ST:=hide (st.all ((Below.refl W.heap.size W).drew))
     clear st
     have y1:=(uH ST).st.m.c1
     go_region_with (first
      | (go_at_call 301;refine (uH KJ _ (uH ST).st.bel (uH ST).x (uH ST).cx (uH ST).ct (uH ST).cv).mono ?_;rintro e w8 ⟨rfl,hb⟩;clear y1;have S8:=(uH ST).all hb;have y1:=S8.st.m.c1;have d1:=S8.st.row.cell p (by rw [uH LL];exact hp);have f1':=S8.st.row.free p;have P9:=hide (S8.set p u);clear S8 hb ST KJ)
      | fail "NO ARM")
     all_goals
      clear d1 f1' y1
      go_wp2_with fail
      go_round
      case rel=>exact ⟨j+1,by omega,by go_num,by rw [hTN,← uH HN];exact P9⟩
      case measure=>simp [intOf];omega
    ·have hjj:j = L:=by omega
     subst hjj
     have S4:=hide (uH hS).st
     rw [uH HXD] at S4
     clear hS
     go_wp2_with fail
     go_round
     case rel=>exact ⟨d+1,by omega,by omega,by go_num,S4⟩
     case measure=>simp [intOf];omega
  ·have hdd:d = c:=by omega
   subst hdd
   obtain ⟨h6,h1,h4,h5⟩:=uH hS
   have y0:=h1.c0;have y1:=h1.c1;have y2:=h1.c2
   have r0:=h4.c0;have r1:=h4.c1;have r2:=h4.c2
   have f0:=h4.free 0;have f1:=h4.free 1;have f2:=h4.free 2
   have XP:=h4.put (.int .i64 r) (.int .i64 d) (.slice (some ⟨w.heap.size+1+1,0,none⟩) n n)
   have z0:=XP.c0;have z1:=XP.c1;have z2:=XP.c2
   have RW:=hide (h5.three (g:=w.heap.size+1) (by omega) (.int .i64 r) (.int .i64 d) (.slice (some ⟨w.heap.size+1+1,0,none⟩) n n))
   have BP:=hide (below_putM h6 (b:=w.heap.size+1) (by omega) (.int .i64 r) (.int .i64 d) (.slice (some ⟨w.heap.size+1+1,0,none⟩) n n))
   clear XP h1 h4 h5 h6 hS
   go_wp2_with fail
   exact bodyPost_ret (v:=.agg #[.int .i64 r,.int .i64 d,.slice (some ⟨w.heap.size+1+1,0,none⟩) n n]) (by simp [results,Tryz.results258,go_sem,z0,z1,z2]) rfl ⟨_,rfl,by omega,uH RW,uH BP⟩
end Go.Proofs.YtdhmglmccafbnaaGreatDoor
namespace Go.Proofs.YtdhmglmccafbnaaGreatDoor
open Go.RowKit
attribute [local go_sem ↓] Go.wp_at_zero Go.wp_at_succ
theorem happly_form (r c:Int) (ao:Option Addr) (n cap:Nat) (i k:Int) (vo:Option Addr) (L vc tau:Nat) (w:World)
  (C1:∀ w',Calls Tryz.prog 151 #[.agg #[.int .i64 r,.int .i64 c,.slice ao n cap]] w' fun e w''=>e = .returned (.int .i64 1)∧Below w'.heap.size w' w'') :
  Calls Tryz.prog 226 #[.agg #[.int .i64 r,.int .i64 c,.slice ao n cap],.int .i64 i,.int .i64 k,.slice vo L vc,.int .u64 tau] w fun e w'=>∃ v,e = .returned (.tuple #[v,.int .i64 1])∧NewM w.heap.size w' 0 0 [] v∧Below w.heap.size w w':=by
 have K:=hide (C1 ((w.alloc (.cells #[.int .i64 r,.int .i64 c,.slice ao n cap] 25)).alloc (.cells #[.int .i64 0,.int .i64 0,.slice none 0 0] 25)))
 simp only [size_alloc9] at K
 have KB:=hide (boxes2 w (.int .i64 r) (.int .i64 c) (.slice ao n cap) (.int .i64 0) (.int .i64 0) (.slice none 0 0))
 clear C1
 go_enter Tryz.func226,Tryz.ntmps226
 go_wp2_with fail
 refine Calls.mono (uH K) ?_
 rintro e w1 ⟨rfl,hb1⟩
 obtain ⟨hB,hA,hX⟩:=uH KB w1 hb1
 clear K KB hb1 hA
 have f0:=hX.free 0;have f1:=hX.free 1;have f2:=hX.free 2
 have s0:=hX.c0;have s1:=hX.c1;have s2:=hX.c2
 have XP:=hX.put (.int .i64 0) (.int .i64 0) (.slice none 0 0)
 have z0:=XP.c0;have z1:=XP.c1;have z2:=XP.c2
 have BP:=hide (below_putM hB (b:=w.heap.size+1) (by omega) (.int .i64 0) (.int .i64 0) (.slice none 0 0))
 clear XP hX hB
 go_wp2
 refine bodyPost_ret (v:=.tuple #[.agg #[.int .i64 0,.int .i64 0,.slice none 0 0],_]) (by simp [results,Tryz.results226,go_sem,z0,z1,z2]) rfl ⟨_,rfl,NewM.zero _ _,uH BP⟩
theorem happly_of (r c n cap i k L vc tau:Nat) (ao vo:Option Addr) (S:List Nat) (w:World) (hr:r≤6) (hi:i+L≤r) (hk:k≤c) 
  (C1:∀ w',Calls Tryz.prog 151 #[.agg #[.int .i64 r,.int .i64 c,.slice ao n cap]] w' fun e w''=>e = .returned (.int .i64 0)∧Below w'.heap.size w' w'')
  (C2:∀ w',Below w.heap.size w w'→Calls Tryz.prog 258 #[.agg #[.int .i64 r,.int .i64 c,.slice ao n cap],.int .i64 i,.int .i64 k,.slice vo L vc,.int .u64 tau] w' fun e w''=>∃ g,e = .returned (.agg #[.int .i64 r,.int .i64 c,.slice (some ⟨g,0,none⟩) n n])∧w'.heap.size≤g∧RowB w'' g S∧Below w'.heap.size w' w'') :
  Calls Tryz.prog 226 #[.agg #[.int .i64 r,.int .i64 c,.slice ao n cap],.int .i64 i,.int .i64 k,.slice vo L vc,.int .u64 tau] w fun e w'=>∃ g,e = .returned (.tuple #[.agg #[.int .i64 r,.int .i64 c,.slice (some ⟨g,0,none⟩) n n],.int .i64 0])∧w.heap.size+2≤g∧RowB w' g S∧Below w.heap.size w w':=by
 have K:=hide (C1 ((w.alloc (.cells #[.int .i64 r,.int .i64 c,.slice ao n cap] 25)).alloc (.cells #[.int .i64 0,.int .i64 0,.slice none 0 0] 25)))
 simp only [size_alloc9] at K
 have KB:=hide (boxes2 w (.int .i64 r) (.int .i64 c) (.slice ao n cap) (.int .i64 0) (.int .i64 0) (.slice none 0 0))
 have K2:=hide C2
 have HZ:=hide (show w.heap.size+2≤((w.alloc (.cells #[.int .i64 r,.int .i64 c,.slice ao n cap] 25)).alloc (.cells #[.int .i64 0,.int .i64 0,.slice none 0 0] 25)).heap.size by rw [size_alloc9,size_alloc9];omega)
 have hw:IntKind.i64.wrap ((r:Int) - (L:Int)) = (r:Int) - (L:Int):=wrap_in _ (by omega)
 have h1:(i:Int)≤(r:Int) - (L:Int):=by omega
 have h2:(k:Int)≤(c:Int):=by omega
 clear C1 C2
 go_enter Tryz.func226,Tryz.ntmps226
 go_wp2_with fail
 refine Calls.mono (uH K) ?_
 rintro e w1 ⟨rfl,hb1⟩
 obtain ⟨hB,hA,hX⟩:=uH KB w1 hb1
 have HG1:=hide (Nat.le_trans (uH HZ) hb1.size)
 clear K KB hb1 HZ
 have a0:=hA.c0;have a1:=hA.c1;have a2:=hA.c2
 have HB:=hide hB;have HX:=hide hX
 clear hB hA hX
 go_wp2_with fail
 clear a0 a1 a2
 refine (uH K2 _ (uH HB)).mono ?_
 rintro e w2 ⟨g,rfl,hg,hr,hb⟩
 have hB:=(uH HB).trans (hb.mono (uH HB).size)
 have hX:=(uH HX).all hb
 have HG:=hide (Nat.le_trans (uH HG1) hg)
 have f0:=hX.free 0;have f1:=hX.free 1;have f2:=hX.free 2
 have s0:=hX.c0;have s1:=hX.c1;have s2:=hX.c2
 have XP:=hX.put (.int .i64 r) (.int .i64 c) (.slice (some ⟨g,0,none⟩) n n)
 have z0:=XP.c0;have z1:=XP.c1;have z2:=XP.c2
 have Q:=hide (hr.three (g:=w.heap.size+1) (by have:=uH HG;omega) (.int .i64 r) (.int .i64 c) (.slice (some ⟨g,0,none⟩) n n))
 have BP:=hide (below_putM hB (b:=w.heap.size+1) (by omega) (.int .i64 r) (.int .i64 c) (.slice (some ⟨g,0,none⟩) n n))
 clear hB hX hb hg hr XP HB HX K2 HG1
 go_wp2
 exact bodyPost_ret (v:=.tuple #[.agg #[.int .i64 r,.int .i64 c,.slice (some ⟨g,0,none⟩) n n],.int .i64 0]) (by simp [results,Tryz.results226,go_sem,z0,z1,z2]) rfl ⟨_,rfl,uH HG,uH Q,uH BP⟩
theorem apM_lt {r c:Nat} {S:List Nat} (hS:∀ p q,elM c S p q < 18446744073709551616) (i k:Nat) (vs:List Nat) (tau:Nat):∀ x ∈ apM r c S i k vs tau,x < 18446744073709551616:=by
 intro x hx
 unfold apM mkM at hx
 obtain ⟨p,_,rfl⟩:=List.mem_map.1 hx
 show (if _ then _ else _) < _
 split
 ·rename_i g
  exact apL_lt c S i _ vs tau (by omega) hS
 ·exact hS _ _
theorem pa_col (c:Nat) (S:List Nat) (i d n:Nat):paM c S i d n 1 = colL c S i n d:=by
 unfold paM mkM colL
 rw [Nat.mul_one]
 refine List.map_congr_left (fun p _=>?_)
 show elM c S (i+p / 1) (d+p % 1) = _
 rw [Nat.div_one,Nat.mod_one,Nat.add_zero]
theorem hApply_row (r c cap i k vc tau:Nat) (ao vo:Option Addr) (S vs:List Nat) (w:World) (h:Mx w ao cap r c S) (hV:BitsAt w vo vc (mxL vs)) (hi:i+vs.length≤r) (hk:k≤c) (ht:tau < 18446744073709551616) (hT:Tab w) :
  Calls Tryz.prog 226 #[.agg #[.int .i64 r,.int .i64 c,.slice ao S.length cap],.int .i64 i,.int .i64 k,.slice vo vs.length vc,.int .u64 tau] w fun e w'=>∃ g,e = .returned (.tuple #[.agg #[.int .i64 r,.int .i64 c,.slice (some ⟨g,0,none⟩) S.length S.length],.int .i64 0])∧w.heap.size+2≤g∧RowB w' g (apM r c S i k vs tau)∧Below w.heap.size w w':=by
 have h36:=h.small
 have r6:=h.2.2.1
 have c6:=h.2.2.2
 refine happly_of r c S.length cap i k vs.length vc tau ao vo (apM r c S i k vs tau) w r6 hi hk (fun w'=>?_) (fun w' hb=>?_)
 ·have:=mcheck_any (r:Int) (c:Int) ao S.length cap w' (by omega)
  rw [if_pos (mx_ok h)] at this
  exact this
 have hM:=h.below hb
 have hV':=hV.below hb
 have hT':=hT.all hb
 rw [← apJ_all r c S i k vs tau c (Nat.le_refl _)]
 refine mirrored_of r c S.length cap i k vs.length vc tau ao vo (fun d j=>apJ r c S i k vs tau d j) (fun d=>mxL (colL c S i vs.length d)) (fun d j=>(i+j) * c+d) (fun d j=>(apL c S i d vs tau).getD j 0) (fun d=>mV tau (dtV 0 vs (colL c S i vs.length d))) w' h36 c6 r6 hi hk
  (by show BitsAt w' ao cap (mxL (apJ r c S i k vs tau k 0));rw [apJ_0 r c S i k vs tau h.2.1];exact hM.1) (fun d j=>by rw [apJ_len,h.2.1]) (fun d=>apJ_next r c S i k vs tau d)
  (fun d j hd hdc hj=>⟨by rw [h.2.1];exact place_lt (by omega) hdc,rfl,apJ_set r c S hi hdc hd hj⟩) (fun w'' d hb2 hd hdc=>?_) (fun w'' d po pc hb2 hd hdc hX=>?_) (fun w'' d j po pc bx bt bv hb2 hd hdc hj hX hx ht' hv=>?_)
 ·refine (mPart_ok r c cap i d vs.length 1 ao S w'' (hM.below hb2) hi (by omega)).mono ?_
  rintro e w3 ⟨v,rfl,⟨po,pc,rfl,hn,hx⟩,hb3⟩
  rw [pa_col] at hn hx ⊢
  rw [colL_len]
  exact ⟨po,pc,rfl,hn,hx,hb3⟩
 ·have I:=himage_any po vo pc vc tau (colL c S i vs.length d) vs w'' hX (hV'.below hb2) (colL_len _ _ _ _ _) (by omega) ht (hT'.all hb2)
  rw [colL_len] at I
  exact I
 ·have hV2:=hV'.below hb2
  have hT2:=hT'.all hb2
  obtain ⟨b1,o1,e1,_,z1⟩:=hX.ne (by rw [mxL_len,colL_len];omega)
  obtain ⟨b2,o2,e2,_,z2⟩:=hV2.ne (by rw [mxL_len];omega)
  subst e1
  subst e2
  have q1:=z1 j (by rw [mxL_len,colL_len];exact hj)
  have q2:=z2 j (by rw [mxL_len];exact hj)
  rw [mxL_at,colL_at c S i vs.length d hj] at q1
  rw [mxL_at] at q2
  have lv:vs.getD j 0 < 18446744073709551616:=by
   have:=hV.lt j
   rwa [mxL_at] at this
  show Calls _ _ _ w'' fun e w3=>e = .returned (.int .u64 ((apL c S i d vs tau).getD j 0:Nat))∧_
  rw [apL_at c S i d vs tau hj]
  exact himage1_of _ _ _ (mV (mV tau (dtV 0 vs (colL c S i vs.length d))) (vs.getD j 0)) _ j vs.length vs.length pc vc bx bv bt b1 o1 b2 o2 w'' hj hj hx hv ht' q1 q2
   (fun w3 hb3=>vmul_any _ _ w3 (mV_lt _ _) lv (hT2.all hb3)) (fun w3 hb3=>psub_any _ _ w3 (h.el_lt _ _) (mV_lt _ _) (hT2.all hb3))
theorem hApply_ok (r c cap i k vc tau:Nat) (ao vo:Option Addr) (S vs:List Nat) (w:World) (h:Mx w ao cap r c S) (hV:BitsAt w vo vc (mxL vs)) (hi:i+vs.length≤r) (hk:k≤c) (ht:tau < 18446744073709551616) (hT:Tab w) :
  Calls Tryz.prog 226 #[.agg #[.int .i64 r,.int .i64 c,.slice ao S.length cap],.int .i64 i,.int .i64 k,.slice vo vs.length vc,.int .u64 tau] w fun e w'=>∃ v,e = .returned (.tuple #[v,.int .i64 0])∧NewM w.heap.size w' r c (apM r c S i k vs tau) v∧Below w.heap.size w w':=by
 refine (hApply_row r c cap i k vc tau ao vo S vs w h hV hi hk ht hT).mono ?_
 rintro e w' ⟨g,rfl,hg,hr,hb⟩
 have l:S.length = (apM r c S i k vs tau).length:=by rw [apM_len,h.2.1]
 have hr2:=hr.bits (apM_lt (fun p q=>h.el_lt p q) i k vs tau)
 refine ⟨_,rfl,⟨_,S.length,by rw [l],.inr ⟨g,0,rfl,by omega⟩,?_⟩,hb⟩
 rw [l]
 exact hr2
end Go.Proofs.YtdhmglmccafbnaaGreatDoor
namespace Go.Proofs.YtdhmglmccafbnaaGreatDoor
open Go.RowKit
theorem aV_left (a b:Nat) (h:fFin (aV a b) = true):fFin a = true:=by
 by_cases h4:fK a = 4
 ·unfold aV at h
  rw [if_pos (.inl h4)] at h
  exact absurd h (by decide +kernel)
 by_cases h3:fK a = 3
 ·unfold aV at h
  by_cases hb:fK b = 4
  ·rw [if_pos (.inr hb)] at h
   exact absurd h (by decide +kernel)
  ·rw [if_neg (fun e=>e.elim h4 hb),if_pos h3] at h
   split at h
   ·exact absurd h (by decide +kernel)
   ·exact h
 exact fin_of a h3 h4
theorem finL_all (xs:List Nat):finL xs = true ↔ ∀ k,k < xs.length→fFin (xs.getD k 0) = true:=by
 unfold finL
 rw [fnK_all]
 exact ⟨fun h k hk=>by have:=h k hk;rwa [mxL_at] at this,fun h k hk=>by rw [mxL_at];exact h k hk⟩
theorem ap_left {r c:Nat} {S:List Nat} (hl:S.length = r * c) (i k:Nat) (vs:List Nat) (tau:Nat) (h:finL (apM r c S i k vs tau) = true):finL S = true:=by
 rw [finL_all] at h ⊢
 intro x hx
 rw [apM_len] at h
 rw [hl] at hx
 obtain ⟨h1,h2,h3⟩:=place_in hx
 have hf:fFin (elM c (apM r c S i k vs tau) (x / c) (x % c)) = true:=by
  have:=h x hx
  unfold elM
  rwa [h3]
 rw [el_ap r c S i k vs tau h1 h2] at hf
 have e:S.getD x 0 = elM c S (x / c) (x % c):=by unfold elM;rw [h3]
 rw [e]
 split at hf
 ·rename_i g
  rw [apL_at c S i (x % c) vs tau (j:=x / c - i) (by omega)] at hf
  have:=aV_left _ _ hf
  rwa [show i+(x / c - i) = x / c by omega] at this
 ·exact hf
theorem qrQ_left (r c:Nat) (S:List Nat) (K:Nat):∀ t d,finL (qrQ r c S K (t+d)) = true→finL (qrQ r c S K t) = true:=by
 intro t d
 induction d with
 | zero=>exact fun h=>h
 | succ d ih=>exact fun h=>ih (ap_left (qrQ_len r c S K (t+d)) _ _ _ _ h)
theorem pa_self (r c:Nat) (S:List Nat) (h:S.length = r * c):paM c S 0 0 r c = S:=by
 conv=>rhs;rw [← mkM_of r c S h]
 unfold paM
 refine mkM_congr (fun p q _ _=>?_)
 rw [Nat.zero_add,Nat.zero_add]
 rfl
theorem triangle_any (r c cap:Nat) (ao:Option Addr) (S:List Nat) (w:World) (h:Mx w ao cap r c S) (hT:Tab w) :
  Calls Tryz.prog 177 #[.agg #[.int .i64 r,.int .i64 c,.slice ao S.length cap]] w fun e w'=>TriAns w w' (qrK r c S (qrN r c)) r c S.length (qrN r c) (facR r c S) (fun j=>mrV (qrX r c S j)) (fun j=>mrT (qrX r c S j)) e∧Below w.heap.size w w':=by
 have hl:=h.2.1
 have r6:=h.2.2.1
 have c6:=h.2.2.2
 have lR:=fun j=>(qrR_len r c S hl j).trans hl.symm
 have lX:∀ j,(qrX r c S j).length = r - j:=qrX_len r c S
 have lV:∀ j,(mrV (qrX r c S j)).length = r - j:=fun j=>by rw [mrV_len,lX]
 refine qtri_of r c S.length cap (qrN r c) (min (c:Int) ((r:Int) - 1)) ao (qrR r c S) (fun j=>mrV (qrX r c S j)) (fun j=>mrT (qrX r c S j)) (fun j=>finL (qrX r c S j) && mrK (qrX r c S j)) (qrK r c S (qrN r c)) w r6 c6 rfl (fun j=>by rw [qrN_lt];omega) lR lV (fun j _=>qrR_lt h.1.nat (j+1)) ?_ ?_ ?_
 ·rw [qrK_all]
  exact ⟨fun q j hj=>by rw [(q j hj).1,(q j hj).2];rfl,fun q j hj=>by have:=q j hj;rwa [Bool.and_eq_true] at this⟩
 ·intro w' hb
  refine (mPart_ok r c cap 0 0 r c ao S w' (h.below hb) (by omega) (by omega)).mono ?_
  rintro e w'' ⟨v,rfl,⟨po,pc,rfl,hn,hx⟩,hb2⟩
  rw [pa_self r c S hl] at hn hx ⊢
  exact ⟨po,pc,rfl,hn,hx,hb2⟩
 ·intro w1 j po pc hj hb1 hp
  have hj2:=(qrN_lt r c j).1 hj
  have hT1:=hT.all hb1
  refine down_of r c S.length pc j (r - j) (mrT (qrX r c S j)) (mrB (qrX r c S j)) po (qrR r c S j) (apM r c (qrR r c S j) j j (mrV (qrX r c S j)) (mrT (qrX r c S j))) (qrR r c S (j+1)) (qrX r c S j) (mrV (qrX r c S j)) _ w1 r6 (by omega) rfl hp (fun w' hb=>?_) (fun w' bo d ho hb hx=>?_) (fun w' bo d ho hb hx=>?_) (fun w' vo vc hb hp hv=>?_) (fun w' g hrow=>?_)
  ·have:=mPart_ok r c pc j j (r - j) 1 po (qrR r c S j) w' ⟨hb,qrR_len r c S hl j,r6,c6⟩ (by omega) (by omega)
   rw [lR j] at this
   refine this.mono ?_
   rintro e w'' ⟨v,rfl,⟨bo,d,rfl,hn,hx⟩,hb2⟩
   rw [pa_col] at hx ⊢
   rw [colL_len]
   exact ⟨bo,d,rfl,hx,hb2⟩
  ·rw [Bool.and_eq_true] at ho
   have:=hMake_ok bo d (mxL (qrX r c S j)) w' hx (by rw [mxL_len,lX];omega) (by rw [mxL_len,lX];omega) (by rw [mxL_len];exact ho.1) (by rw [toN_mxL];exact ho.2) (hT1.all hb)
   rw [toN_mxL,mxL_len,lX] at this
   exact this
  ·cases hf:finL (qrX r c S j)
   ·have:=hMake_inf bo d (mxL (qrX r c S j)) w' hx (by rw [mxL_len,lX];omega) (by rw [mxL_len,lX];omega) (by rw [mxL_len];exact hf)
    rw [mxL_len,lX] at this
    refine this.mono ?_
    rintro e w'' ⟨so,cs,rfl,hb2⟩
    exact ⟨so,cs,4,rfl,.inr rfl,hb2⟩
   ·have hk:mrK (qrX r c S j) = false:=by
     have:=ho
     rw [hf,Bool.true_and] at this
     exact this
    have:=hMake_none bo d (mxL (qrX r c S j)) w' hx (by rw [mxL_len,lX];omega) (by rw [mxL_len,lX];omega) (by rw [mxL_len];exact hf) (by rw [toN_mxL];exact hk) (hT1.all hb)
    rw [mxL_len,lX] at this
    refine this.mono ?_
    rintro e w'' ⟨so,cs,rfl,hb2⟩
    exact ⟨so,cs,2,rfl,.inl rfl,hb2⟩
  ·have:=hApply_row r c pc j j vc (mrT (qrX r c S j)) po vo (qrR r c S j) (mrV (qrX r c S j)) w' ⟨hp,qrR_len r c S hl j,r6,c6⟩ hv (by rw [lV];omega) (by omega) (mrT_lt _) (hT1.all hb)
   rw [lR j,lV] at this
   refine this.mono ?_
   rintro e w'' ⟨g,rfl,hg,hr,hb2⟩
   exact ⟨g,rfl,by omega,hr,hb2⟩
  ·have:=settle_any r c j (mrB (qrX r c S j)) g _ w' r6 c6 (by omega) (by omega) (apM_len r c (qrR r c S j) j j (mrV (qrX r c S j)) (mrT (qrX r c S j))) hrow
   rw [apM_len,← hl] at this
   exact this
theorem upright_any (r c lc:Nat) (lo:Option Addr) (S:List Nat) (R:List Mr) (w:World) (hr:r≤6) (hc:c≤6) (hl:OwnMt 0 w (.slice lo (qrN r c) lc) R) (hRl:R.length = qrN r c) (hRm:∀ k,k < qrN r c→(mrAt R k).V = mrV (qrX r c S k)∧(mrAt R k).tau = mrT (qrX r c S k)) (hT:Tab w) :
  Calls Tryz.prog 178 #[.int .i64 r,.slice lo (qrN r c) lc] w fun e w'=>∃ Q qo qc,(Q = facQ r c S ∨ (fnK (mxL Q) (r * r) = false∧finL (facQ r c S) = false))∧Q.length = r * r∧e = .returned (.agg #[.int .i64 r,.int .i64 r,.slice qo (r * r) qc])∧NewB w.heap.size qo (mxL Q)∧BitsAt w' qo qc (mxL Q)∧Below w.heap.size w w':=by
 have lX:∀ j,(qrX r c S j).length = r - j:=qrX_len r c S
 have lV:∀ j,(mrV (qrX r c S j)).length = r - j:=fun j=>by rw [mrV_len,lX]
 have hK:qrN r c≤6:=by unfold qrN;omega
 refine (upright_of r (r * r) (qrN r c) lc lo (fun j=>mrV (qrX r c S j)) (qrQ r c S (qrN r c)) (fun j=>mrT (qrX r c S j)) R w (Nat.mul_le_mul hr hr) hK hl hRl hRm (qrQ_len r c S _) lV ?_ ?_ (fun w' x hx=>sfinite_any x w' hx)).mono ?_
 ·intro w'
  refine (mEye_ok r w' hr).mono ?_
  rintro e w'' ⟨v,rfl,⟨qo,qc,rfl,hn,hb⟩,hb2⟩
  exact ⟨qo,qc,by rw [show (eyM r).length = r * r from mkM_len r r _],hn,hb,hb2⟩
 ·intro w' t j po pc vo vc ht hj hb hp hv
  have hj2:=(qrN_lt r c j).1 (by omega)
  have:=hApply_ok r r pc j 0 vc (mrT (qrX r c S j)) po vo (qrQ r c S (qrN r c) t) (mrV (qrX r c S j)) w' ⟨hp,qrQ_len r c S _ t,hr,hr⟩ hv (by rw [lV];omega) (by omega) (mrT_lt _) (hT.all hb)
  rw [qrQ_len,lV] at this
  refine this.mono ?_
  rintro e w'' ⟨v,rfl,⟨qo,qc,rfl,hn,hx⟩,hb2⟩
  rw [apM_len]
  have e:apM r r (qrQ r c S (qrN r c) t) j 0 (mrV (qrX r c S j)) (mrT (qrX r c S j)) = qrQ r c S (qrN r c) (t+1):=by
   show _ = apM r r (qrQ r c S (qrN r c) t) (qrN r c - 1 - t) 0 (mrV (qrX r c S (qrN r c - 1 - t))) (mrT (qrX r c S (qrN r c - 1 - t)))
   rw [← hj]
  rw [e] at hn hx
  exact ⟨qo,qc,rfl,hn,hx,hb2⟩
 ·rintro e w' ⟨t,qo,qc,ht,hor,rfl,hn,hx,hb⟩
  refine ⟨_,qo,qc,?_,qrQ_len r c S _ t,rfl,hn,hx,hb⟩
  rcases hor with e | e
  ·left;rw [e];rfl
  ·right
   refine ⟨e,?_⟩
   cases hf:finL (facQ r c S)
   ·rfl
   ·have h2:=qrQ_left r c S (qrN r c) t (qrN r c - t) (by rw [show t+(qrN r c - t) = qrN r c by omega];exact hf)
    unfold finL at h2
    rw [qrQ_len,e] at h2
    cases h2
theorem qFactor_row (r c cap:Nat) (ao:Option Addr) (S:List Nat) (w:World) (h:Mx w ao cap r c S) (hf:finL S = true) (hT:Tab w) :
  Calls Tryz.prog 120 #[.agg #[.int .i64 r,.int .i64 c,.slice ao S.length cap]] w fun e w'=>((facK r c S = true∧FacYes w w' r c S.length (r * r) (qrN r c) (facQ r c S) (facR r c S) e) ∨ (facK r c S = false∧∃ v u,e = .returned (.tuple #[v,u,.int .i64 2])∧NewM w.heap.size w' 0 0 [] v∧NewM w.heap.size w' 0 0 [] u))∧Below w.heap.size w w':=by
 have hl:=h.2.1
 have r6:=h.2.2.1
 have c6:=h.2.2.2
 have h36:=h.small
 have hq36:r * r≤36:=Nat.mul_le_mul r6 r6
 have lr:(facR r c S).length = S.length:=(qrR_len r c S hl _).trans hl.symm
 have hck:ckE (r:Int) (c:Int) (mxL S) = 0:=by
  unfold ckE
  rw [mxL_len,mx_ok h]
  have:fnK (mxL S) S.length = true:=hf
  rw [this]
  rfl
 refine factor_of r c S.length (r * r) (qrN r c) cap ao (facR r c S) (facQ r c S) (fun j=>mrV (qrX r c S j)) (fun j=>mrT (qrX r c S j)) (qrK r c S (qrN r c)) (finL (facQ r c S)) (finL (facR r c S)) w lr (qrQ_len _ _ _ _ _) (by unfold finL;rw [show (facQ r c S).length = r * r from qrQ_len _ _ _ _ _]) ?_ (fun w' hb=>triangle_any r c cap ao S w' (h.below hb) (hT.all hb)) (fun w' lo lc R hb h1 h2 h3=>upright_any r c lc lo S R w' r6 c6 h1 h2 h3 (hT.all hb)) ?_ ?_
 ·intro w' hb
  have:=ccheck_any r c ao cap (mxL S) w' (h.1.below hb) (by rw [mxL_len];omega)
  rw [mxL_len,hck] at this
  exact this
 ·intro w' Q qo qc hb hl2
  have:=vFinite_any qo qc (mxL Q) w' hb (by rw [mxL_len];omega)
  rw [mxL_len,hl2] at this
  exact this
 ·intro w' ro rc hb
  have:=vFinite_any ro rc (mxL (facR r c S)) w' hb (by rw [mxL_len];omega)
  unfold finL
  rw [mxL_len,lr] at this
  rw [lr]
  exact this
theorem qFactor_any (r c cap:Nat) (ao:Option Addr) (S:List Nat) (w:World) (h:Mx w ao cap r c S) (hf:finL S = true) (hT:Tab w) :
  Calls Tryz.prog 120 #[.agg #[.int .i64 r,.int .i64 c,.slice ao S.length cap]] w fun e w'=>((facK r c S = true∧∃ v u,e = .returned (.tuple #[v,u,.int .i64 0])∧NewM w.heap.size w' r r (facQ r c S) v∧NewM w.heap.size w' r c (facR r c S) u) ∨ (facK r c S = false∧∃ v u,e = .returned (.tuple #[v,u,.int .i64 2])∧NewM w.heap.size w' 0 0 [] v∧NewM w.heap.size w' 0 0 [] u))∧Below w.heap.size w w':=by
 refine (qFactor_row r c cap ao S w h hf hT).mono ?_
 rintro e w' ⟨⟨hk,h1⟩ | h1,hb⟩
 ·exact ⟨.inl ⟨hk,h1.two (qrQ_len _ _ _ _ _) ((qrR_len r c S h.2.1 _).trans h.2.1.symm)⟩,hb⟩
 ·exact ⟨.inr h1,hb⟩
theorem qFactor_yes (r c cap:Nat) (ao:Option Addr) (S:List Nat) (w:World) (h:Mx w ao cap r c S) (hf:finL S = true) (hk:facK r c S = true) (hT:Tab w) :
  Calls Tryz.prog 120 #[.agg #[.int .i64 r,.int .i64 c,.slice ao S.length cap]] w fun e w'=>∃ v u,e = .returned (.tuple #[v,u,.int .i64 0])∧NewM w.heap.size w' r r (facQ r c S) v∧NewM w.heap.size w' r c (facR r c S) u∧Below w.heap.size w w':=by
 refine (qFactor_any r c cap ao S w h hf hT).mono ?_
 rintro e w' ⟨⟨_,v,u,rfl,h1,h2⟩ | ⟨hk2,_⟩,hb⟩
 ·exact ⟨v,u,rfl,h1,h2,hb⟩
 ·rw [hk] at hk2;cases hk2
theorem qFactor_no (r c cap:Nat) (ao:Option Addr) (S:List Nat) (w:World) (h:Mx w ao cap r c S) (hf:finL S = true) (hk:facK r c S = false) (hT:Tab w) :
  Calls Tryz.prog 120 #[.agg #[.int .i64 r,.int .i64 c,.slice ao S.length cap]] w fun e w'=>∃ v u,e = .returned (.tuple #[v,u,.int .i64 2])∧NewM w.heap.size w' 0 0 [] v∧NewM w.heap.size w' 0 0 [] u∧Below w.heap.size w w':=by
 refine (qFactor_any r c cap ao S w h hf hT).mono ?_
 rintro e w' ⟨⟨hk2,_⟩ | ⟨_,v,u,rfl,h1,h2⟩,hb⟩
 ·rw [hk] at hk2;cases hk2
 ·exact ⟨v,u,rfl,h1,h2,hb⟩
theorem qThin_yes (r c cap:Nat) (ao:Option Addr) (S:List Nat) (w:World) (h:Mx w ao cap r c S) (hf:finL S = true) (hk:facK r c S = true) (hT:Tab w) :
  Calls Tryz.prog 69 #[.agg #[.int .i64 r,.int .i64 c,.slice ao S.length cap]] w fun e w'=>∃ v u,e = .returned (.tuple #[v,u,.int .i64 0])∧NewM w.heap.size w' r (min r c) (paM r (facQ r c S) 0 0 r (min r c)) v∧NewM w.heap.size w' (min r c) c (paM c (facR r c S) 0 0 (min r c) c) u∧Below w.heap.size w w':=by
 have r6:=h.2.2.1
 have c6:=h.2.2.2
 have lq:(facQ r c S).length = r * r:=qrQ_len _ _ _ _ _
 have lr:(facR r c S).length = r * c:=qrR_len r c S h.2.1 _
 refine thin_of r c S.length cap (min r c) (r * r) (r * c) (r * min r c) (min r c * c) ao (facQ r c S) (facR r c S) _ _ w (by omega) lq lr (mkM_len _ _ _) (mkM_len _ _ _) (fun w' hb=>qFactor_yes r c cap ao S w' (h.below hb) hf hk (hT.all hb)) (fun w' qo qc hq=>?_) (fun w' ro rc hr=>?_)
 ·have:=mPart_ok r r qc 0 0 r (min r c) qo (facQ r c S) w' ⟨hq,lq,r6,r6⟩ (by omega) (by omega)
  rw [lq] at this
  exact this
 ·have:=mPart_ok r c rc 0 0 (min r c) c ro (facR r c S) w' ⟨hr,lr,r6,c6⟩ (by omega) (by omega)
  rw [lr] at this
  exact this
theorem qThin_no (r c cap:Nat) (ao:Option Addr) (S:List Nat) (w:World) (h:Mx w ao cap r c S) (hf:finL S = true) (hk:facK r c S = false) (hT:Tab w) :
  Calls Tryz.prog 69 #[.agg #[.int .i64 r,.int .i64 c,.slice ao S.length cap]] w fun e w'=>∃ v u,e = .returned (.tuple #[v,u,.int .i64 2])∧NewM w.heap.size w' 0 0 [] v∧NewM w.heap.size w' 0 0 [] u∧Below w.heap.size w w' :=
 thin_err r c ao S.length cap 2 w (.inr (.inr rfl)) (fun w' hb=>qFactor_no r c cap ao S w' (h.below hb) hf hk (hT.all hb))
theorem qTurned_yes (r c s cap d:Nat) (ao bo:Option Addr) (S T:List Nat) (w:World) (h:Mx w ao cap r c S) (h2:Mx w bo d r s T) (hT:Tab w) :
  Calls Tryz.prog 71 #[.agg #[.int .i64 r,.int .i64 c,.slice ao S.length cap],.agg #[.int .i64 r,.int .i64 s,.slice bo T.length d]] w fun e w'=>∃ v,e = .returned (.tuple #[v,.int .i64 0])∧NewM w.heap.size w' c s (muM c r s (tuM r c S) T) v∧Below w.heap.size w w':=by
 have lt:(tuM r c S).length = c * r:=mkM_len _ _ _
 refine qturned_of r c ao S.length cap r s bo T.length d (c * r) _ c r c s (tuM r c S) (muM c r s (tuM r c S) T) 0 w lt rfl (fun w' hb=>mTurn_ok r c cap ao S w' (h.below hb)) (fun w' po pc hb hx=>?_)
 have:=mMul_ok c r pc s d po bo (tuM r c S) T w' ⟨hx,lt,h.2.2.2,h.2.2.1⟩ (h2.below hb) (hT.all hb)
 rw [lt] at this
 exact this
end Go.Proofs.YtdhmglmccafbnaaGreatDoor
