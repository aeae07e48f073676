/- Part 30 of the texts. -/
import Derived.Test.YtfkndkaneffgdaaGreatDoorPartB29
import Derived.Test.YtfkndkaneffgdaaGreatDoorPartB27
import Derived.Test.YtfkndkaneffgdaaGreatDoorPartB25
import Derived.Test.YtfkndkaneffgdaaGreatDoorPartB19
import Derived.Test.YtfkndkaneffgdaaGreatDoorPartB20
import Derived.Test.YtfkndkaneffgdaaGreatDoorPartB17
import Derived.Test.YtfkndkaneffgdaaGreatDoorPartB18
import Derived.Deep.Cut
import Derived.BigQuiet
import Derived.Test.YtfkndkaneffgdaaGreatDoorPartB16
import Derived.Test.YtfkndkaneffgdaaGreatDoorPartB21
import Derived.Test.YtfkndkaneffgdaaGreatDoorPartB13
namespace Go.Proofs.YtfkndkaneffgdaaGreatDoor
open Go.RowKit
def gw (ε:Rat):Nat→Rat
 | 0=>1
 | k+1=>(1+2 * ε) * gw ε k
def bk (ε:Rat):Nat→Rat
 | 0=>0
 | k+1=>3+(1+2 * ε) * (1+2 * ε) * bk ε k
def er (ε δ:Rat):Nat→Rat
 | 0=>0
 | k+1=>gw ε k+er ε δ k * (1+2 * ε+δ)
end Go.Proofs.YtfkndkaneffgdaaGreatDoor
namespace Go.Proofs.YtfkndkaneffgdaaGreatDoor
open Go.RowKit
attribute [local go_sem ↓] Go.wp_at_zero Go.wp_at_succ
set_option maxRecDepth 20000 in
set_option maxHeartbeats 4000000 in
theorem r9biggest_any (ao:Option Addr) (c:Nat) (I:List Int) (w:World) (hI:BitsAt w ao c I) (hn:I.length≤35184372088830) :
  Calls Tryz.prog 80 #[.slice ao I.length c] w fun e w'=>e = .returned (.int .u64 (bgK I I.length:Nat))∧Below w.heap.size w w':=by
 have HI:=hide hI
 obtain ⟨n,hnn⟩:∃ n,I.length = n:=⟨_,rfl⟩
 rw [hnn] at hn ⊢
 have HN:=hide hnn
 clear hI hnn
 go_enter Tryz.func80,Tryz.ntmps80
 go_wp2_with fail
 go_loopw [3,4] (fun t i wr=>∃ k:Nat,k≤n∧i = .int .i64 k∧t = .int .u64 (bgK I k:Nat)∧Hid (Below w.heap.size w wr)) (fun _ i _=>n - (intOf i).toNat)
 case atStart=>exact ⟨0,Nat.zero_le _,rfl,rfl,Below.refl _ _⟩
 case round =>
  obtain ⟨k,hk,rfl,rfl,hB⟩:=hrel
  by_cases hlt:k < n
  ·have hkI:(k:Int) < (n:Int):=by omega
   obtain ⟨b,off,hao,hb,hc⟩:=((uH HI).below hB.out).ne (by rw [uH HN];omega)
   have hck:=hc k (by rw [uH HN];exact hlt)
   have C1:=hide (fun w'=>r8abs_any (atB I k) w' ((uH HI).lt k))
   have C2:=hide (fun w'=>r8max_any (bgK I k) (fR (atB I k)) w' (bgK_lt I k) (by have:=fR_lt (atB I k);omega))
   have eV:Hid (bgK I (k+1) = mx (bgK I k) (fR (atB I k))):=rfl
   subst hao
   clear hc
   generalize mx (bgK I k) (fR (atB I k)) = o at *
   generalize fR (atB I k) = r at *
   generalize atB I k = x at *
   generalize bgK I k = tv at *
   go_wp2_with fail
   refine (uH C1 _).mono ?_
   rintro e w2 ⟨rfl,rfl⟩
   go_wp2_with fail
   refine (uH C2 _).mono ?_
   rintro e w2 ⟨rfl,hb2⟩
   have B2:Hid (Below w.heap.size w w2):=hB.out.trans (hb2.mono hB.out.size)
   clear hb2 C1 C2
   go_wp2_with fail
   go_round
   case rel=>exact ⟨k+1,by omega,by go_num,by rw [eV.out],B2⟩
   case measure=>simp [intOf];omega
  ·have hkk:k = n:=by omega
   subst hkk
   go_wp2_with fail
   exact bodyPost_ret (v:=.int .u64 (bgK I k:Nat)) (by simp [results,Tryz.results80,go_sem]) rfl ⟨rfl,hB.out⟩
theorem fnK_down (I:List Int):∀ (m k:Nat),k≤m→fnK I m = true→fnK I k = true:=by
 intro m
 induction m with
 | zero=>intro k hk _;rw [show k = 0 by omega];rfl
 | succ m ih =>
  intro k hk h
  have h':(fnK I m && fFin (atB I m)) = true:=h
  rw [Bool.and_eq_true] at h'
  by_cases e:k = m+1
  ·subst e;exact h
  ·exact ih k (by omega) h'.1
theorem fnK_no (I:List Int) (n k:Nat) (hk:k < n) (h:fFin (atB I k) = false):fnK I n = false:=by
 cases e:fnK I n
 ·rfl
 ·have h2:(fnK I k && fFin (atB I k)) = true:=fnK_down I n (k+1) (by omega) e
  rw [h,Bool.and_false] at h2
  cases h2
set_option maxRecDepth 20000 in
set_option maxHeartbeats 4000000 in
theorem r9finite_any (ao:Option Addr) (c:Nat) (I:List Int) (w:World) (hI:BitsAt w ao c I) (hn:I.length≤35184372088830) :
  Calls Tryz.prog 25 #[.slice ao I.length c] w fun e w'=>e = .returned (.bool (fnK I I.length))∧Below w.heap.size w w':=by
 have HI:=hide hI
 obtain ⟨n,hnn⟩:∃ n,I.length = n:=⟨_,rfl⟩
 rw [hnn] at hn ⊢
 have HN:=hide hnn
 clear hI hnn
 obtain ⟨v,hv⟩:∃ v,fnK I n = v:=⟨_,rfl⟩
 rw [hv]
 have HV:=hide hv
 clear hv
 go_enter Tryz.func25,Tryz.ntmps25
 go_wp2_with fail
 go_loopw [3] (fun i wr=>∃ k:Nat,k≤n∧i = .int .i64 k∧Hid (fnK I k = true)∧Hid (Below w.heap.size w wr)) (fun i _=>n - (intOf i).toNat)
 case atStart=>exact ⟨0,Nat.zero_le _,rfl,rfl,Below.refl _ _⟩
 case round =>
  obtain ⟨k,hk,rfl,hq,hB⟩:=hrel
  by_cases hlt:k < n
  ·have hkI:(k:Int) < (n:Int):=by omega
   obtain ⟨b,off,hao,hb,hc⟩:=((uH HI).below hB.out).ne (by rw [uH HN];omega)
   have hck:=hc k (by rw [uH HN];exact hlt)
   have C1:=hide (fun w'=>rfinite_any (atB I k) w' ((uH HI).lt k))
   have eV:Hid (fnK I (k+1) = (fnK I k && fFin (atB I k))):=rfl
   have eF:=hide (fun h=>fnK_no I n k hlt h)
   subst hao
   clear hc
   generalize atB I k = x at *
   cases hf:fFin x
   ·have e2:=hide ((uH HV).symm.trans (uH eF hf))
    rw [hf] at C1
    have hv2:=uH e2
    subst hv2
    go_wp2_with fail
    refine (uH C1 _).mono ?_
    rintro e w2 ⟨rfl,rfl⟩
    clear C1
    go_wp2_with fail
    exact bodyPost_ret (v:=.bool false) (by simp [results,Tryz.results25,go_sem]) rfl ⟨rfl,hB.out⟩
   ·rw [hf] at C1 eV
    go_wp2_with fail
    refine (uH C1 _).mono ?_
    rintro e w2 ⟨rfl,rfl⟩
    clear C1
    go_wp2_with fail
    go_round
    case rel=>exact ⟨k+1,by omega,by go_num,by unfold Hid;rw [eV.out,hq.out];rfl,hB⟩
    case measure=>simp [intOf];omega
  ·have hkk:k = n:=by omega
   subst hkk
   have e2:=(uH HV).symm.trans hq.out
   subst e2
   go_wp2_with fail
   exact bodyPost_ret (v:=.bool true) (by simp [results,Tryz.results25,go_sem]) rfl ⟨rfl,hB.out⟩
end Go.Proofs.YtfkndkaneffgdaaGreatDoor
namespace Go.Proofs.YtfkndkaneffgdaaGreatDoor
open Go.RowKit
attribute [local go_sem ↓] Go.wp_at_zero Go.wp_at_succ
set_option maxRecDepth 20000 in
set_option maxHeartbeats 4000000 in
theorem r9norm_odd (ao:Option Addr) (n c m:Nat) (f:Bool) (w:World) (hm:m = 0 ∨ (m ≠ 0∧f = false))
  (C1:Calls Tryz.prog 80 #[.slice ao n c] w fun e w''=>e = .returned (.int .u64 (m:Nat))∧Below w.heap.size w w'')
  (C2:∀ w',Calls Tryz.prog 48 #[.int .u64 m] w' fun e w''=>e = .returned (.bool f)∧w' = w'') :
  Calls Tryz.prog 50 #[.slice ao n c] w fun e w'=>e = .returned (.int .u64 (m:Nat))∧Below w.heap.size w w':=by
 have K1:=hide C1;have K2:=hide C2
 clear C1 C2
 rcases hm with rfl | ⟨h0,rfl⟩
 ·go_enter Tryz.func50,Tryz.ntmps50
  go_wp2_with fail
  refine Calls.mono (uH K1) ?_
  rintro e w1 ⟨rfl,hb1⟩
  clear K1 K2
  go_wp2
  go_ret
  exact ⟨rfl,hb1⟩
 ·have g0:((m:Int) == 0) = false:=by rw [beq_eq_false_iff_ne];omega
  clear h0
  go_enter Tryz.func50,Tryz.ntmps50
  go_wp2_with fail
  refine Calls.mono (uH K1) ?_
  rintro e w1 ⟨rfl,hb1⟩
  clear K1
  go_wp2_with fail
  refine (uH K2 _).mono ?_
  rintro e w2 ⟨rfl,rfl⟩
  clear K2
  go_wp2
  go_ret
  exact ⟨rfl,hb1⟩
set_option maxRecDepth 20000 in
set_option maxHeartbeats 4000000 in
theorem r9norm_even (ao:Option Addr) (c m:Nat) (k:Int) (I:List Int) (w:World) (hI:BitsAt w ao c I) (hn:I.length≤35184372088830) (h0:m ≠ 0) (hk:-5000≤k∧k≤5000)
  (C1:Calls Tryz.prog 80 #[.slice ao I.length c] w fun e w''=>e = .returned (.int .u64 (m:Nat))∧Below w.heap.size w w'')
  (C2:∀ w',Calls Tryz.prog 48 #[.int .u64 m] w' fun e w''=>e = .returned (.bool true)∧w' = w'')
  (C3:∀ w',Calls Tryz.prog 81 #[.int .u64 m] w' fun e w''=>e = .returned (.int .i64 k)∧Below w'.heap.size w' w'') :
  Calls Tryz.prog 50 #[.slice ao I.length c] w fun e w'=>e = .returned (.int .u64 (xV (sV (dtK (tL k I) (tL k I) I.length)) k:Nat))∧Below w.heap.size w w':=by
 have HI:=hide hI
 have K1:=hide C1;have K2:=hide C2;have K3:=hide C3
 have g0:((m:Int) == 0) = false:=by rw [beq_eq_false_iff_ne];omega
 have hw:IntKind.i64.wrap (-k) = -k:=by simp only [IntKind.wrap_i64];omega
 have hw2:(0:Int) - k = -k:=by omega
 have HK:=hide hk
 have CF:=hide (fun w'=>r9sqrt_any (dtK (tL k I) (tL k I) I.length) w' (dtK_lt _ _ _))
 have CG:=hide (fun w'=>r9shift_any (sV (dtK (tL k I) (tL k I) I.length)) k w' (sV_lt _ (dtK_lt _ _ _)) hk)
 have HD:Hid (dtK (tL k I) (tL k I) 0 = 0):=rfl
 have HS:=hide (fun j (hj:j < I.length)=>show dtK (tL k I) (tL k I) (j+1) = aV (dtK (tL k I) (tL k I) j) (mV (xV (atB I j) (-k)) (xV (atB I j) (-k))) by
  show aV (dtK (tL k I) (tL k I) j) (mV (atB (tL k I) j) (atB (tL k I) j)) = _
  rw [show atB (tL k I) j = xV (atB I j) (-k) from mkL_at _ _ j hj])
 have HL:=hide (fun j=>dtK_lt (tL k I) (tL k I) j)
 generalize dtK (tL k I) (tL k I) = F at *
 obtain ⟨n,hnn⟩:∃ n,I.length = n:=⟨_,rfl⟩
 rw [hnn] at hn K1 HS CF CG ⊢
 have HN:=hide hnn
 clear hI hnn C1 C2 C3 h0 hk
 generalize xV (sV (F n)) k = rr at *
 generalize sV (F n) = ss at *
 go_enter Tryz.func50,Tryz.ntmps50
 go_wp2_with fail
 refine Calls.mono (uH K1) ?_
 rintro e w1 ⟨rfl,hb1⟩
 have B:=hide hb1
 clear K1 hb1
 go_wp2_with fail
 refine (uH K2 _).mono ?_
 rintro e w2 ⟨rfl,rfl⟩
 clear K2
 go_wp2_with fail
 refine (uH K3 _).mono ?_
 rintro e w2 ⟨rfl,hb2⟩
 have B2:=hide ((uH B).trans (hb2.mono (uH B).size))
 clear K3 hb2 B
 go_wp2_with fail
 go_loopw [5,6] (fun t i wr=>∃ j:Nat,j≤n∧i = .int .i64 j∧t = .int .u64 (F j:Nat)∧Hid (Below w.heap.size w wr)) (fun _ i _=>n - (intOf i).toNat)
 case atStart=>exact ⟨0,Nat.zero_le _,rfl,by rw [uH HD];rfl,B2⟩
 case round =>
  clear B2
  obtain ⟨j,hj,rfl,rfl,hB⟩:=hrel
  by_cases hlt:j < n
  ·have hjI:(j:Int) < (n:Int):=by omega
   obtain ⟨b,off,hao,hb,hc⟩:=((uH HI).below hB.out).ne (by rw [uH HN];omega)
   have hck:=hc j (by rw [uH HN];exact hlt)
   have x64:=(uH HI).lt j
   have D1:=hide (fun w'=>r9shift_any (atB I j) (-k) w' x64 (by have:=uH HK;omega))
   have D2:=hide (fun w'=>r9mul_any (xV (atB I j) (-k)) (xV (atB I j) (-k)) w' (xV_lt _ _ x64) (xV_lt _ _ x64))
   have D3:=hide (fun w'=>r9add_any (F j) (mV (xV (atB I j) (-k)) (xV (atB I j) (-k))) w' (uH HL j) (mV_lt _ _))
   have eV:=hide (uH HS j hlt)
   subst hao
   clear hc x64
   generalize aV (F j) (mV (xV (atB I j) (-k)) (xV (atB I j) (-k))) = o at *
   generalize mV (xV (atB I j) (-k)) (xV (atB I j) (-k)) = p at *
   generalize xV (atB I j) (-k) = t at *
   generalize atB I j = x at *
   go_wp2_with fail
   refine (uH D1 _).mono ?_
   rintro e w3 ⟨rfl,hb3⟩
   have B3:=hide (hB.out.trans (hb3.mono hB.out.size))
   clear hb3 D1 hB
   go_wp2_with fail
   refine (uH D2 _).mono ?_
   rintro e w4 ⟨rfl,hb4⟩
   have B4:=hide ((uH B3).trans (hb4.mono (uH B3).size))
   clear hb4 D2 B3
   go_wp2_with fail
   refine (uH D3 _).mono ?_
   rintro e w5 ⟨rfl,hb5⟩
   have B5:=hide ((uH B4).trans (hb5.mono (uH B4).size))
   clear hb5 D3 B4
   go_wp2_with fail
   go_round
   case rel=>exact ⟨j+1,by omega,by go_num,by rw [uH eV],B5⟩
   case measure=>simp [intOf];omega
  ·have hkk:j = n:=by omega
   subst hkk
   go_wp2_with fail
   refine (uH CF _).mono ?_
   rintro e w3 ⟨rfl,hb3⟩
   have B3:=hide (hB.out.trans (hb3.mono hB.out.size))
   clear hb3 CF hB
   go_wp2_with fail
   refine (uH CG _).mono ?_
   rintro e w4 ⟨rfl,hb4⟩
   have B4:=hide ((uH B3).trans (hb4.mono (uH B3).size))
   clear hb4 CG B3
   go_wp2
   exact bodyPost_ret (v:=.int .u64 (rr:Nat)) (by simp [results,Tryz.results50,go_sem]) rfl ⟨rfl,uH B4⟩
theorem r9norm_any (ao:Option Addr) (c:Nat) (I:List Int) (w:World) (hI:BitsAt w ao c I) (hn:I.length≤35184372088830) :
  Calls Tryz.prog 50 #[.slice ao I.length c] w fun e w'=>e = .returned (.int .u64 (nmV I:Nat))∧Below w.heap.size w w':=by
 have C1:=r9biggest_any ao c I w hI hn
 have hm:=bgK_lt I I.length
 have C2:=fun w'=>rfinite_any (bgK I I.length) w' hm
 unfold nmV
 by_cases h0:bgK I I.length = 0
 ·rw [if_pos (.inl h0)]
  exact r9norm_odd ao _ c _ _ w (.inl h0) C1 C2
 cases hf:fFin (bgK I I.length)
 ·rw [hf] at C2
  rw [if_pos (.inr rfl)]
  exact r9norm_odd ao _ c _ _ w (.inr ⟨h0,rfl⟩) C1 C2
 ·rw [hf] at C2
  rw [if_neg (fun e=>e.elim h0 (fun e=>by cases e))]
  have hr:=eX_range _ hm
  exact r9norm_even ao c _ _ I w hI hn h0 (by omega) C1 C2 (fun w'=>r8exp_any _ w' hm)
end Go.Proofs.YtfkndkaneffgdaaGreatDoor
namespace Go.Proofs.YtfkndkaneffgdaaGreatDoor
open Go.RowKit
attribute [local go_sem ↓] Go.wp_at_zero Go.wp_at_succ
def sqK (I:List Int):Nat→Int
 | 0=>0
 | k+1=>sqK I k+fZ (atB I k) * fZ (atB I k)
end Go.Proofs.YtfkndkaneffgdaaGreatDoor
namespace Go.Proofs.YtfkndkaneffgdaaGreatDoor
open Go.RowKit
def toN (I:List Int):List Nat:=I.map Int.toNat
theorem toN_len (I:List Int):(toN I).length = I.length:=by simp [toN]
theorem toN_at (I:List Int) (j:Nat) (hj:j < I.length):(toN I)[j]? = some (atB I j):=by simp [toN,atB,hj]
theorem toN_take (I:List Int) (j:Nat) (hj:j < I.length):(toN I).take (j+1) = (toN I).take j ++ [atB I j]:=by
 rw [List.take_add_one,toN_at I j hj]
 rfl
theorem toN_all (I:List Int) (P:Nat→Prop) (h:∀ j,j < I.length→P (atB I j)):∀ x ∈ toN I,P x:=by
 intro x hx
 obtain ⟨j,hj,rfl⟩:=List.getElem_of_mem hx
 have hj':j < I.length:=by rw [← toN_len];exact hj
 have e:=toN_at I j hj'
 rw [List.getElem?_eq_getElem hj] at e
 rw [Option.some.inj e]
 exact h j hj'
theorem bgF_snoc (x:Nat):∀ (xs:List Nat) (m:Nat),bgF m (xs ++ [x]) = mx (bgF m xs) (fR x):=by
 intro xs
 induction xs with
 | nil=>intro m;rfl
 | cons y ys ih=>intro m;exact ih _
theorem ssV_snoc (k:Int) (x:Nat):∀ (xs:List Nat) (s:Nat),ssV k s (xs ++ [x]) = sqV k (ssV k s xs) x:=by
 intro xs
 induction xs with
 | nil=>intro m;rfl
 | cons y ys ih=>intro m;exact ih _
theorem bgK_list (I:List Int):∀ j,j≤I.length→bgK I j = bgF 0 ((toN I).take j):=by
 intro j
 induction j with
 | zero=>intro _;rfl
 | succ j ih =>
  intro hj
  rw [toN_take I j (by omega),bgF_snoc,← ih (by omega)]
  rfl
theorem bgK_all (I:List Int):bgK I I.length = bgF 0 (toN I):=by
 rw [bgK_list I _ (Nat.le_refl _),List.take_of_length_le (by rw [toN_len];exact Nat.le_refl _)]
theorem dtK_list (k:Int) (I:List Int):∀ j,j≤I.length→dtK (tL k I) (tL k I) j = ssV k 0 ((toN I).take j):=by
 intro j
 induction j with
 | zero=>intro _;rfl
 | succ j ih =>
  intro hj
  rw [toN_take I j (by omega),ssV_snoc,← ih (by omega)]
  show aV (dtK (tL k I) (tL k I) j) (mV (atB (tL k I) j) (atB (tL k I) j)) = _
  rw [show atB (tL k I) j = xV (atB I j) (-k) from mkL_at _ _ j (by omega)]
  rfl
theorem dtK_all (k:Int) (I:List Int):dtK (tL k I) (tL k I) I.length = ssV k 0 (toN I):=by
 rw [dtK_list k I _ (Nat.le_refl _),List.take_of_length_le (by rw [toN_len];exact Nat.le_refl _)]
theorem nmV_nrV (I:List Int):nmV I = nrV (toN I):=by
 unfold nmV nrV
 rw [dtK_all,bgK_all]
end Go.Proofs.YtfkndkaneffgdaaGreatDoor
