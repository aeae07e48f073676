/- Part 30 of the texts. -/
import Derived.Test.YtnnfjeieennffaaGreatDoorParte29
import Derived.Test.YtnnfjeieennffaaGreatDoorParte27
import Derived.Test.YtnnfjeieennffaaGreatDoorParte25
import Derived.Test.YtnnfjeieennffaaGreatDoorParte21
import Derived.Test.YtnnfjeieennffaaGreatDoorParte22
import Derived.Test.YtnnfjeieennffaaGreatDoorParte19
import Derived.Test.YtnnfjeieennffaaGreatDoorParte20
import Derived.Test.YtnnfjeieennffaaGreatDoorParte17
import Derived.Test.YtnnfjeieennffaaGreatDoorParte18
import Derived.Deep.Cut
import Derived.BigQuiet
import Derived.Test.YtnnfjeieennffaaGreatDoorParte16
import Derived.Test.YtnnfjeieennffaaGreatDoorParte13
set_option maxHeartbeats 4000000
set_option maxRecDepth 20000
namespace Go.Proofs.YtnnfjeieennffaaGreatDoor
open Go.RowKit
def apV (t:Nat):List Nat→List Nat→List Nat
 | v :: vs,y :: ys=>aV y (fN (mV t v)) :: apV t vs ys
 | _,_=>[]
end Go.Proofs.YtnnfjeieennffaaGreatDoor
namespace Go.Proofs.YtnnfjeieennffaaGreatDoor
open Go.RowKit
def TopV (K:Int) (xs:List Nat):Prop:=(∀ x ∈ xs,x < 18446744073709551616∧fFin x = true)∧(bgF 0 xs = 0 ∨ (-K≤eX (bgF 0 xs)∧eX (bgF 0 xs) < K))
theorem top_big (K:Int) (xs:List Nat) (h:TopV K xs) (h0:bgF 0 xs ≠ 0) :
  bgF 0 xs < 9218868437227405312∧fFin (bgF 0 xs) = true∧fK (bgF 0 xs) ≠ 0∧fS (bgF 0 xs) = false∧-K≤eX (bgF 0 xs)∧eX (bgF 0 xs) < K ∧
  (∀ x ∈ xs,ab (fQ x)≤fQ (bgF 0 xs))∧(∀ x ∈ xs,ab (dQ (eX (bgF 0 xs)) x)≤2)∧(∃ x ∈ xs,ab (fQ x) = fQ (bgF 0 xs)∧1≤dQ (eX (bgF 0 xs)) x * dQ (eX (bgF 0 xs)) x):=by
 obtain ⟨g1,g2,g3,g4⟩:=bgF_fin xs 0 (by decide) (fun x hx=>(h.1 x hx).2)
 have h2:=h.2
 generalize hM:bgF 0 xs = M at *
 obtain ⟨a1,a2,a3⟩:=mag_fZ M (by omega)
 have fM:fFin M = true:=(fK_rungs M).2.2.2 (by rw [a2];exact g1)
 have kM:fK M ≠ 0:=fun e=>h0 (by have:=(fK_zero M).1 e;omega)
 have q0:=fQ_pos M a3
 have qM:fQ M = (rv M:Rat) * p2 (-1074):=by rw [fQ_sign,a3,a2];rfl
 obtain ⟨t1,t2⟩:=eX_top M (by omega) fM kM
 rw [ab_pos q0] at t1 t2
 have hall:∀ x ∈ xs,ab (fQ x)≤fQ M:=fun x hx=>by
  rw [fQ_ab,qM]
  have h1:(rv (fR x):Rat)≤(rv M:Rat):=Rat.natCast_le_natCast.2 (rv_mono (g3 x hx))
  have:=Rat.mul_le_mul_of_nonneg_left h1 (Rat.le_of_lt (p2_pos (-1074)))
  grind
 obtain ⟨y,hy,hy2⟩:∃ x ∈ xs,fR x = M:=by
  rcases g4 with g4 | g4
  ·exact absurd g4 h0
  ·exact g4
 clear g4
 have ey:ab (fQ y) = fQ M:=by rw [fQ_ab,qM,hy2]
 have hp:=p2_pos (-eX M)
 have hpp:p2 (-eX M) * p2 (eX M) = 1:=p2_neg _
 rw [p2_succ] at t2
 have u1:=Rat.mul_le_mul_of_nonneg_left t1 (Rat.le_of_lt hp)
 have u2:=Rat.mul_lt_mul_of_pos_left t2 hp
 have hd:∀ x,ab (dQ (eX M) x) = ab (fQ x) * p2 (-eX M):=fun x=>by
  unfold dQ;rw [ab_mul,ab_pos (Rat.le_of_lt hp)]
 have hr:=h2.resolve_left h0
 refine ⟨g1,fM,kM,a3,hr.1,hr.2,hall,?_,y,hy,ey,?_⟩
 ·intro x hx
  rw [hd]
  have:=Rat.mul_le_mul_of_nonneg_left (hall x hx) (Rat.le_of_lt hp)
  grind
 ·have e1:1≤ab (dQ (eX M) y):=by rw [hd,ey];grind
  have e2:dQ (eX M) y * dQ (eX M) y = ab (dQ (eX M) y) * ab (dQ (eX M) y):=by
   rw [← ab_mul];exact (ab_pos (sq_nonneg _)).symm
  rw [e2]
  have:=Rat.mul_nonneg (show 0≤ab (dQ (eX M) y) - 1 by grind) (show 0≤ab (dQ (eX M) y) - 1 by grind)
  grind
end Go.Proofs.YtnnfjeieennffaaGreatDoor
namespace Go.Proofs.YtnnfjeieennffaaGreatDoor
open Go.RowKit
def gw (ε:Rat):Nat→Rat
 | 0=>1
 | k+1=>(1+2 * ε) * gw ε k
def bk (ε:Rat):Nat→Rat
 | 0=>0
 | k+1=>3+(1+2 * ε) * (1+2 * ε) * bk ε k
def er (ε δ:Rat):Nat→Rat
 | 0=>0
 | k+1=>gw ε k+er ε δ k * (1+2 * ε+δ)
end Go.Proofs.YtnnfjeieennffaaGreatDoor
namespace Go.Proofs.YtnnfjeieennffaaGreatDoor
open Go.RowKit
attribute [local go_sem ↓] Go.wp_at_zero Go.wp_at_succ
theorem r9biggest_any (ao:Option Addr) (c:Nat) (I:List Int) (w:World) (hI:BitsAt w ao c I) (hn:I.length≤35184372088830) :
  Calls Tryz.prog 125 #[.slice ao I.length c] w fun e w'=>e = .returned (.int .u64 (bgK I I.length:Nat))∧Below w.heap.size w w':=by
 have HI:=hide hI
 obtain ⟨n,hnn⟩:∃ n,I.length = n:=⟨_,rfl⟩
 rw [hnn] at hn ⊢
 have HN:=hide hnn
 clear hI hnn
 go_enter Tryz.func125,Tryz.ntmps125
 go_wp2_with fail
 go_loopw [3,4] (fun t i wr=>∃ k:Nat,k≤n∧i = .int .i64 k∧t = .int .u64 (bgK I k:Nat)∧Hid (Below w.heap.size w wr)) (fun _ i _=>n - (intOf i).toNat)
 case atStart=>exact ⟨0,Nat.zero_le _,rfl,rfl,Below.refl _ _⟩
 case round =>
  obtain ⟨k,hk,rfl,rfl,hB⟩:=hrel
  by_cases hlt:k < n
  ·have hkI:(k:Int) < (n:Int):=by omega
   obtain ⟨b,off,hao,hb,hc⟩:=((uH HI).below hB.out).ne (by rw [uH HN];omega)
   have hck:=hc k (by rw [uH HN];exact hlt)
   have C1:=hide (fun w'=>r8abs_any (atB I k) w' ((uH HI).lt k))
   have C2:=hide (fun w'=>r8max_any (bgK I k) (fR (atB I k)) w' (bgK_lt I k) (by have:=fR_lt (atB I k);omega))
   have eV:Hid (bgK I (k+1) = mx (bgK I k) (fR (atB I k))):=rfl
   subst hao
   clear hc
   generalize mx (bgK I k) (fR (atB I k)) = o at *
   generalize fR (atB I k) = r at *
   generalize atB I k = x at *
   generalize bgK I k = tv at *
   go_wp2_with fail
   refine (uH C1 _).mono ?_
   rintro e w2 ⟨rfl,rfl⟩
   go_wp2_with fail
   refine (uH C2 _).mono ?_
   rintro e w2 ⟨rfl,hb2⟩
   have B2:Hid (Below w.heap.size w w2):=hB.out.trans (hb2.mono hB.out.size)
   clear hb2 C1 C2
   go_wp2_with fail
   go_round
   case rel=>exact ⟨k+1,by omega,by go_num,by rw [eV.out],B2⟩
   case measure=>simp [intOf];omega
  ·have hkk:k = n:=by omega
   subst hkk
   go_wp2_with fail
   exact bodyPost_ret (v:=.int .u64 (bgK I k:Nat)) (by simp [results,Tryz.results125,go_sem]) rfl ⟨rfl,hB.out⟩
theorem fnK_down (I:List Int):∀ (m k:Nat),k≤m→fnK I m = true→fnK I k = true:=by
 intro m
 induction m with
 | zero=>intro k hk _;rw [show k = 0 by omega];rfl
 | succ m ih =>
  intro k hk h
  have h':(fnK I m && fFin (atB I m)) = true:=h
  rw [Bool.and_eq_true] at h'
  by_cases e:k = m+1
  ·subst e;exact h
  ·exact ih k (by omega) h'.1
theorem fnK_no (I:List Int) (n k:Nat) (hk:k < n) (h:fFin (atB I k) = false):fnK I n = false:=by
 cases e:fnK I n
 ·rfl
 ·have h2:(fnK I k && fFin (atB I k)) = true:=fnK_down I n (k+1) (by omega) e
  rw [h,Bool.and_false] at h2
  cases h2
theorem r9finite_any (ao:Option Addr) (c:Nat) (I:List Int) (w:World) (hI:BitsAt w ao c I) (hn:I.length≤35184372088830) :
  Calls Tryz.prog 34 #[.slice ao I.length c] w fun e w'=>e = .returned (.bool (fnK I I.length))∧Below w.heap.size w w':=by
 have HI:=hide hI
 obtain ⟨n,hnn⟩:∃ n,I.length = n:=⟨_,rfl⟩
 rw [hnn] at hn ⊢
 have HN:=hide hnn
 clear hI hnn
 obtain ⟨v,hv⟩:∃ v,fnK I n = v:=⟨_,rfl⟩
 rw [hv]
 have HV:=hide hv
 clear hv
 go_enter Tryz.func34,Tryz.ntmps34
 go_wp2_with fail
 go_loopw [3] (fun i wr=>∃ k:Nat,k≤n∧i = .int .i64 k∧Hid (fnK I k = true)∧Hid (Below w.heap.size w wr)) (fun i _=>n - (intOf i).toNat)
 case atStart=>exact ⟨0,Nat.zero_le _,rfl,rfl,Below.refl _ _⟩
 case round =>
  obtain ⟨k,hk,rfl,hq,hB⟩:=hrel
  by_cases hlt:k < n
  ·have hkI:(k:Int) < (n:Int):=by omega
   obtain ⟨b,off,hao,hb,hc⟩:=((uH HI).below hB.out).ne (by rw [uH HN];omega)
   have hck:=hc k (by rw [uH HN];exact hlt)
   have C1:=hide (fun w'=>rfinite_any (atB I k) w' ((uH HI).lt k))
   have eV:Hid (fnK I (k+1) = (fnK I k && fFin (atB I k))):=rfl
   have eF:=hide (fun h=>fnK_no I n k hlt h)
   subst hao
   clear hc
   generalize atB I k = x at *
   cases hf:fFin x
   ·have e2:=hide ((uH HV).symm.trans (uH eF hf))
    rw [hf] at C1
    have hv2:=uH e2
    subst hv2
    go_wp2_with fail
    refine (uH C1 _).mono ?_
    rintro e w2 ⟨rfl,rfl⟩
    clear C1
    go_wp2_with fail
    exact bodyPost_ret (v:=.bool false) (by simp [results,Tryz.results34,go_sem]) rfl ⟨rfl,hB.out⟩
   ·rw [hf] at C1 eV
    go_wp2_with fail
    refine (uH C1 _).mono ?_
    rintro e w2 ⟨rfl,rfl⟩
    clear C1
    go_wp2_with fail
    go_round
    case rel=>exact ⟨k+1,by omega,by go_num,by unfold Hid;rw [eV.out,hq.out];rfl,hB⟩
    case measure=>simp [intOf];omega
  ·have hkk:k = n:=by omega
   subst hkk
   have e2:=(uH HV).symm.trans hq.out
   subst e2
   go_wp2_with fail
   exact bodyPost_ret (v:=.bool true) (by simp [results,Tryz.results34,go_sem]) rfl ⟨rfl,hB.out⟩
end Go.Proofs.YtnnfjeieennffaaGreatDoor
namespace Go.Proofs.YtnnfjeieennffaaGreatDoor
open Go.RowKit
attribute [local go_sem ↓] Go.wp_at_zero Go.wp_at_succ
def sqK (I:List Int):Nat→Int
 | 0=>0
 | k+1=>sqK I k+fZ (atB I k) * fZ (atB I k)
end Go.Proofs.YtnnfjeieennffaaGreatDoor
