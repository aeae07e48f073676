/- Part 28 of the texts. -/
import Derived.Test.YtlnphkioddknfaaGreatDoorParti26
import Derived.Test.YtlnphkioddknfaaGreatDoorParti24
import Derived.Test.YtlnphkioddknfaaGreatDoorParti20
import Derived.Laws.Cover2
import Derived.Laws.Externs
import Derived.Test.YtlnphkioddknfaaGreatDoorParti04
import Derived.Laws.FloatArith
import Derived.Test.YtlnphkioddknfaaGreatDoorParti22
import Derived.Test.YtlnphkioddknfaaGreatDoorParti19
import Derived.Test.YtlnphkioddknfaaGreatDoorParti17
import Derived.Test.YtlnphkioddknfaaGreatDoorParti18
import Derived.Deep.Cut
import Derived.BigQuiet
import Derived.Test.YtlnphkioddknfaaGreatDoorParti16
import Derived.Test.YtlnphkioddknfaaGreatDoorParti21
import Derived.Test.YtlnphkioddknfaaGreatDoorParti13
import Derived.Test.YtlnphkioddknfaaGreatDoorParti01
import Derived.Test.YtlnphkioddknfaaGreatDoorParti27
set_option maxHeartbeats 4000000
set_option maxRecDepth 20000
namespace Go.Proofs.YtlnphkioddknfaaGreatDoor
open Go.RowKit
attribute [local go_sem ↓] Go.wp_at_zero Go.wp_at_succ
theorem r9biggest_any (ao:Option Addr) (c:Nat) (I:List Int) (w:World) (hI:BitsAt w ao c I) (hn:I.length≤35184372088830) :
  Calls Tryz.prog 222 #[.slice ao I.length c] w fun e w'=>e = .returned (.int .u64 (bgK I I.length:Nat))∧Below w.heap.size w w':=by
 have HI:=hide hI
 obtain ⟨n,hnn⟩:∃ n,I.length = n:=⟨_,rfl⟩
 rw [hnn] at hn ⊢
 have HN:=hide hnn
 clear hI hnn
 go_enter Tryz.func222,Tryz.ntmps222
 go_wp2_with fail
 go_loopw [3,4] (fun t i wr=>∃ k:Nat,k≤n∧i = .int .i64 k∧t = .int .u64 (bgK I k:Nat)∧Hid (Below w.heap.size w wr)) (fun _ i _=>n - (intOf i).toNat)
 case atStart=>exact ⟨0,Nat.zero_le _,rfl,rfl,Below.refl _ _⟩
 case round =>
  obtain ⟨k,hk,rfl,rfl,hB⟩:=hrel
  by_cases hlt:k < n
  ·have hkI:(k:Int) < (n:Int):=by omega
   obtain ⟨b,off,hao,hb,hc⟩:=((uH HI).below hB.out).ne (by rw [uH HN];omega)
   have hck:=hc k (by rw [uH HN];exact hlt)
   have C1:=hide (fun w'=>r8abs_any (atB I k) w' ((uH HI).lt k))
   have C2:=hide (fun w'=>r8max_any (bgK I k) (fR (atB I k)) w' (bgK_lt I k) (by have:=fR_lt (atB I k);omega))
   have eV:Hid (bgK I (k+1) = mx (bgK I k) (fR (atB I k))):=rfl
   subst hao
   clear hc
   generalize mx (bgK I k) (fR (atB I k)) = o at *
   generalize fR (atB I k) = r at *
   generalize atB I k = x at *
   generalize bgK I k = tv at *
   go_wp2_with fail
   refine (uH C1 _).mono ?_
   rintro e w2 ⟨rfl,rfl⟩
   go_wp2_with fail
   refine (uH C2 _).mono ?_
   rintro e w2 ⟨rfl,hb2⟩
   have B2:Hid (Below w.heap.size w w2):=hB.out.trans (hb2.mono hB.out.size)
   clear hb2 C1 C2
   go_wp2_with fail
   go_round
   case rel=>exact ⟨k+1,by omega,by go_num,by rw [eV.out],B2⟩
   case measure=>simp [intOf];omega
  ·have hkk:k = n:=by omega
   subst hkk
   go_wp2_with fail
   exact bodyPost_ret (v:=.int .u64 (bgK I k:Nat)) (by simp [results,Tryz.results222,go_sem]) rfl ⟨rfl,hB.out⟩
theorem fnK_down (I:List Int):∀ (m k:Nat),k≤m→fnK I m = true→fnK I k = true:=by
 intro m
 induction m with
 | zero=>intro k hk _;rw [show k = 0 by omega];rfl
 | succ m ih =>
  intro k hk h
  have h':(fnK I m && fFin (atB I m)) = true:=h
  rw [Bool.and_eq_true] at h'
  by_cases e:k = m+1
  ·subst e;exact h
  ·exact ih k (by omega) h'.1
theorem fnK_no (I:List Int) (n k:Nat) (hk:k < n) (h:fFin (atB I k) = false):fnK I n = false:=by
 cases e:fnK I n
 ·rfl
 ·have h2:(fnK I k && fFin (atB I k)) = true:=fnK_down I n (k+1) (by omega) e
  rw [h,Bool.and_false] at h2
  cases h2
theorem r9finite_any (ao:Option Addr) (c:Nat) (I:List Int) (w:World) (hI:BitsAt w ao c I) (hn:I.length≤35184372088830) :
  Calls Tryz.prog 65 #[.slice ao I.length c] w fun e w'=>e = .returned (.bool (fnK I I.length))∧Below w.heap.size w w':=by
 have HI:=hide hI
 obtain ⟨n,hnn⟩:∃ n,I.length = n:=⟨_,rfl⟩
 rw [hnn] at hn ⊢
 have HN:=hide hnn
 clear hI hnn
 obtain ⟨v,hv⟩:∃ v,fnK I n = v:=⟨_,rfl⟩
 rw [hv]
 have HV:=hide hv
 clear hv
 go_enter Tryz.func65,Tryz.ntmps65
 go_wp2_with fail
 go_loopw [3] (fun i wr=>∃ k:Nat,k≤n∧i = .int .i64 k∧Hid (fnK I k = true)∧Hid (Below w.heap.size w wr)) (fun i _=>n - (intOf i).toNat)
 case atStart=>exact ⟨0,Nat.zero_le _,rfl,rfl,Below.refl _ _⟩
 case round =>
  obtain ⟨k,hk,rfl,hq,hB⟩:=hrel
  by_cases hlt:k < n
  ·have hkI:(k:Int) < (n:Int):=by omega
   obtain ⟨b,off,hao,hb,hc⟩:=((uH HI).below hB.out).ne (by rw [uH HN];omega)
   have hck:=hc k (by rw [uH HN];exact hlt)
   have C1:=hide (fun w'=>rfinite_any (atB I k) w' ((uH HI).lt k))
   have eV:Hid (fnK I (k+1) = (fnK I k && fFin (atB I k))):=rfl
   have eF:=hide (fun h=>fnK_no I n k hlt h)
   subst hao
   clear hc
   generalize atB I k = x at *
   cases hf:fFin x
   ·have e2:=hide ((uH HV).symm.trans (uH eF hf))
    rw [hf] at C1
    have hv2:=uH e2
    subst hv2
    go_wp2_with fail
    refine (uH C1 _).mono ?_
    rintro e w2 ⟨rfl,rfl⟩
    clear C1
    go_wp2_with fail
    exact bodyPost_ret (v:=.bool false) (by simp [results,Tryz.results65,go_sem]) rfl ⟨rfl,hB.out⟩
   ·rw [hf] at C1 eV
    go_wp2_with fail
    refine (uH C1 _).mono ?_
    rintro e w2 ⟨rfl,rfl⟩
    clear C1
    go_wp2_with fail
    go_round
    case rel=>exact ⟨k+1,by omega,by go_num,by unfold Hid;rw [eV.out,hq.out];rfl,hB⟩
    case measure=>simp [intOf];omega
  ·have hkk:k = n:=by omega
   subst hkk
   have e2:=(uH HV).symm.trans hq.out
   subst e2
   go_wp2_with fail
   exact bodyPost_ret (v:=.bool true) (by simp [results,Tryz.results65,go_sem]) rfl ⟨rfl,hB.out⟩
end Go.Proofs.YtlnphkioddknfaaGreatDoor
namespace Go.Proofs.YtlnphkioddknfaaGreatDoor
open Go.RowKit
attribute [local go_sem ↓] Go.wp_at_zero Go.wp_at_succ
def sqK (I:List Int):Nat→Int
 | 0=>0
 | k+1=>sqK I k+fZ (atB I k) * fZ (atB I k)
end Go.Proofs.YtlnphkioddknfaaGreatDoor
namespace Go.Proofs.YtlnphkioddknfaaGreatDoor
open Go.RowKit
def smI (f:Nat→Int):Nat→Int
 | 0=>0
 | n+1=>smI f n+f n
end Go.Proofs.YtlnphkioddknfaaGreatDoor
namespace Go.Proofs.YtlnphkioddknfaaGreatDoor
open Go.RowKit
def BoxT (T:Nat) (w:World) (b:Nat) (x y z:Value):Prop:=w.heap[b]? = some (.cells #[x,y,z] T (0,0))
theorem BoxT.c0 {T:Nat} {w:World} {b:Nat} {x y z:Value} (h:BoxT T w b x y z):w.cell? ⟨b,0,none⟩ = some x:=by rw [cell_of_row w b 0 _ _ _ h];rfl
theorem BoxT.c1 {T:Nat} {w:World} {b:Nat} {x y z:Value} (h:BoxT T w b x y z):w.cell? ⟨b,1,none⟩ = some y:=by rw [cell_of_row w b 1 _ _ _ h];rfl
theorem BoxT.c2 {T:Nat} {w:World} {b:Nat} {x y z:Value} (h:BoxT T w b x y z):w.cell? ⟨b,2,none⟩ = some z:=by rw [cell_of_row w b 2 _ _ _ h];rfl
theorem BoxT.lt {T:Nat} {w:World} {b:Nat} {x y z:Value} (h:BoxT T w b x y z):b < w.heap.size:=(Array.getElem?_eq_some_iff.1 h).1
theorem BoxT.below {T:Nat} {w w':World} {b:Nat} {x y z:Value} (h:BoxT T w b x y z) {B:Nat} (hb:Below B w w') (hlt:b < B):BoxT T w' b x y z:=(hb.block b hlt).trans h
theorem BoxT.new (T:Nat) (w:World) (x y z:Value):BoxT T (w.alloc (.cells #[x,y,z] T)) w.heap.size x y z:=heap_alloc_new w _
theorem BoxT.all {T:Nat} {w w':World} {b:Nat} {x y z:Value} (h:BoxT T w b x y z) (hb:Below w.heap.size w w'):BoxT T w' b x y z:=h.below hb h.lt
theorem BoxT.other {T:Nat} {w:World} {b:Nat} {x y z:Value} (h:BoxT T w b x y z) {p:Addr} (hp:b ≠ p.block) (u:Value):BoxT T (w.setCell p u) b x y z:=(Below.heap_setCell w p u b hp).trans h
end Go.Proofs.YtlnphkioddknfaaGreatDoor
namespace Go.Proofs.YtlnphkioddknfaaGreatDoor
open Go.RowKit
attribute [local go_sem ↓] Go.wp_at_zero Go.wp_at_succ
theorem psub_any (a b:Nat) (w:World) (ha:a < 18446744073709551616) (hb:b < 18446744073709551616) (hT:Tab w) :
  Calls Tryz.prog 164 #[.int .u64 a,.int .u64 b] w fun r w'=>r = .returned (.int .u64 (aV a (fN b):Nat))∧Below w.heap.size w w':=by
 have K:=hide (ssub_any a b w ha hb hT)
 clear ha hb hT
 generalize aV a (fN b) = o at *
 generalize aF a (fN b) = f at *
 go_enter Tryz.func164,Tryz.ntmps164
 go_wp2_with fail
 refine Calls.mono (uH K) ?_
 rintro e w1 ⟨rfl,hb1⟩
 clear K
 go_wp2
 go_ret
 exact ⟨rfl,hb1⟩
theorem pdiv_any (a b:Nat) (w:World) (ha:a < 18446744073709551616) (hb:b < 18446744073709551616) (hT:Tab w) :
  Calls Tryz.prog 166 #[.int .u64 a,.int .u64 b] w fun r w'=>r = .returned (.int .u64 (dV a b:Nat))∧Below w.heap.size w w':=by
 have K:=hide (tdiv_any a b w ha hb hT)
 clear ha hb hT
 generalize dV a b = o at *
 generalize dF a b = f at *
 go_enter Tryz.func166,Tryz.ntmps166
 go_wp2_with fail
 refine Calls.mono (uH K) ?_
 rintro e w1 ⟨rfl,hb1⟩
 clear K
 go_wp2
 go_ret
 exact ⟨rfl,hb1⟩
theorem psqrt_any (a:Nat) (w:World) (ha:a < 18446744073709551616) (hT:Tab w) :
  Calls Tryz.prog 241 #[.int .u64 a] w fun r w'=>r = .returned (.int .u64 (sV a:Nat))∧Below w.heap.size w w':=by
 have K:=hide (rsqrt_any a w ha hT)
 clear ha hT
 generalize sV a = o at *
 generalize sF a = f at *
 go_enter Tryz.func241,Tryz.ntmps241
 go_wp2_with fail
 refine Calls.mono (uH K) ?_
 rintro e w1 ⟨rfl,hb1⟩
 clear K
 go_wp2
 go_ret
 exact ⟨rfl,hb1⟩
theorem gplace_of (f s k n p q:Nat) (w:World) (hp:(n:Int) * (s:Int) = (p:Int)) (hq:(f:Int)+(p:Int) = (q:Int)) (h36:q≤36) :
  Calls Tryz.prog 242 #[.agg #[.int .i64 f,.int .i64 s,.int .i64 k],.int .i64 n] w fun e w'=>e = .returned (.int .i64 (q:Nat))∧Below w.heap.size w w':=by
 have hb0:=hide (below_alloc9 w (.cells #[.int .i64 f,.int .i64 s,.int .i64 k] 211))
 have hpq:(p:Int)≤36:=by omega
 go_enter Tryz.func242,Tryz.ntmps242
 go_wp2
 go_ret
 exact ⟨rfl,uH hb0⟩
theorem growOf_of (r c n cap i q:Nat) (ao:Option Addr) (w:World) (hq:(i:Int) * (c:Int) = (q:Int)) (h36:q≤36) :
  Calls Tryz.prog 220 #[.agg #[.int .i64 r,.int .i64 c,.slice ao n cap],.int .i64 i] w fun e w'=>e = .returned (.agg #[.int .i64 (q:Nat),.int .i64 1,.int .i64 (c:Nat)])∧Below w.heap.size w w':=by
 have b0:=below_alloc9 w (.cells #[.int .i64 r,.int .i64 c,.slice ao n cap] 24)
 have s0:=size_alloc9 w (.cells #[.int .i64 r,.int .i64 c,.slice ao n cap] 24)
 have b1:=below_alloc9 (w.alloc (.cells #[.int .i64 r,.int .i64 c,.slice ao n cap] 24)) (.cells #[.int .i64 (q:Nat),.int .i64 1,.int .i64 (c:Nat)] 211)
 have X:=BoxT.new 211 (w.alloc (.cells #[.int .i64 r,.int .i64 c,.slice ao n cap] 24)) (.int .i64 (q:Nat)) (.int .i64 1) (.int .i64 (c:Nat))
 rw [s0] at X
 have x0:=X.c0;have x1:=X.c1;have x2:=X.c2
 have BB:=hide (b0.trans (b1.mono b0.size))
 clear b0 s0 b1 X
 go_enter Tryz.func220,Tryz.ntmps220
 go_wp2_with fail
 exact bodyPost_ret (v:=.agg #[.int .i64 (q:Nat),.int .i64 1,.int .i64 (c:Nat)]) (by simp [results,Tryz.results220,go_sem,x0,x1,x2]) rfl ⟨rfl,uH BB⟩
theorem gcolOf_of (r c n cap i:Nat) (ao:Option Addr) (w:World) :
  Calls Tryz.prog 221 #[.agg #[.int .i64 r,.int .i64 c,.slice ao n cap],.int .i64 i] w fun e w'=>e = .returned (.agg #[.int .i64 (i:Nat),.int .i64 (c:Nat),.int .i64 (r:Nat)])∧Below w.heap.size w w':=by
 have b0:=below_alloc9 w (.cells #[.int .i64 r,.int .i64 c,.slice ao n cap] 24)
 have s0:=size_alloc9 w (.cells #[.int .i64 r,.int .i64 c,.slice ao n cap] 24)
 have b1:=below_alloc9 (w.alloc (.cells #[.int .i64 r,.int .i64 c,.slice ao n cap] 24)) (.cells #[.int .i64 (i:Nat),.int .i64 (c:Nat),.int .i64 (r:Nat)] 211)
 have X:=BoxT.new 211 (w.alloc (.cells #[.int .i64 r,.int .i64 c,.slice ao n cap] 24)) (.int .i64 (i:Nat)) (.int .i64 (c:Nat)) (.int .i64 (r:Nat))
 rw [s0] at X
 have x0:=X.c0;have x1:=X.c1;have x2:=X.c2
 have BB:=hide (b0.trans (b1.mono b0.size))
 clear b0 s0 b1 X
 go_enter Tryz.func221,Tryz.ntmps221
 go_wp2_with fail
 exact bodyPost_ret (v:=.agg #[.int .i64 (i:Nat),.int .i64 (c:Nat),.int .i64 (r:Nat)]) (by simp [results,Tryz.results221,go_sem,x0,x1,x2]) rfl ⟨rfl,uH BB⟩
theorem gcheck_any (r c:Int) (ao:Option Addr) (n cap:Nat) (l i k:Int) (er:Int) (w:World) (hn:n≤35184372088830) (h:okB r c n = true)
  (way:(i < 0∧er = 7) ∨ (0≤i∧l≤i∧er = 7) ∨ (0≤i∧i < l∧k < 0∧er = 7) ∨ (0≤i∧i < l∧0≤k∧l≤k∧er = 7) ∨ (0≤i∧i < l∧0≤k∧k < l∧i = k∧er = 7) ∨ (0≤i∧i < l∧0≤k∧k < l∧¬ i = k∧er = 0)) :
  Calls Tryz.prog 218 #[.agg #[.int .i64 r,.int .i64 c,.slice ao n cap],.int .i64 l,.int .i64 i,.int .i64 k] w fun e w'=>e = .returned (.int .i64 er)∧Below w.heap.size w w':=by
 have hb0:=hide (below_alloc9 w (.cells #[.int .i64 r,.int .i64 c,.slice ao n cap] 24))
 have K:=hide (fun w'=>mcheck_any r c ao n cap w' hn)
 rw [if_pos h] at K
 clear h
 rcases way with ⟨h1,rfl⟩ | ⟨h1,h2,rfl⟩ | ⟨h1,h2,h3,rfl⟩ | ⟨h1,h2,h3,h4,rfl⟩ | ⟨h1,h2,h3,h4,rfl,rfl⟩ | ⟨h1,h2,h3,h4,h5,rfl⟩
 rotate_left 5
 ·have e1:decide (i < 0) = false:=decide_eq_false (by omega)
  have e2:decide (l≤i) = false:=decide_eq_false (by omega)
  have e3:decide (k < 0) = false:=decide_eq_false (by omega)
  have e4:decide (l≤k) = false:=decide_eq_false (by omega)
  have e5:(i == k) = false:=by simp;omega
  go_enter Tryz.func218,Tryz.ntmps218
  go_wp2_with fail
  refine (uH K _).mono ?_
  rintro e w1 ⟨rfl,hb⟩
  replace hb0:=hide ((uH hb0).trans (hb.mono (uH hb0).size))
  clear hb K
  go_wp2
  go_ret
  exact ⟨rfl,uH hb0⟩
 all_goals
  go_enter Tryz.func218,Tryz.ntmps218
  go_wp2_with fail
  refine (uH K _).mono ?_
  rintro e w1 ⟨rfl,hb⟩
  replace hb0:=hide ((uH hb0).trans (hb.mono (uH hb0).size))
  clear hb K
  go_wp2
  go_ret
  exact ⟨rfl,uH hb0⟩
theorem gpair_of (x y c s p q u p' q' v:Nat) (w:World)
  (C1:∀ w',Below w.heap.size w w'→Calls Tryz.prog 165 #[.int .u64 c,.int .u64 x] w' fun e w''=>e = .returned (.int .u64 (p:Nat))∧Below w'.heap.size w' w'')
  (C2:∀ w',Below w.heap.size w w'→Calls Tryz.prog 165 #[.int .u64 s,.int .u64 y] w' fun e w''=>e = .returned (.int .u64 (q:Nat))∧Below w'.heap.size w' w'')
  (C3:∀ w',Below w.heap.size w w'→Calls Tryz.prog 239 #[.int .u64 p,.int .u64 q] w' fun e w''=>e = .returned (.int .u64 (u:Nat))∧Below w'.heap.size w' w'')
  (C4:∀ w',Below w.heap.size w w'→Calls Tryz.prog 165 #[.int .u64 c,.int .u64 y] w' fun e w''=>e = .returned (.int .u64 (p':Nat))∧Below w'.heap.size w' w'')
  (C5:∀ w',Below w.heap.size w w'→Calls Tryz.prog 165 #[.int .u64 s,.int .u64 x] w' fun e w''=>e = .returned (.int .u64 (q':Nat))∧Below w'.heap.size w' w'')
  (C6:∀ w',Below w.heap.size w w'→Calls Tryz.prog 164 #[.int .u64 p',.int .u64 q'] w' fun e w''=>e = .returned (.int .u64 (v:Nat))∧Below w'.heap.size w' w'') :
  Calls Tryz.prog 243 #[.int .u64 x,.int .u64 y,.int .u64 c,.int .u64 s] w fun e w'=>e = .returned (.tuple #[.int .u64 (u:Nat),.int .u64 (v:Nat)])∧Below w.heap.size w w':=by
 have K1:=hide C1;have K2:=hide C2;have K3:=hide C3;have K4:=hide C4;have K5:=hide C5;have K6:=hide C6
 have BB:=hide (Below.refl w.heap.size w)
 clear C1 C2 C3 C4 C5 C6
 go_enter Tryz.func243,Tryz.ntmps243
 go_wp2_with fail
 refine (uH K1 _ (uH BB)).mono ?_
 rintro e w1 ⟨rfl,hb⟩
 replace BB:=hide ((uH BB).trans (hb.mono (uH BB).size))
 clear hb K1
 go_wp2_with fail
 refine (uH K2 _ (uH BB)).mono ?_
 rintro e w1 ⟨rfl,hb⟩
 replace BB:=hide ((uH BB).trans (hb.mono (uH BB).size))
 clear hb K2
 go_wp2_with fail
 refine (uH K3 _ (uH BB)).mono ?_
 rintro e w1 ⟨rfl,hb⟩
 replace BB:=hide ((uH BB).trans (hb.mono (uH BB).size))
 clear hb K3
 go_wp2_with fail
 refine (uH K4 _ (uH BB)).mono ?_
 rintro e w1 ⟨rfl,hb⟩
 replace BB:=hide ((uH BB).trans (hb.mono (uH BB).size))
 clear hb K4
 go_wp2_with fail
 refine (uH K5 _ (uH BB)).mono ?_
 rintro e w1 ⟨rfl,hb⟩
 replace BB:=hide ((uH BB).trans (hb.mono (uH BB).size))
 clear hb K5
 go_wp2_with fail
 refine (uH K6 _ (uH BB)).mono ?_
 rintro e w1 ⟨rfl,hb⟩
 replace BB:=hide ((uH BB).trans (hb.mono (uH BB).size))
 clear hb K6
 go_wp2
 exact bodyPost_ret (v:=.tuple #[.int .u64 (u:Nat),.int .u64 (v:Nat)]) (by simp [results,Tryz.results243,go_sem]) rfl ⟨rfl,uH BB⟩
theorem gpair_any (x y c s:Nat) (w:World) (hx:x < 18446744073709551616) (hy:y < 18446744073709551616) (hc:c < 18446744073709551616) (hs:s < 18446744073709551616) (hT:Tab w) :
  Calls Tryz.prog 243 #[.int .u64 x,.int .u64 y,.int .u64 c,.int .u64 s] w fun e w'=>e = .returned (.tuple #[.int .u64 (aV (mV c x) (mV s y):Nat),.int .u64 (aV (mV c y) (fN (mV s x)):Nat)])∧Below w.heap.size w w' :=
 gpair_of x y c s (mV c x) (mV s y) _ (mV c y) (mV s x) _ w (fun w' hb=>vmul_any _ _ w' hc hx (hT.all hb)) (fun w' hb=>vmul_any _ _ w' hs hy (hT.all hb)) (fun w' hb=>vadd_any _ _ w' (mV_lt _ _) (mV_lt _ _) (hT.all hb)) (fun w' hb=>vmul_any _ _ w' hc hy (hT.all hb)) (fun w' hb=>vmul_any _ _ w' hs hx (hT.all hb)) (fun w' hb=>psub_any _ _ w' (mV_lt _ _) (mV_lt _ _) (hT.all hb))
end Go.Proofs.YtlnphkioddknfaaGreatDoor
