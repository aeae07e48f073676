/- Part 25 of the texts. -/
import Derived.Test.YtlnphkioddknfaaGreatDoorPartz24
import Derived.Test.YtlnphkioddknfaaGreatDoorPartz23
import Derived.Test.YtlnphkioddknfaaGreatDoorPartz22
import Derived.Test.YtlnphkioddknfaaGreatDoorPartz20
import Derived.Test.YtlnphkioddknfaaGreatDoorPartz18
import Derived.Test.YtlnphkioddknfaaGreatDoorPartz21
import Derived.Test.YtlnphkioddknfaaGreatDoorPartz19
import Derived.Test.YtlnphkioddknfaaGreatDoorPartz17
set_option maxHeartbeats 4000000
set_option maxRecDepth 20000
namespace Go.Proofs.YtlnphkioddknfaaGreatDoor
open Go.RowKit
def BoxT (T:Nat) (w:World) (b:Nat) (x y z:Value):Prop:=w.heap[b]? = some (.cells #[x,y,z] T (0,0))
theorem BoxT.c0 {T:Nat} {w:World} {b:Nat} {x y z:Value} (h:BoxT T w b x y z):w.cell? ⟨b,0,none⟩ = some x:=by rw [cell_of_row w b 0 _ _ _ h];rfl
theorem BoxT.c1 {T:Nat} {w:World} {b:Nat} {x y z:Value} (h:BoxT T w b x y z):w.cell? ⟨b,1,none⟩ = some y:=by rw [cell_of_row w b 1 _ _ _ h];rfl
theorem BoxT.c2 {T:Nat} {w:World} {b:Nat} {x y z:Value} (h:BoxT T w b x y z):w.cell? ⟨b,2,none⟩ = some z:=by rw [cell_of_row w b 2 _ _ _ h];rfl
theorem BoxT.lt {T:Nat} {w:World} {b:Nat} {x y z:Value} (h:BoxT T w b x y z):b < w.heap.size:=(Array.getElem?_eq_some_iff.1 h).1
theorem BoxT.below {T:Nat} {w w':World} {b:Nat} {x y z:Value} (h:BoxT T w b x y z) {B:Nat} (hb:Below B w w') (hlt:b < B):BoxT T w' b x y z:=(hb.block b hlt).trans h
theorem BoxT.new (T:Nat) (w:World) (x y z:Value):BoxT T (w.alloc (.cells #[x,y,z] T)) w.heap.size x y z:=heap_alloc_new w _
theorem BoxT.all {T:Nat} {w w':World} {b:Nat} {x y z:Value} (h:BoxT T w b x y z) (hb:Below w.heap.size w w'):BoxT T w' b x y z:=h.below hb h.lt
theorem BoxT.other {T:Nat} {w:World} {b:Nat} {x y z:Value} (h:BoxT T w b x y z) {p:Addr} (hp:b ≠ p.block) (u:Value):BoxT T (w.setCell p u) b x y z:=(Below.heap_setCell w p u b hp).trans h
end Go.Proofs.YtlnphkioddknfaaGreatDoor
namespace Go.Proofs.YtlnphkioddknfaaGreatDoor
open Go.RowKit
attribute [local go_sem ↓] Go.wp_at_zero Go.wp_at_succ
theorem psub_any (a b:Nat) (w:World) (ha:a < 18446744073709551616) (hb:b < 18446744073709551616) (hT:Tab w) :
  Calls Tryz.prog 164 #[.int .u64 a,.int .u64 b] w fun r w'=>r = .returned (.int .u64 (aV a (fN b):Nat))∧Below w.heap.size w w':=by
 have K:=hide (ssub_any a b w ha hb hT)
 clear ha hb hT
 generalize aV a (fN b) = o at *
 generalize aF a (fN b) = f at *
 go_enter Tryz.func164,Tryz.ntmps164
 go_wp2_with fail
 refine Calls.mono (uH K) ?_
 rintro e w1 ⟨rfl,hb1⟩
 clear K
 go_wp2
 go_ret
 exact ⟨rfl,hb1⟩
theorem pdiv_any (a b:Nat) (w:World) (ha:a < 18446744073709551616) (hb:b < 18446744073709551616) (hT:Tab w) :
  Calls Tryz.prog 166 #[.int .u64 a,.int .u64 b] w fun r w'=>r = .returned (.int .u64 (dV a b:Nat))∧Below w.heap.size w w':=by
 have K:=hide (tdiv_any a b w ha hb hT)
 clear ha hb hT
 generalize dV a b = o at *
 generalize dF a b = f at *
 go_enter Tryz.func166,Tryz.ntmps166
 go_wp2_with fail
 refine Calls.mono (uH K) ?_
 rintro e w1 ⟨rfl,hb1⟩
 clear K
 go_wp2
 go_ret
 exact ⟨rfl,hb1⟩
theorem psqrt_any (a:Nat) (w:World) (ha:a < 18446744073709551616) (hT:Tab w) :
  Calls Tryz.prog 241 #[.int .u64 a] w fun r w'=>r = .returned (.int .u64 (sV a:Nat))∧Below w.heap.size w w':=by
 have K:=hide (rsqrt_any a w ha hT)
 clear ha hT
 generalize sV a = o at *
 generalize sF a = f at *
 go_enter Tryz.func241,Tryz.ntmps241
 go_wp2_with fail
 refine Calls.mono (uH K) ?_
 rintro e w1 ⟨rfl,hb1⟩
 clear K
 go_wp2
 go_ret
 exact ⟨rfl,hb1⟩
theorem gplace_of (f s k n p q:Nat) (w:World) (hp:(n:Int) * (s:Int) = (p:Int)) (hq:(f:Int)+(p:Int) = (q:Int)) (h36:q≤36) :
  Calls Tryz.prog 242 #[.agg #[.int .i64 f,.int .i64 s,.int .i64 k],.int .i64 n] w fun e w'=>e = .returned (.int .i64 (q:Nat))∧Below w.heap.size w w':=by
 have hb0:=hide (below_alloc9 w (.cells #[.int .i64 f,.int .i64 s,.int .i64 k] 211))
 have hpq:(p:Int)≤36:=by omega
 go_enter Tryz.func242,Tryz.ntmps242
 go_wp2
 go_ret
 exact ⟨rfl,uH hb0⟩
theorem growOf_of (r c n cap i q:Nat) (ao:Option Addr) (w:World) (hq:(i:Int) * (c:Int) = (q:Int)) (h36:q≤36) :
  Calls Tryz.prog 220 #[.agg #[.int .i64 r,.int .i64 c,.slice ao n cap],.int .i64 i] w fun e w'=>e = .returned (.agg #[.int .i64 (q:Nat),.int .i64 1,.int .i64 (c:Nat)])∧Below w.heap.size w w':=by
 have b0:=below_alloc9 w (.cells #[.int .i64 r,.int .i64 c,.slice ao n cap] 24)
 have s0:=size_alloc9 w (.cells #[.int .i64 r,.int .i64 c,.slice ao n cap] 24)
 have b1:=below_alloc9 (w.alloc (.cells #[.int .i64 r,.int .i64 c,.slice ao n cap] 24)) (.cells #[.int .i64 (q:Nat),.int .i64 1,.int .i64 (c:Nat)] 211)
 have X:=BoxT.new 211 (w.alloc (.cells #[.int .i64 r,.int .i64 c,.slice ao n cap] 24)) (.int .i64 (q:Nat)) (.int .i64 1) (.int .i64 (c:Nat))
 rw [s0] at X
 have x0:=X.c0;have x1:=X.c1;have x2:=X.c2
 have BB:=hide (b0.trans (b1.mono b0.size))
 clear b0 s0 b1 X
 go_enter Tryz.func220,Tryz.ntmps220
 go_wp2_with fail
 exact bodyPost_ret (v:=.agg #[.int .i64 (q:Nat),.int .i64 1,.int .i64 (c:Nat)]) (by simp [results,Tryz.results220,go_sem,x0,x1,x2]) rfl ⟨rfl,uH BB⟩
theorem gcolOf_of (r c n cap i:Nat) (ao:Option Addr) (w:World) :
  Calls Tryz.prog 221 #[.agg #[.int .i64 r,.int .i64 c,.slice ao n cap],.int .i64 i] w fun e w'=>e = .returned (.agg #[.int .i64 (i:Nat),.int .i64 (c:Nat),.int .i64 (r:Nat)])∧Below w.heap.size w w':=by
 have b0:=below_alloc9 w (.cells #[.int .i64 r,.int .i64 c,.slice ao n cap] 24)
 have s0:=size_alloc9 w (.cells #[.int .i64 r,.int .i64 c,.slice ao n cap] 24)
 have b1:=below_alloc9 (w.alloc (.cells #[.int .i64 r,.int .i64 c,.slice ao n cap] 24)) (.cells #[.int .i64 (i:Nat),.int .i64 (c:Nat),.int .i64 (r:Nat)] 211)
 have X:=BoxT.new 211 (w.alloc (.cells #[.int .i64 r,.int .i64 c,.slice ao n cap] 24)) (.int .i64 (i:Nat)) (.int .i64 (c:Nat)) (.int .i64 (r:Nat))
 rw [s0] at X
 have x0:=X.c0;have x1:=X.c1;have x2:=X.c2
 have BB:=hide (b0.trans (b1.mono b0.size))
 clear b0 s0 b1 X
 go_enter Tryz.func221,Tryz.ntmps221
 go_wp2_with fail
 exact bodyPost_ret (v:=.agg #[.int .i64 (i:Nat),.int .i64 (c:Nat),.int .i64 (r:Nat)]) (by simp [results,Tryz.results221,go_sem,x0,x1,x2]) rfl ⟨rfl,uH BB⟩
theorem gcheck_any (r c:Int) (ao:Option Addr) (n cap:Nat) (l i k:Int) (er:Int) (w:World) (hn:n≤35184372088830) (h:okB r c n = true)
  (way:(i < 0∧er = 7) ∨ (0≤i∧l≤i∧er = 7) ∨ (0≤i∧i < l∧k < 0∧er = 7) ∨ (0≤i∧i < l∧0≤k∧l≤k∧er = 7) ∨ (0≤i∧i < l∧0≤k∧k < l∧i = k∧er = 7) ∨ (0≤i∧i < l∧0≤k∧k < l∧¬ i = k∧er = 0)) :
  Calls Tryz.prog 218 #[.agg #[.int .i64 r,.int .i64 c,.slice ao n cap],.int .i64 l,.int .i64 i,.int .i64 k] w fun e w'=>e = .returned (.int .i64 er)∧Below w.heap.size w w':=by
 have hb0:=hide (below_alloc9 w (.cells #[.int .i64 r,.int .i64 c,.slice ao n cap] 24))
 have K:=hide (fun w'=>mcheck_any r c ao n cap w' hn)
 rw [if_pos h] at K
 clear h
 rcases way with ⟨h1,rfl⟩ | ⟨h1,h2,rfl⟩ | ⟨h1,h2,h3,rfl⟩ | ⟨h1,h2,h3,h4,rfl⟩ | ⟨h1,h2,h3,h4,rfl,rfl⟩ | ⟨h1,h2,h3,h4,h5,rfl⟩
 rotate_left 5
 ·have e1:decide (i < 0) = false:=decide_eq_false (by omega)
  have e2:decide (l≤i) = false:=decide_eq_false (by omega)
  have e3:decide (k < 0) = false:=decide_eq_false (by omega)
  have e4:decide (l≤k) = false:=decide_eq_false (by omega)
  have e5:(i == k) = false:=by simp;omega
  go_enter Tryz.func218,Tryz.ntmps218
  go_wp2_with fail
  refine (uH K _).mono ?_
  rintro e w1 ⟨rfl,hb⟩
  replace hb0:=hide ((uH hb0).trans (hb.mono (uH hb0).size))
  clear hb K
  go_wp2
  go_ret
  exact ⟨rfl,uH hb0⟩
 all_goals
  go_enter Tryz.func218,Tryz.ntmps218
  go_wp2_with fail
  refine (uH K _).mono ?_
  rintro e w1 ⟨rfl,hb⟩
  replace hb0:=hide ((uH hb0).trans (hb.mono (uH hb0).size))
  clear hb K
  go_wp2
  go_ret
  exact ⟨rfl,uH hb0⟩
theorem gpair_of (x y c s p q u p' q' v:Nat) (w:World)
  (C1:∀ w',Below w.heap.size w w'→Calls Tryz.prog 165 #[.int .u64 c,.int .u64 x] w' fun e w''=>e = .returned (.int .u64 (p:Nat))∧Below w'.heap.size w' w'')
  (C2:∀ w',Below w.heap.size w w'→Calls Tryz.prog 165 #[.int .u64 s,.int .u64 y] w' fun e w''=>e = .returned (.int .u64 (q:Nat))∧Below w'.heap.size w' w'')
  (C3:∀ w',Below w.heap.size w w'→Calls Tryz.prog 239 #[.int .u64 p,.int .u64 q] w' fun e w''=>e = .returned (.int .u64 (u:Nat))∧Below w'.heap.size w' w'')
  (C4:∀ w',Below w.heap.size w w'→Calls Tryz.prog 165 #[.int .u64 c,.int .u64 y] w' fun e w''=>e = .returned (.int .u64 (p':Nat))∧Below w'.heap.size w' w'')
  (C5:∀ w',Below w.heap.size w w'→Calls Tryz.prog 165 #[.int .u64 s,.int .u64 x] w' fun e w''=>e = .returned (.int .u64 (q':Nat))∧Below w'.heap.size w' w'')
  (C6:∀ w',Below w.heap.size w w'→Calls Tryz.prog 164 #[.int .u64 p',.int .u64 q'] w' fun e w''=>e = .returned (.int .u64 (v:Nat))∧Below w'.heap.size w' w'') :
  Calls Tryz.prog 243 #[.int .u64 x,.int .u64 y,.int .u64 c,.int .u64 s] w fun e w'=>e = .returned (.tuple #[.int .u64 (u:Nat),.int .u64 (v:Nat)])∧Below w.heap.size w w':=by
 have K1:=hide C1;have K2:=hide C2;have K3:=hide C3;have K4:=hide C4;have K5:=hide C5;have K6:=hide C6
 have BB:=hide (Below.refl w.heap.size w)
 clear C1 C2 C3 C4 C5 C6
 go_enter Tryz.func243,Tryz.ntmps243
 go_wp2_with fail
 refine (uH K1 _ (uH BB)).mono ?_
 rintro e w1 ⟨rfl,hb⟩
 replace BB:=hide ((uH BB).trans (hb.mono (uH BB).size))
 clear hb K1
 go_wp2_with fail
 refine (uH K2 _ (uH BB)).mono ?_
 rintro e w1 ⟨rfl,hb⟩
 replace BB:=hide ((uH BB).trans (hb.mono (uH BB).size))
 clear hb K2
 go_wp2_with fail
 refine (uH K3 _ (uH BB)).mono ?_
 rintro e w1 ⟨rfl,hb⟩
 replace BB:=hide ((uH BB).trans (hb.mono (uH BB).size))
 clear hb K3
 go_wp2_with fail
 refine (uH K4 _ (uH BB)).mono ?_
 rintro e w1 ⟨rfl,hb⟩
 replace BB:=hide ((uH BB).trans (hb.mono (uH BB).size))
 clear hb K4
 go_wp2_with fail
 refine (uH K5 _ (uH BB)).mono ?_
 rintro e w1 ⟨rfl,hb⟩
 replace BB:=hide ((uH BB).trans (hb.mono (uH BB).size))
 clear hb K5
 go_wp2_with fail
 refine (uH K6 _ (uH BB)).mono ?_
 rintro e w1 ⟨rfl,hb⟩
 replace BB:=hide ((uH BB).trans (hb.mono (uH BB).size))
 clear hb K6
 go_wp2
 exact bodyPost_ret (v:=.tuple #[.int .u64 (u:Nat),.int .u64 (v:Nat)]) (by simp [results,Tryz.results243,go_sem]) rfl ⟨rfl,uH BB⟩
theorem gpair_any (x y c s:Nat) (w:World) (hx:x < 18446744073709551616) (hy:y < 18446744073709551616) (hc:c < 18446744073709551616) (hs:s < 18446744073709551616) (hT:Tab w) :
  Calls Tryz.prog 243 #[.int .u64 x,.int .u64 y,.int .u64 c,.int .u64 s] w fun e w'=>e = .returned (.tuple #[.int .u64 (aV (mV c x) (mV s y):Nat),.int .u64 (aV (mV c y) (fN (mV s x)):Nat)])∧Below w.heap.size w w' :=
 gpair_of x y c s (mV c x) (mV s y) _ (mV c y) (mV s x) _ w (fun w' hb=>vmul_any _ _ w' hc hx (hT.all hb)) (fun w' hb=>vmul_any _ _ w' hs hy (hT.all hb)) (fun w' hb=>vadd_any _ _ w' (mV_lt _ _) (mV_lt _ _) (hT.all hb)) (fun w' hb=>vmul_any _ _ w' hc hy (hT.all hb)) (fun w' hb=>vmul_any _ _ w' hs hx (hT.all hb)) (fun w' hb=>psub_any _ _ w' (mV_lt _ _) (mV_lt _ _) (hT.all hb))
end Go.Proofs.YtlnphkioddknfaaGreatDoor
namespace Go.Proofs.YtlnphkioddknfaaGreatDoor
open Go.RowKit
def gvK (f g:Nat):Int:=eX (max (fR f) (fR g))
def gvN (f g:Nat):Nat:=sV (aV (mV (xV f (-gvK f g)) (xV f (-gvK f g))) (mV (xV g (-gvK f g)) (xV g (-gvK f g))))
end Go.Proofs.YtlnphkioddknfaaGreatDoor
namespace Go.Proofs.YtlnphkioddknfaaGreatDoor
open Go.RowKit
attribute [local go_sem ↓] Go.wp_at_zero Go.wp_at_succ
def MatsAt (w:World) (g k:Nat) (R C:Nat→Int) (A:Nat→Option Addr) (N P:Nat→Nat):Prop :=
 ∀ i,i < k→w.cell? ⟨g,i * 3,none⟩ = some (.int .i64 (R i))∧w.cell? ⟨g,i * 3+1,none⟩ = some (.int .i64 (C i))∧w.cell? ⟨g,i * 3+2,none⟩ = some (.slice (A i) (N i) (P i))
theorem right_of (k g:Nat) (R C:Nat→Int) (A:Nat→Option Addr) (N P:Nat→Nat) (w:World) (hk:k≤2) (hn:∀ i,i < k→N i≤35184372088830) (hM:MatsAt w g k R C A N P) :
  Calls Tryz.prog 176 #[.slice (some ⟨g,0,none⟩) k k] w fun e w'=>∃ b,e = .returned (.bool b)∧(b = true ↔ ∀ i,i < k→okB (R i) (C i) (N i) = true)∧Below w.heap.size w w':=by
 have HM:=hide hM;have HN:=hide hn
 clear hM hn
 go_enter Tryz.func176,Tryz.ntmps176
 go_wp2_with fail
 go_loopw [7] (fun i wr=>∃ j:Nat,j≤k∧i = .int .i64 j∧Hid (Below w.heap.size w wr)∧Hid (∀ t,t < j→okB (R t) (C t) (N t) = true)) (fun i _=>k - (intOf i).toNat)
 case atStart=>exact ⟨0,Nat.zero_le _,rfl,Below.refl _ _,fun t h=>by omega⟩
 case round =>
  obtain ⟨j,hj,rfl,hB,hO⟩:=hrel
  by_cases hlt:j < k
  ·have hkI:(j:Int) < (k:Int):=by omega
   obtain ⟨c0,c1,c2⟩:=uH HM j hlt
   have hN:=uH HN j hlt
   have C1:=hide (fun w'=>mcheck_any (R j) (C j) (A j) (N j) (P j) w' hN)
   have glt:=World.block_lt_of_cell? w _ c0
   have BB:=hide (hB.out.mono (Nat.le_refl _))
   have d0:wr.cell? ⟨g,j * 3,none⟩ = some (.int .i64 (R j)):=by rw [hB.out.cell (p:=⟨g,j * 3,none⟩) glt];exact c0
   have d1:wr.cell? ⟨g,j * 3+1,none⟩ = some (.int .i64 (C j)):=by rw [hB.out.cell (p:=⟨g,j * 3+1,none⟩) glt];exact c1
   have d2:wr.cell? ⟨g,j * 3+2,none⟩ = some (.slice (A j) (N j) (P j)):=by rw [hB.out.cell (p:=⟨g,j * 3+2,none⟩) glt];exact c2
   have BP:=hide ((uH BB).alloc (uH BB).size (.cells #[.int .i64 (R j),.int .i64 (C j),.slice (A j) (N j) (P j)] 24))
   clear c0 c1 c2 hN hB BB glt
   go_wp2_with fail
   refine (uH C1 _).mono ?_
   rintro e w2 ⟨rfl,hb2⟩
   have B2:Hid (Below w.heap.size w w2):=(uH BP).trans (hb2.mono (uH BP).size)
   clear C1 hb2 d0 d1 d2 BP
   cases ho:okB (R j) (C j) (N j)
   ·have HO:=hide ho
    clear ho
    rw [if_neg (by decide)]
    go_wp2
    go_ret
    refine ⟨false,rfl,⟨(fun h=>nomatch h),fun h=>?_⟩,uH B2⟩
    have:=h j hlt
    rw [uH HO] at this
    cases this
   ·have HO:=hide ho
    clear ho
    rw [if_pos rfl]
    go_wp2
    go_round
    case rel =>
     refine ⟨j+1,by omega,by go_num,B2,hide fun t ht=>?_⟩
     by_cases e:t = j
     ·subst e;exact uH HO
     ·exact hO.out t (by omega)
    case measure=>simp [intOf];omega
  ·have hjk:j = k:=by omega
   subst hjk
   go_wp2
   go_ret
   exact ⟨true,rfl,⟨fun _=>hO.out,fun _=>rfl⟩,hB.out⟩
theorem right1_any (r c:Int) (ao:Option Addr) (n cap:Nat) (w:World) (hn:n≤35184372088830) :
  Calls Tryz.prog 176 #[.slice (some ⟨w.heap.size,0,none⟩) 1 1] (w.alloc (.cells #[.int .i64 r,.int .i64 c,.slice ao n cap] 24)) fun e w'=>e = .returned (.bool (okB r c n))∧Below w.heap.size w w':=by
 have X:=BoxM.new w (.int .i64 r) (.int .i64 c) (.slice ao n cap)
 have B:=below_alloc9 w (.cells #[.int .i64 r,.int .i64 c,.slice ao n cap] 24)
 refine (right_of 1 w.heap.size (fun _=>r) (fun _=>c) (fun _=>ao) (fun _=>n) (fun _=>cap) _ (by omega) (fun _ _=>hn) ?_).mono ?_
 ·intro i hi
  obtain rfl:i = 0:=by omega
  exact ⟨X.c0,X.c1,X.c2⟩
 ·rintro e w' ⟨b,rfl,hb,hB⟩
  refine ⟨?_,B.trans (hB.mono B.size)⟩
  have:b = okB r c n:=by
   cases h:okB r c n
   ·cases b
    ·rfl
    ·have:=hb.1 rfl 0 (by omega);rw [h] at this;cases this
   ·exact hb.2 (fun _ _=>h)
  rw [this]
theorem right2_any (r c:Int) (ao:Option Addr) (n cap:Nat) (p q:Int) (bo:Option Addr) (m d:Nat) (w:World) (hn:n≤35184372088830) (hm:m≤35184372088830) :
  Calls Tryz.prog 176 #[.slice (some ⟨w.heap.size,0,none⟩) 2 2] (w.alloc (.cells #[.int .i64 r,.int .i64 c,.slice ao n cap,.int .i64 p,.int .i64 q,.slice bo m d] 24)) fun e w'=>e = .returned (.bool (okB r c n && okB p q m))∧Below w.heap.size w w':=by
 have X:(w.alloc (.cells #[.int .i64 r,.int .i64 c,.slice ao n cap,.int .i64 p,.int .i64 q,.slice bo m d] 24)).heap[w.heap.size]? = some (.cells #[.int .i64 r,.int .i64 c,.slice ao n cap,.int .i64 p,.int .i64 q,.slice bo m d] 24 (0,0)):=heap_alloc_new w _
 have B:=below_alloc9 w (.cells #[.int .i64 r,.int .i64 c,.slice ao n cap,.int .i64 p,.int .i64 q,.slice bo m d] 24)
 refine (right_of 2 w.heap.size (fun i=>if i = 0 then r else p) (fun i=>if i = 0 then c else q) (fun i=>if i = 0 then ao else bo) (fun i=>if i = 0 then n else m) (fun i=>if i = 0 then cap else d) _ (by omega) (fun i _=>by split <;> assumption) ?_).mono ?_
 ·intro i hi
  rcases (show i = 0 ∨ i = 1 by omega) with rfl | rfl
  ·exact ⟨by rw [cell_of_row _ _ _ _ _ _ X];rfl,by rw [cell_of_row _ _ _ _ _ _ X];rfl,by rw [cell_of_row _ _ _ _ _ _ X];rfl⟩
  ·exact ⟨by rw [cell_of_row _ _ _ _ _ _ X];rfl,by rw [cell_of_row _ _ _ _ _ _ X];rfl,by rw [cell_of_row _ _ _ _ _ _ X];rfl⟩
 ·rintro e w' ⟨b,rfl,hb,hB⟩
  refine ⟨?_,B.trans (hB.mono B.size)⟩
  have:b = (okB r c n && okB p q m):=by
   cases h:(okB r c n && okB p q m)
   ·cases b
    ·rfl
    ·have h0:=hb.1 rfl 0 (by omega)
     have h1:=hb.1 rfl 1 (by omega)
     simp only [if_true,Nat.one_ne_zero,if_false] at h0 h1
     rw [h0,h1] at h
     cases h
   ·have h':=Bool.and_eq_true_iff.1 h
    refine hb.2 (fun i hi=>?_)
    rcases (show i = 0 ∨ i = 1 by omega) with rfl | rfl
    ·exact h'.1
    ·exact h'.2
  rw [this]
theorem lies_any (f p e:Int) (w:World) (hf:-9223372036854775808≤f∧f≤9223372036854775807) (he:0≤e∧e≤6) :
  Calls Tryz.prog 177 #[.int .i64 f,.int .i64 p,.int .i64 e] w fun x w'=>x = .returned (.bool (decide (0≤f∧0≤p∧p≤e - f)))∧w = w':=by
 rcases (show f < 0 ∨ (0≤f∧p < 0) ∨ (0≤f∧0≤p) by omega) with h1 | ⟨h1,h2⟩ | ⟨h1,h2⟩
 ·rw [decide_eq_false (by omega)]
  go_enter Tryz.func177,Tryz.ntmps177
  go_wp2
  go_ret
  exact ⟨rfl,rfl⟩
 ·rw [decide_eq_false (by omega)]
  go_enter Tryz.func177,Tryz.ntmps177
  go_wp2
  go_ret
  exact ⟨rfl,rfl⟩
 ·rw [show decide (0≤f∧0≤p∧p≤e - f) = decide (p≤e - f) from decide_eq_decide.2 (by omega)]
  go_enter Tryz.func177,Tryz.ntmps177
  go_wp2
  go_ret
  exact ⟨rfl,rfl⟩
end Go.Proofs.YtlnphkioddknfaaGreatDoor
namespace Go.Proofs.YtlnphkioddknfaaGreatDoor
open Go.RowKit
attribute [local go_sem ↓] Go.wp_at_zero Go.wp_at_succ
theorem turned1_of (r c n cap i k x bx:Nat) (ao:Option Addr) (w:World) (hX:BoxM w bx (.int .i64 r) (.int .i64 c) (.slice ao n cap))
  (C:Calls Tryz.prog 180 #[.agg #[.int .i64 r,.int .i64 c,.slice ao n cap],.int .i64 k,.int .i64 i] w fun e w'=>e = .returned (.int .u64 (x:Nat))∧Below w.heap.size w w') :
  Calls Tryz.prog 214 #[.int .i64 i,.int .i64 k,.pointer (some ⟨bx,0,none⟩)] w fun e w'=>e = .returned (.int .u64 (x:Nat))∧Below w.heap.size w w':=by
 have K:=hide C
 have p0:=hX.c0;have p1:=hX.c1;have p2:=hX.c2
 clear C hX
 go_enter Tryz.func214,Tryz.ntmps214
 go_wp2_with fail
 refine Calls.mono (uH K) ?_
 rintro e w1 ⟨rfl,hb1⟩
 clear K
 go_wp2
 go_ret
 exact ⟨rfl,hb1⟩
theorem cfTurned1 (args:Array Value) (w:World):(callFunc 214 args).run Tryz.prog w = .ok (.enter 214 args) w:=by
 simp only [callFunc,go_sem]
 rfl
theorem turned_of (r c n cap p q:Nat) (ao:Option Addr) (S:List Nat) (w:World)
  (C:Calls Tryz.prog 178 #[.int .i64 c,.int .i64 r,.func (.func 214) #[] #[.pointer (some ⟨w.heap.size,0,none⟩)]] ((w.alloc (.cells #[.int .i64 r,.int .i64 c,.slice ao n cap] 24)).alloc (.cells #[.int .i64 0,.int .i64 0,.slice none 0 0] 24)) fun e w'=>∃ v,e = .returned v∧NewM w.heap.size w' p q S v∧Below w.heap.size w w'∧BoxM w' (w.heap.size+1) (.int .i64 0) (.int .i64 0) (.slice none 0 0)) :
  Calls Tryz.prog 181 #[.agg #[.int .i64 r,.int .i64 c,.slice ao n cap]] w fun e w'=>∃ v,e = .returned v∧NewM w.heap.size w' p q S v∧Below w.heap.size w w':=by
 have K:=hide C
 clear C
 go_enter Tryz.func181,Tryz.ntmps181
 go_wp2_with fail
 refine Calls.mono (uH K) ?_
 rintro e w1 ⟨v,rfl,⟨bo,d,rfl,n1,q1⟩,hb1,hX⟩
 have f0:=hX.free 0;have f1:=hX.free 1;have f2:=hX.free 2
 have XP:=hX.put (.int .i64 p) (.int .i64 q) (.slice bo S.length d)
 have z0:=XP.c0;have z1:=XP.c1;have z2:=XP.c2
 have s0:=hX.c0;have s1:=hX.c1;have s2:=hX.c2
 have Q:=hide (q1.putM hX (.int .i64 p) (.int .i64 q) (.slice bo S.length d))
 have B:=hide (below_putM hb1 (b:=w.heap.size+1) (by omega) (.int .i64 p) (.int .i64 q) (.slice bo S.length d))
 clear K XP q1 hb1 hX
 go_wp2
 exact bodyPost_ret (v:=.agg #[.int .i64 p,.int .i64 q,.slice bo S.length d]) (by simp [results,Tryz.results181,go_sem,z0,z1,z2]) rfl ⟨_,rfl,⟨bo,d,rfl,n1,uH Q⟩,uH B⟩
theorem turned_any (r c cap:Nat) (ao:Option Addr) (S:List Nat) (w:World) (h:Mx w ao cap r c S) :
  Calls Tryz.prog 181 #[.agg #[.int .i64 r,.int .i64 c,.slice ao S.length cap]] w fun e w'=>∃ v,e = .returned v∧NewM w.heap.size w' c r (tuM r c S) v∧Below w.heap.size w w':=by
 refine turned_of r c S.length cap c r ao (tuM r c S) w ?_
 have b0:=below_alloc9 w (.cells #[.int .i64 r,.int .i64 c,.slice ao S.length cap] 24)
 have x0:=BoxM.new w (.int .i64 r) (.int .i64 c) (.slice ao S.length cap)
 have s0:=size_alloc9 w (.cells #[.int .i64 r,.int .i64 c,.slice ao S.length cap] 24)
 generalize w.alloc (.cells #[.int .i64 r,.int .i64 c,.slice ao S.length cap] 24) = w1 at *
 have b1:=below_alloc9 w1 (.cells #[.int .i64 0,.int .i64 0,.slice none 0 0] 24)
 have x1:=BoxM.new w1 (.int .i64 0) (.int .i64 0) (.slice none 0 0)
 have y0:=x0.all b1
 generalize w1.alloc (.cells #[.int .i64 0,.int .i64 0,.slice none 0 0] 24) = w2 at *
 have bb:Below w.heap.size w w2:=b0.trans (b1.mono b0.size)
 rw [s0] at x1
 refine Calls.mono (build_any 214 #[.pointer (some ⟨w.heap.size,0,none⟩)] c r (fun k i=>elM c S i k) w2 cfTurned1 h.2.2.2 h.2.2.1 (fun k i _ _=>h.el_lt i k) ?_) ?_
 ·intro w' k i hb hk hi
  have hb':Below w.heap.size w w':=bb.trans (hb.mono bb.size)
  exact turned1_of r c S.length cap k i _ w.heap.size ao w' (y0.all hb) (mat_any r c cap i k ao S w' (h.below hb') hi hk)
 ·rintro e w' ⟨v,rfl,hv,hb⟩
  exact ⟨v,rfl,hv.least bb.size,bb.trans (hb.mono bb.size),x1.all hb⟩
end Go.Proofs.YtlnphkioddknfaaGreatDoor
