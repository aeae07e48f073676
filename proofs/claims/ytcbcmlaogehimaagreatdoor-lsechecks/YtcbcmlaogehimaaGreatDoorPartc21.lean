/- Part 21 of the texts. -/
import Derived.Test.YtcbcmlaogehimaaGreatDoorPartc20
import Derived.Test.YtcbcmlaogehimaaGreatDoorPartc03
set_option maxHeartbeats 4000000
set_option maxRecDepth 20000
namespace Go.Proofs.YtcbcmlaogehimaaGreatDoor
open Go.RowKit
attribute [local go_sem ↓] Go.wp_at_zero Go.wp_at_succ
theorem boxes1 (w:World) (x y z:Value) (w1:World) (h:Below (w.heap.size+1) (w.alloc (.cells #[x,y,z] 24)) w1) :
  Below w.heap.size w w1∧BoxM w1 w.heap.size x y z:=by
 have b0:=below_alloc9 w (.cells #[x,y,z] 24)
 exact ⟨b0.trans (h.mono (by omega)),(BoxM.new w x y z).below h (by omega)⟩
theorem boxes2 (w:World) (x y z x' y' z':Value) (w1:World) (h:Below (w.heap.size+1+1) ((w.alloc (.cells #[x,y,z] 24)).alloc (.cells #[x',y',z'] 24)) w1) :
  Below w.heap.size w w1∧BoxM w1 w.heap.size x y z∧BoxM w1 (w.heap.size+1) x' y' z':=by
 have s0:=size_alloc9 w (.cells #[x,y,z] 24)
 have h':Below ((w.alloc (.cells #[x,y,z] 24)).heap.size+1) ((w.alloc (.cells #[x,y,z] 24)).alloc (.cells #[x',y',z'] 24)) w1:=by rw [s0];exact h
 obtain ⟨h1,h2⟩:=boxes1 _ x' y' z' w1 h'
 rw [s0] at h1 h2
 obtain ⟨h3,h4⟩:=boxes1 w x y z w1 h1
 exact ⟨h3,h4,h2⟩
theorem boxes3 (w:World) (x y z x' y' z' x2 y2 z2:Value) (w1:World) (h:Below (w.heap.size+1+1+1) (((w.alloc (.cells #[x,y,z] 24)).alloc (.cells #[x',y',z'] 24)).alloc (.cells #[x2,y2,z2] 24)) w1) :
  Below w.heap.size w w1∧BoxM w1 w.heap.size x y z∧BoxM w1 (w.heap.size+1) x' y' z'∧BoxM w1 (w.heap.size+1+1) x2 y2 z2:=by
 have s0:=size_alloc9 w (.cells #[x,y,z] 24)
 have h':Below ((w.alloc (.cells #[x,y,z] 24)).heap.size+1+1) (((w.alloc (.cells #[x,y,z] 24)).alloc (.cells #[x',y',z'] 24)).alloc (.cells #[x2,y2,z2] 24)) w1:=by rw [s0];exact h
 obtain ⟨h1,h2,h3⟩:=boxes2 _ x' y' z' x2 y2 z2 w1 h'
 rw [s0] at h1 h2 h3
 obtain ⟨h4,h5⟩:=boxes1 w x y z w1 h1
 exact ⟨h4,h5,h2,h3⟩
theorem mturn_no (r c:Int) (ao:Option Addr) (n cap:Nat) (w:World) (hn:n≤35184372088830) (h:okB r c n = false) :
  Calls Tryz.prog 103 #[.agg #[.int .i64 r,.int .i64 c,.slice ao n cap]] w fun e w'=>∃ v,e = .returned (.tuple #[v,.int .i64 1])∧NewM w.heap.size w' 0 0 [] v∧Below w.heap.size w w':=by
 have K:=hide (right1_any r c ao n cap ((w.alloc (.cells #[.int .i64 r,.int .i64 c,.slice ao n cap] 24)).alloc (.cells #[.int .i64 0,.int .i64 0,.slice none 0 0] 24)) hn)
 rw [h] at K
 simp only [size_alloc9] at K
 have KB:=hide (boxes2 w (.int .i64 r) (.int .i64 c) (.slice ao n cap) (.int .i64 0) (.int .i64 0) (.slice none 0 0))
 clear h
 go_enter Tryz.func103,Tryz.ntmps103
 go_wp2_with fail
 refine Calls.mono (uH K) ?_
 rintro e w1 ⟨rfl,hb1⟩
 obtain ⟨hB,hA,hX⟩:=uH KB w1 hb1
 clear K KB hb1 hA
 have f0:=hX.free 0;have f1:=hX.free 1;have f2:=hX.free 2
 have s0:=hX.c0;have s1:=hX.c1;have s2:=hX.c2
 have XP:=hX.put (.int .i64 0) (.int .i64 0) (.slice none 0 0)
 have z0:=XP.c0;have z1:=XP.c1;have z2:=XP.c2
 have BP:=hide (below_putM hB (b:=w.heap.size+1) (by omega) (.int .i64 0) (.int .i64 0) (.slice none 0 0))
 clear XP hX hB
 go_wp2
 exact bodyPost_ret (v:=.tuple #[.agg #[.int .i64 0,.int .i64 0,.slice none 0 0],.int .i64 1]) (by simp [results,Tryz.results103,go_sem,z0,z1,z2]) rfl ⟨_,rfl,NewM.zero _ _,uH BP⟩
theorem mturn_of (r c:Int) (ao:Option Addr) (n cap x y:Nat) (S:List Nat) (w:World) (hn:n≤35184372088830) (h:okB r c n = true)
  (C:∀ w1,Below w.heap.size w w1→Calls Tryz.prog 134 #[.agg #[.int .i64 r,.int .i64 c,.slice ao n cap]] w1 fun e w''=>∃ v,e = .returned v∧NewM w1.heap.size w'' x y S v∧Below w1.heap.size w1 w'') :
  Calls Tryz.prog 103 #[.agg #[.int .i64 r,.int .i64 c,.slice ao n cap]] w fun e w'=>∃ v,e = .returned (.tuple #[v,.int .i64 0])∧NewM w.heap.size w' x y S v∧Below w.heap.size w w':=by
 have K:=hide (right1_any r c ao n cap ((w.alloc (.cells #[.int .i64 r,.int .i64 c,.slice ao n cap] 24)).alloc (.cells #[.int .i64 0,.int .i64 0,.slice none 0 0] 24)) hn)
 rw [h] at K
 simp only [size_alloc9] at K
 have KB:=hide (boxes2 w (.int .i64 r) (.int .i64 c) (.slice ao n cap) (.int .i64 0) (.int .i64 0) (.slice none 0 0))
 have KT:=hide (fun w1 (hB:Below w.heap.size w w1) (hX:BoxM w1 (w.heap.size+1) (.int .i64 0) (.int .i64 0) (.slice none 0 0))=>(C w1 hB).mono (R':=fun e w''=>∃ v,e = .returned v∧NewM w.heap.size w'' x y S v∧Below w.heap.size w w''∧BoxM w'' (w.heap.size+1) (.int .i64 0) (.int .i64 0) (.slice none 0 0)) (by
  rintro e w'' ⟨v,rfl,h1,h2⟩
  exact ⟨v,rfl,h1.least hB.size,hB.trans (h2.mono hB.size),hX.all h2⟩))
 clear h C
 go_enter Tryz.func103,Tryz.ntmps103
 go_wp2_with fail
 refine Calls.mono (uH K) ?_
 rintro e w1 ⟨rfl,hb1⟩
 obtain ⟨hB,hA,hX⟩:=uH KB w1 hb1
 have p0:=hA.c0;have p1:=hA.c1;have p2:=hA.c2
 have KC:=hide (uH KT w1 hB hX)
 clear K KB KT hb1 hA hX hB
 go_wp2_with fail
 refine Calls.mono (uH KC) ?_
 clear KC
 rintro e w2 ⟨v,rfl,⟨ro,rd,rfl,n1,q1⟩,hb2,hX⟩
 have f0:=hX.free 0;have f1:=hX.free 1;have f2:=hX.free 2
 have XP:=hX.put (.int .i64 x) (.int .i64 y) (.slice ro S.length rd)
 have z0:=XP.c0;have z1:=XP.c1;have z2:=XP.c2
 have s0:=hX.c0;have s1:=hX.c1;have s2:=hX.c2
 have Q:=hide (q1.putM hX (.int .i64 x) (.int .i64 y) (.slice ro S.length rd))
 have BP:=hide (below_putM hb2 (b:=w.heap.size+1) (by omega) (.int .i64 x) (.int .i64 y) (.slice ro S.length rd))
 clear XP q1 hb2 hX
 go_wp2
 exact bodyPost_ret (v:=.tuple #[.agg #[.int .i64 x,.int .i64 y,.slice ro S.length rd],.int .i64 0]) (by simp [results,Tryz.results103,go_sem,z0,z1,z2]) rfl ⟨_,rfl,⟨ro,rd,rfl,n1,uH Q⟩,uH BP⟩
theorem mstack_cols (r c n cap p q m d:Nat) (ao bo:Option Addr) (w:World) (hn:n≤36) (hm:m≤36) (_hr:r≤6) (_hc:c≤6) (_hp:p≤6) (_hq:q≤6) (h:(okB r c n && okB p q m) = true) (hne:c ≠ q) :
  Calls Tryz.prog 74 #[.agg #[.int .i64 r,.int .i64 c,.slice ao n cap],.agg #[.int .i64 p,.int .i64 q,.slice bo m d]] w fun e w'=>∃ v,e = .returned (.tuple #[v,.int .i64 3])∧NewM w.heap.size w' 0 0 [] v∧Below w.heap.size w w':=by
 have K:=hide (right2_any r c ao n cap p q bo m d (((w.alloc (.cells #[.int .i64 r,.int .i64 c,.slice ao n cap] 24)).alloc (.cells #[.int .i64 p,.int .i64 q,.slice bo m d] 24)).alloc (.cells #[.int .i64 0,.int .i64 0,.slice none 0 0] 24)) (by omega) (by omega))
 rw [h] at K
 simp only [size_alloc9] at K
 have KB:=hide (boxes3 w (.int .i64 r) (.int .i64 c) (.slice ao n cap) (.int .i64 p) (.int .i64 q) (.slice bo m d) (.int .i64 0) (.int .i64 0) (.slice none 0 0))
 have e1:decide ((c:Int) = (q:Int)) = false:=decide_eq_false (by omega)
 clear h
 go_enter Tryz.func74,Tryz.ntmps74
 go_wp2_with fail
 refine Calls.mono (uH K) ?_
 rintro e w1 ⟨rfl,hb1⟩
 obtain ⟨hB,hA,hA2,hX⟩:=uH KB w1 hb1
 have p0:=hA.c0;have p1:=hA.c1;have p2:=hA.c2
 have q0:=hA2.c0;have q1':=hA2.c1;have q2:=hA2.c2
 clear K KB hb1 hA hA2
 have f0:=hX.free 0;have f1:=hX.free 1;have f2:=hX.free 2
 have s0:=hX.c0;have s1:=hX.c1;have s2:=hX.c2
 have XP:=hX.put (.int .i64 0) (.int .i64 0) (.slice none 0 0)
 have z0:=XP.c0;have z1:=XP.c1;have z2:=XP.c2
 have BP:=hide (below_putM hB (b:=w.heap.size+1+1) (by omega) (.int .i64 0) (.int .i64 0) (.slice none 0 0))
 clear XP hX hB
 go_wp2
 exact bodyPost_ret (v:=.tuple #[.agg #[.int .i64 0,.int .i64 0,.slice none 0 0],.int .i64 3]) (by simp [results,Tryz.results74,go_sem,z0,z1,z2]) rfl ⟨_,rfl,NewM.zero _ _,uH BP⟩
theorem mstack_rows (r c n cap p q m d:Nat) (ao bo:Option Addr) (w:World) (hn:n≤36) (hm:m≤36) (_hr:r≤6) (_hc:c≤6) (_hp:p≤6) (_hq:q≤6) (h:(okB r c n && okB p q m) = true) (hne:c = q) (hgt:6 < r+p) :
  Calls Tryz.prog 74 #[.agg #[.int .i64 r,.int .i64 c,.slice ao n cap],.agg #[.int .i64 p,.int .i64 q,.slice bo m d]] w fun e w'=>∃ v,e = .returned (.tuple #[v,.int .i64 3])∧NewM w.heap.size w' 0 0 [] v∧Below w.heap.size w w':=by
 have K:=hide (right2_any r c ao n cap p q bo m d (((w.alloc (.cells #[.int .i64 r,.int .i64 c,.slice ao n cap] 24)).alloc (.cells #[.int .i64 p,.int .i64 q,.slice bo m d] 24)).alloc (.cells #[.int .i64 0,.int .i64 0,.slice none 0 0] 24)) (by omega) (by omega))
 rw [h] at K
 simp only [size_alloc9] at K
 have KB:=hide (boxes3 w (.int .i64 r) (.int .i64 c) (.slice ao n cap) (.int .i64 p) (.int .i64 q) (.slice bo m d) (.int .i64 0) (.int .i64 0) (.slice none 0 0))
 subst hne
 have e1:(6:Int) < (r:Int)+(p:Int):=by omega
 clear h
 go_enter Tryz.func74,Tryz.ntmps74
 go_wp2_with fail
 refine Calls.mono (uH K) ?_
 rintro e w1 ⟨rfl,hb1⟩
 obtain ⟨hB,hA,hA2,hX⟩:=uH KB w1 hb1
 have p0:=hA.c0;have p1:=hA.c1;have p2:=hA.c2
 have q0:=hA2.c0;have q1':=hA2.c1;have q2:=hA2.c2
 clear K KB hb1 hA hA2
 have f0:=hX.free 0;have f1:=hX.free 1;have f2:=hX.free 2
 have s0:=hX.c0;have s1:=hX.c1;have s2:=hX.c2
 have XP:=hX.put (.int .i64 0) (.int .i64 0) (.slice none 0 0)
 have z0:=XP.c0;have z1:=XP.c1;have z2:=XP.c2
 have BP:=hide (below_putM hB (b:=w.heap.size+1+1) (by omega) (.int .i64 0) (.int .i64 0) (.slice none 0 0))
 clear XP hX hB
 go_wp2
 exact bodyPost_ret (v:=.tuple #[.agg #[.int .i64 0,.int .i64 0,.slice none 0 0],.int .i64 3]) (by simp [results,Tryz.results74,go_sem,z0,z1,z2]) rfl ⟨_,rfl,NewM.zero _ _,uH BP⟩
theorem mstack_of (r c n cap p q m d:Nat) (ao bo:Option Addr) (x y:Nat) (S:List Nat) (w:World) (hn:n≤36) (hm:m≤36) (_hr:r≤6) (_hc:c≤6) (_hp:p≤6) (_hq:q≤6) (h:(okB r c n && okB p q m) = true) (he:c = q) (hle:r+p≤6)
  (C:∀ w1,Below w.heap.size w w1→BoxM w1 w.heap.size (.int .i64 r) (.int .i64 c) (.slice ao n cap)→BoxM w1 (w.heap.size+1) (.int .i64 p) (.int .i64 q) (.slice bo m d)→Calls Tryz.prog 131 #[.int .i64 ((r:Int)+(p:Int)),.int .i64 c,.func (.func 132) #[] #[.pointer (some ⟨w.heap.size,0,none⟩),.pointer (some ⟨w.heap.size+1,0,none⟩)]] w1 fun e w''=>∃ v,e = .returned v∧NewM w1.heap.size w'' x y S v∧Below w1.heap.size w1 w'') :
  Calls Tryz.prog 74 #[.agg #[.int .i64 r,.int .i64 c,.slice ao n cap],.agg #[.int .i64 p,.int .i64 q,.slice bo m d]] w fun e w'=>∃ v,e = .returned (.tuple #[v,.int .i64 0])∧NewM w.heap.size w' x y S v∧Below w.heap.size w w':=by
 have K:=hide (right2_any r c ao n cap p q bo m d (((w.alloc (.cells #[.int .i64 r,.int .i64 c,.slice ao n cap] 24)).alloc (.cells #[.int .i64 p,.int .i64 q,.slice bo m d] 24)).alloc (.cells #[.int .i64 0,.int .i64 0,.slice none 0 0] 24)) (by omega) (by omega))
 rw [h] at K
 simp only [size_alloc9] at K
 have KB:=hide (boxes3 w (.int .i64 r) (.int .i64 c) (.slice ao n cap) (.int .i64 p) (.int .i64 q) (.slice bo m d) (.int .i64 0) (.int .i64 0) (.slice none 0 0))
 have KT:=hide (fun w1 (hB:Below w.heap.size w w1) (hA:BoxM w1 w.heap.size (.int .i64 r) (.int .i64 c) (.slice ao n cap)) (hA2:BoxM w1 (w.heap.size+1) (.int .i64 p) (.int .i64 q) (.slice bo m d)) (hX:BoxM w1 (w.heap.size+1+1) (.int .i64 0) (.int .i64 0) (.slice none 0 0))=>(C w1 hB hA hA2).mono (R':=fun e w''=>∃ v,e = .returned v∧NewM w.heap.size w'' x y S v∧Below w.heap.size w w''∧BoxM w'' (w.heap.size+1+1) (.int .i64 0) (.int .i64 0) (.slice none 0 0)) (by
  rintro e w'' ⟨v,rfl,h1,h2⟩
  exact ⟨v,rfl,h1.least hB.size,hB.trans (h2.mono hB.size),hX.all h2⟩))
 subst he
 have e1:(r:Int)+(p:Int)≤6:=by omega
 clear h C
 go_enter Tryz.func74,Tryz.ntmps74
 go_wp2_with fail
 refine Calls.mono (uH K) ?_
 rintro e w1 ⟨rfl,hb1⟩
 obtain ⟨hB,hA,hA2,hX⟩:=uH KB w1 hb1
 have p0:=hA.c0;have p1:=hA.c1;have p2:=hA.c2
 have q0:=hA2.c0;have q1':=hA2.c1;have q2:=hA2.c2
 have KC:=hide (uH KT w1 hB hA hA2 hX)
 clear K KB KT hb1 hA hA2 hX hB
 go_wp2_with fail
 refine Calls.mono (uH KC) ?_
 clear KC
 rintro e w2 ⟨v,rfl,⟨ro,rd,rfl,n1,q1⟩,hb2,hX⟩
 have f0:=hX.free 0;have f1:=hX.free 1;have f2:=hX.free 2
 have XP:=hX.put (.int .i64 x) (.int .i64 y) (.slice ro S.length rd)
 have z0:=XP.c0;have z1:=XP.c1;have z2:=XP.c2
 have s0:=hX.c0;have s1:=hX.c1;have s2:=hX.c2
 have Q:=hide (q1.putM hX (.int .i64 x) (.int .i64 y) (.slice ro S.length rd))
 have BP:=hide (below_putM hb2 (b:=w.heap.size+1+1) (by omega) (.int .i64 x) (.int .i64 y) (.slice ro S.length rd))
 clear XP q1 hb2 hX
 go_wp2
 exact bodyPost_ret (v:=.tuple #[.agg #[.int .i64 x,.int .i64 y,.slice ro S.length rd],.int .i64 0]) (by simp [results,Tryz.results74,go_sem,z0,z1,z2]) rfl ⟨_,rfl,⟨ro,rd,rfl,n1,uH Q⟩,uH BP⟩
end Go.Proofs.YtcbcmlaogehimaaGreatDoor
namespace Go.Proofs.YtcbcmlaogehimaaGreatDoor
open Go.RowKit
attribute [local go_sem ↓] Go.wp_at_zero Go.wp_at_succ
theorem zeros1_any (i k:Nat) (w:World) :
  Calls Tryz.prog 231 #[.int .i64 i,.int .i64 k] w fun e w'=>e = .returned (.int .u64 (0:Nat))∧Below w.heap.size w w':=by
 go_enter Tryz.func231,Tryz.ntmps231
 go_wp2
 go_ret
 exact ⟨rfl,Below.refl _ _⟩
theorem eye1_any (i k:Nat) (w:World) :
  Calls Tryz.prog 209 #[.int .i64 i,.int .i64 k] w fun e w'=>e = .returned (.int .u64 ((if k = i then 4607182418800017408 else 0:Nat):Int))∧Below w.heap.size w w':=by
 by_cases h:k = i
 ·rw [if_pos h]
  subst h
  go_enter Tryz.func209,Tryz.ntmps209
  go_wp2
  go_ret
  exact ⟨rfl,Below.refl _ _⟩
 ·rw [if_neg h]
  have e1:decide ((i:Int) = (k:Int)) = false:=decide_eq_false (by omega)
  go_enter Tryz.func209,Tryz.ntmps209
  go_wp2
  go_ret
  exact ⟨rfl,Below.refl _ _⟩
theorem part1_of (r c n cap i k a b x bx bi bk:Nat) (ao:Option Addr) (w:World) (ha:a+i≤6) (hb:b+k≤6) (hX:BoxM w bx (.int .i64 r) (.int .i64 c) (.slice ao n cap)) (hi:w.cell? ⟨bi,0,none⟩ = some (.int .i64 (a:Nat))) (hk:w.cell? ⟨bk,0,none⟩ = some (.int .i64 (b:Nat)))
  (C:Calls Tryz.prog 133 #[.agg #[.int .i64 r,.int .i64 c,.slice ao n cap],.int .i64 ((a:Int)+(i:Int)),.int .i64 ((b:Int)+(k:Int))] w fun e w'=>e = .returned (.int .u64 (x:Nat))∧Below w.heap.size w w') :
  Calls Tryz.prog 154 #[.int .i64 i,.int .i64 k,.pointer (some ⟨bx,0,none⟩),.pointer (some ⟨bi,0,none⟩),.pointer (some ⟨bk,0,none⟩)] w fun e w'=>e = .returned (.int .u64 (x:Nat))∧Below w.heap.size w w':=by
 have K:=hide C
 have p0:=hX.c0;have p1:=hX.c1;have p2:=hX.c2
 clear C hX
 go_enter Tryz.func154,Tryz.ntmps154
 go_wp2_with fail
 refine Calls.mono (uH K) ?_
 rintro e w1 ⟨rfl,hb1⟩
 clear K
 go_wp2
 go_ret
 exact ⟨rfl,hb1⟩
theorem stack1_of (r c n cap p q m d i k x ba bb:Nat) (ao bo:Option Addr) (w:World) (hr:r≤6) (hi:i≤6) (hX:BoxM w ba (.int .i64 r) (.int .i64 c) (.slice ao n cap)) (hY:BoxM w bb (.int .i64 p) (.int .i64 q) (.slice bo m d))
  (C:if i < r then Calls Tryz.prog 133 #[.agg #[.int .i64 r,.int .i64 c,.slice ao n cap],.int .i64 i,.int .i64 k] w fun e w'=>e = .returned (.int .u64 (x:Nat))∧Below w.heap.size w w'
   else Calls Tryz.prog 133 #[.agg #[.int .i64 p,.int .i64 q,.slice bo m d],.int .i64 ((i:Int) - (r:Int)),.int .i64 k] w fun e w'=>e = .returned (.int .u64 (x:Nat))∧Below w.heap.size w w') :
  Calls Tryz.prog 132 #[.int .i64 i,.int .i64 k,.pointer (some ⟨ba,0,none⟩),.pointer (some ⟨bb,0,none⟩)] w fun e w'=>e = .returned (.int .u64 (x:Nat))∧Below w.heap.size w w':=by
 have p0:=hX.c0;have p1:=hX.c1;have p2:=hX.c2
 have q0:=hY.c0;have q1:=hY.c1;have q2:=hY.c2
 clear hX hY
 by_cases h:i < r
 ·rw [if_pos h] at C
  have K:=hide C
  have hI:(i:Int) < (r:Int):=by omega
  clear C
  go_enter Tryz.func132,Tryz.ntmps132
  go_wp2_with fail
  refine Calls.mono (uH K) ?_
  rintro e w1 ⟨rfl,hb1⟩
  clear K
  go_wp2
  go_ret
  exact ⟨rfl,hb1⟩
 ·rw [if_neg h] at C
  have K:=hide C
  have hI:¬ ((i:Int) < (r:Int)):=by omega
  clear C
  go_enter Tryz.func132,Tryz.ntmps132
  go_wp2_with fail
  refine Calls.mono (uH K) ?_
  rintro e w1 ⟨rfl,hb1⟩
  clear K
  go_wp2
  go_ret
  exact ⟨rfl,hb1⟩
theorem mul1_of (r c n cap p q m d i k x ba bb:Nat) (ao bo:Option Addr) (U V:List Int) (w:World) (hX:BoxM w ba (.int .i64 r) (.int .i64 c) (.slice ao n cap)) (hY:BoxM w bb (.int .i64 p) (.int .i64 q) (.slice bo m d))
  (C1:∀ w',Below w.heap.size w w'→Calls Tryz.prog 137 #[.agg #[.int .i64 r,.int .i64 c,.slice ao n cap],.int .i64 i] w' fun e w''=>∃ so sd,e = .returned (.slice so c sd)∧BitsAt w'' so sd U∧Below w'.heap.size w' w'')
  (C2:∀ w',Below w.heap.size w w'→Calls Tryz.prog 137 #[.agg #[.int .i64 p,.int .i64 q,.slice bo m d],.int .i64 k] w' fun e w''=>∃ so sd,e = .returned (.slice so q sd)∧BitsAt w'' so sd V∧Below w'.heap.size w' w'')
  (C3:∀ w' so sd ro rd,Below w.heap.size w w'→BitsAt w' so sd U→BitsAt w' ro rd V→Calls Tryz.prog 136 #[.slice so c sd,.slice ro q rd] w' fun e w''=>e = .returned (.tuple #[.int .u64 (x:Nat),.int .i64 0])∧Below w'.heap.size w' w'') :
  Calls Tryz.prog 135 #[.int .i64 i,.int .i64 k,.pointer (some ⟨ba,0,none⟩),.pointer (some ⟨bb,0,none⟩)] w fun e w'=>e = .returned (.int .u64 (x:Nat))∧Below w.heap.size w w':=by
 have K1:=hide C1;have K2:=hide C2;have K3:=hide C3
 have HK:=hide (fun w' (h:Below w.heap.size w w')=>(show Below w.heap.size w w'∧(w'.cell? ⟨ba,0,none⟩ = some (.int .i64 r)∧w'.cell? ⟨ba,1,none⟩ = some (.int .i64 c)∧w'.cell? ⟨ba,2,none⟩ = some (.slice ao n cap))∧(w'.cell? ⟨bb,0,none⟩ = some (.int .i64 p)∧w'.cell? ⟨bb,1,none⟩ = some (.int .i64 q)∧w'.cell? ⟨bb,2,none⟩ = some (.slice bo m d)) from
  ⟨h,⟨(hX.all h).c0,(hX.all h).c1,(hX.all h).c2⟩,(hY.all h).c0,(hY.all h).c1,(hY.all h).c2⟩))
 clear C1 C2 C3 hX hY
 go_enter Tryz.func135,Tryz.ntmps135
 go_wp2_with fail
 go_region_held3 (fun w'=>Below w.heap.size w w'∧(w'.cell? ⟨ba,0,none⟩ = some (.int .i64 r)∧w'.cell? ⟨ba,1,none⟩ = some (.int .i64 c)∧w'.cell? ⟨ba,2,none⟩ = some (.slice ao n cap))∧(w'.cell? ⟨bb,0,none⟩ = some (.int .i64 p)∧w'.cell? ⟨bb,1,none⟩ = some (.int .i64 q)∧w'.cell? ⟨bb,2,none⟩ = some (.slice bo m d)))
  (first | exact uH HK _ (Below.refl _ _).drew | exact uH HK _ (by assumption) | fail "KK")
  (first | (go_at_call_of 137 (Value.agg #[.int .i64 r,.int .i64 c,.slice ao n cap]);refine (uH K1 _ (And.left (by assumption))).mono ?_;rintro e w1 ⟨so,sd,rfl,hu,hb1⟩;have hB1:Below w.heap.size w w1:=Below.trans (And.left (by assumption)) (hb1.mono (Below.size (And.left (by assumption))));have HU:=hide hu;(first | (have HV:=hide ((uH HV).below hb1)) | skip);clear hb1 hu K1) | (go_at_call_of 137 (Value.agg #[.int .i64 p,.int .i64 q,.slice bo m d]);refine (uH K2 _ (And.left (by assumption))).mono ?_;rintro e w2 ⟨ro,rd,rfl,hv,hb2⟩;have hB2:Below w.heap.size w w2:=Below.trans (And.left (by assumption)) (hb2.mono (Below.size (And.left (by assumption))));have HV:=hide hv;(first | (have HU:=hide ((uH HU).below hb2)) | skip);clear hb2 hv K2) | (go_at_call 136;refine (uH K3 _ _ _ _ _ (And.left (by assumption)) (uH HU) (uH HV)).mono ?_;rintro e w3 ⟨rfl,hb3⟩;have hB3:Below w.heap.size w w3:=Below.trans (And.left (by assumption)) (hb3.mono (Below.size (And.left (by assumption))));clear hb3) | fail "NO ARM")
 all_goals
  go_wp2
  go_ret
  exact ⟨rfl,And.left (by assumption)⟩
end Go.Proofs.YtcbcmlaogehimaaGreatDoor
namespace Go.Proofs.YtcbcmlaogehimaaGreatDoor
open Go.RowKit
attribute [local go_sem ↓] Go.wp_at_zero Go.wp_at_succ
theorem boxesP (w:World) (x y z u v:Value) (w1:World) (h:Below (w.heap.size+1+1+1+1) ((((w.alloc (.cells #[x,y,z] 24)).alloc (.cells #[u] 3)).alloc (.cells #[v] 3)).alloc (.cells #[.int .i64 0,.int .i64 0,.slice none 0 0] 24)) w1) :
  Below w.heap.size w w1∧BoxM w1 w.heap.size x y z∧(w1.cell? ⟨w.heap.size+1,0,none⟩ = some u∧w1.cell? ⟨w.heap.size+1+1,0,none⟩ = some v)∧BoxM w1 (w.heap.size+1+1+1) (.int .i64 0) (.int .i64 0) (.slice none 0 0):=by
 have b0:=below_alloc9 w (.cells #[x,y,z] 24)
 have x0:=BoxM.new w x y z
 have s0:=size_alloc9 w (.cells #[x,y,z] 24)
 generalize w.alloc (.cells #[x,y,z] 24) = wa at *
 have b1:=below_alloc9 wa (.cells #[u] 3)
 have c1:=new_cell wa u 3
 have s1:=size_alloc9 wa (.cells #[u] 3)
 have x1:=x0.all b1
 generalize wa.alloc (.cells #[u] 3) = wb at *
 have b2:=below_alloc9 wb (.cells #[v] 3)
 have c2:=new_cell wb v 3
 have s2:=size_alloc9 wb (.cells #[v] 3)
 have x2:=x1.all b2
 have d1:=cell_keep c1 b2
 generalize wb.alloc (.cells #[v] 3) = wc at *
 have b3:=below_alloc9 wc (.cells #[.int .i64 0,.int .i64 0,.slice none 0 0] 24)
 have x4:=BoxM.new wc (.int .i64 0) (.int .i64 0) (.slice none 0 0)
 have s3:=size_alloc9 wc (.cells #[.int .i64 0,.int .i64 0,.slice none 0 0] 24)
 have x3:=x2.all b3
 have e1:=cell_keep d1 b3
 have e2:=cell_keep c2 b3
 generalize wc.alloc (.cells #[.int .i64 0,.int .i64 0,.slice none 0 0] 24) = wd at *
 rw [s2,s1,s0] at x4
 rw [s0] at e1
 rw [s1,s0] at e2
 have hd:wd.heap.size = w.heap.size+1+1+1+1:=by omega
 rw [← hd] at h
 have bb:Below w.heap.size w wd:=((b0.trans (b1.mono (by omega))).trans (b2.mono (by omega))).trans (b3.mono (by omega))
 exact ⟨bb.trans (h.mono (by omega)),x3.all h,⟨cell_keep e1 h,cell_keep e2 h⟩,x4.all h⟩
theorem mpart_form (r c:Int) (ao:Option Addr) (n cap:Nat) (i k a b:Int) (w:World) (hn:n≤35184372088830) (h:okB r c n = false) :
  Calls Tryz.prog 95 #[.agg #[.int .i64 r,.int .i64 c,.slice ao n cap],.int .i64 i,.int .i64 k,.int .i64 a,.int .i64 b] w fun e w'=>∃ v,e = .returned (.tuple #[v,.int .i64 1])∧NewM w.heap.size w' 0 0 [] v∧Below w.heap.size w w':=by
 have K:=hide (right1_any r c ao n cap ((((w.alloc (.cells #[.int .i64 r,.int .i64 c,.slice ao n cap] 24)).alloc (.cells #[.int .i64 i] 3)).alloc (.cells #[.int .i64 k] 3)).alloc (.cells #[.int .i64 0,.int .i64 0,.slice none 0 0] 24)) hn)
 rw [h] at K
 simp only [size_alloc9] at K
 have KB:=hide (boxesP w (.int .i64 r) (.int .i64 c) (.slice ao n cap) (.int .i64 i) (.int .i64 k))
 clear h
 go_enter Tryz.func95,Tryz.ntmps95
 go_wp2_with fail
 refine Calls.mono (uH K) ?_
 rintro e w1 ⟨rfl,hb1⟩
 obtain ⟨hB,hA,⟨ci,ck⟩,hX⟩:=uH KB w1 hb1
 clear K KB hb1 hA ci ck
 have f0:=hX.free 0;have f1:=hX.free 1;have f2:=hX.free 2
 have s0:=hX.c0;have s1:=hX.c1;have s2:=hX.c2
 have XP:=hX.put (.int .i64 0) (.int .i64 0) (.slice none 0 0)
 have z0:=XP.c0;have z1:=XP.c1;have z2:=XP.c2
 have BP:=hide (below_putM hB (b:=w.heap.size+1+1+1) (by omega) (.int .i64 0) (.int .i64 0) (.slice none 0 0))
 clear XP hX hB
 go_wp2
 exact bodyPost_ret (v:=.tuple #[.agg #[.int .i64 0,.int .i64 0,.slice none 0 0],.int .i64 1]) (by simp [results,Tryz.results95,go_sem,z0,z1,z2]) rfl ⟨_,rfl,NewM.zero _ _,uH BP⟩
theorem mpart_of (r c:Int) (ao:Option Addr) (n cap:Nat) (i k a b:Int) (x y:Nat) (S:List Nat) (w:World) (hn:n≤35184372088830) (h:okB r c n = true) (L1:∀ w',Calls Tryz.prog 153 #[.int .i64 i,.int .i64 a,.int .i64 r] w' fun x w''=>x = .returned (.bool true)∧w' = w'') (L2:∀ w',Calls Tryz.prog 153 #[.int .i64 k,.int .i64 b,.int .i64 c] w' fun x w''=>x = .returned (.bool true)∧w' = w'')
  (C:∀ w1,Below w.heap.size w w1→BoxM w1 w.heap.size (.int .i64 r) (.int .i64 c) (.slice ao n cap)→w1.cell? ⟨w.heap.size+1,0,none⟩ = some (.int .i64 i)→w1.cell? ⟨w.heap.size+1+1,0,none⟩ = some (.int .i64 k)→Calls Tryz.prog 131 #[.int .i64 a,.int .i64 b,.func (.func 154) #[] #[.pointer (some ⟨w.heap.size,0,none⟩),.pointer (some ⟨w.heap.size+1,0,none⟩),.pointer (some ⟨w.heap.size+1+1,0,none⟩)]] w1 fun e w''=>∃ v,e = .returned v∧NewM w1.heap.size w'' x y S v∧Below w1.heap.size w1 w'') :
  Calls Tryz.prog 95 #[.agg #[.int .i64 r,.int .i64 c,.slice ao n cap],.int .i64 i,.int .i64 k,.int .i64 a,.int .i64 b] w fun e w'=>∃ v,e = .returned (.tuple #[v,.int .i64 0])∧NewM w.heap.size w' x y S v∧Below w.heap.size w w':=by
 have M1:=hide L1;have M2:=hide L2
 clear L1 L2
 have K:=hide (right1_any r c ao n cap ((((w.alloc (.cells #[.int .i64 r,.int .i64 c,.slice ao n cap] 24)).alloc (.cells #[.int .i64 i] 3)).alloc (.cells #[.int .i64 k] 3)).alloc (.cells #[.int .i64 0,.int .i64 0,.slice none 0 0] 24)) hn)
 rw [h] at K
 simp only [size_alloc9] at K
 have KB:=hide (boxesP w (.int .i64 r) (.int .i64 c) (.slice ao n cap) (.int .i64 i) (.int .i64 k))
 have KT:=hide (fun w1 (hB:Below w.heap.size w w1) (hA:BoxM w1 w.heap.size (.int .i64 r) (.int .i64 c) (.slice ao n cap)) (ci:w1.cell? ⟨w.heap.size+1,0,none⟩ = some (.int .i64 i)) (ck:w1.cell? ⟨w.heap.size+1+1,0,none⟩ = some (.int .i64 k)) (hX:BoxM w1 (w.heap.size+1+1+1) (.int .i64 0) (.int .i64 0) (.slice none 0 0))=>(C w1 hB hA ci ck).mono (R':=fun e w''=>∃ v,e = .returned v∧NewM w.heap.size w'' x y S v∧Below w.heap.size w w''∧BoxM w'' (w.heap.size+1+1+1) (.int .i64 0) (.int .i64 0) (.slice none 0 0)) (by
  rintro e w'' ⟨v,rfl,h1,h2⟩
  exact ⟨v,rfl,h1.least hB.size,hB.trans (h2.mono hB.size),hX.all h2⟩))
 clear h C
 go_enter Tryz.func95,Tryz.ntmps95
 go_wp2_with fail
 refine Calls.mono (uH K) ?_
 rintro e w1 ⟨rfl,hb1⟩
 obtain ⟨hB,hA,⟨ci,ck⟩,hX⟩:=uH KB w1 hb1
 have p0:=hA.c0;have p1:=hA.c1;have p2:=hA.c2
 have KC:=hide (uH KT w1 hB hA ci ck hX)
 clear K KB KT hb1 hA hX hB
 go_wp2_with fail
 refine (uH M1 _).mono ?_
 rintro e w9 ⟨rfl,rfl⟩
 clear M1
 go_wp2_with fail
 refine (uH M2 _).mono ?_
 rintro e w9 ⟨rfl,rfl⟩
 clear M2
 go_wp2_with fail
 refine Calls.mono (uH KC) ?_
 clear KC
 rintro e w2 ⟨v,rfl,⟨ro,rd,rfl,n1,q1⟩,hb2,hX⟩
 have f0:=hX.free 0;have f1:=hX.free 1;have f2:=hX.free 2
 have XP:=hX.put (.int .i64 x) (.int .i64 y) (.slice ro S.length rd)
 have z0:=XP.c0;have z1:=XP.c1;have z2:=XP.c2
 have s0:=hX.c0;have s1:=hX.c1;have s2:=hX.c2
 have Q:=hide (q1.putM hX (.int .i64 x) (.int .i64 y) (.slice ro S.length rd))
 have BP:=hide (below_putM hb2 (b:=w.heap.size+1+1+1) (by omega) (.int .i64 x) (.int .i64 y) (.slice ro S.length rd))
 clear XP q1 hb2 hX
 go_wp2
 exact bodyPost_ret (v:=.tuple #[.agg #[.int .i64 x,.int .i64 y,.slice ro S.length rd],.int .i64 0]) (by simp [results,Tryz.results95,go_sem,z0,z1,z2]) rfl ⟨_,rfl,⟨ro,rd,rfl,n1,uH Q⟩,uH BP⟩
theorem mzeros_of (r c:Int) (x y:Nat) (S:List Nat) (w:World) (h:rgB r c = true)
  (C:∀ w1,Below w.heap.size w w1→Calls Tryz.prog 131 #[.int .i64 r,.int .i64 c,.func (.func 231) #[] #[]] w1 fun e w''=>∃ v,e = .returned v∧NewM w1.heap.size w'' x y S v∧Below w1.heap.size w1 w'') :
  Calls Tryz.prog 201 #[.int .i64 r,.int .i64 c] w fun e w'=>∃ v,e = .returned (.tuple #[v,.int .i64 0])∧NewM w.heap.size w' x y S v∧Below w.heap.size w w':=by
 have K:=hide (fun w'=>inRange_any r c w')
 rw [h] at K
 have KT:=hide ((C _ (below_alloc9 w (.cells #[.int .i64 0,.int .i64 0,.slice none 0 0] 24))).mono (R':=fun e w''=>∃ v,e = .returned v∧NewM w.heap.size w'' x y S v∧Below w.heap.size w w''∧BoxM w'' w.heap.size (.int .i64 0) (.int .i64 0) (.slice none 0 0)) (by
  rintro e w'' ⟨v,rfl,h1,h2⟩
  have b:=below_alloc9 w (.cells #[.int .i64 0,.int .i64 0,.slice none 0 0] 24)
  exact ⟨v,rfl,h1.least b.size,b.trans (h2.mono b.size),(BoxM.new w (.int .i64 0) (.int .i64 0) (.slice none 0 0)).all h2⟩))
 clear h C
 go_enter Tryz.func201,Tryz.ntmps201
 go_wp2_with fail
 refine (uH K _).mono ?_
 rintro e w1 ⟨rfl,rfl⟩
 clear K
 go_wp2_with fail
 refine Calls.mono (uH KT) ?_
 clear KT
 rintro e w2 ⟨v,rfl,⟨ro,rd,rfl,n1,q1⟩,hb2,hX⟩
 have f0:=hX.free 0;have f1:=hX.free 1;have f2:=hX.free 2
 have XP:=hX.put (.int .i64 x) (.int .i64 y) (.slice ro S.length rd)
 have z0:=XP.c0;have z1:=XP.c1;have z2:=XP.c2
 have s0:=hX.c0;have s1:=hX.c1;have s2:=hX.c2
 have Q:=hide (q1.putM hX (.int .i64 x) (.int .i64 y) (.slice ro S.length rd))
 have BP:=hide (below_putM hb2 (b:=w.heap.size) (by omega) (.int .i64 x) (.int .i64 y) (.slice ro S.length rd))
 clear XP q1 hb2 hX
 go_wp2
 exact bodyPost_ret (v:=.tuple #[.agg #[.int .i64 x,.int .i64 y,.slice ro S.length rd],.int .i64 0]) (by simp [results,Tryz.results201,go_sem,z0,z1,z2]) rfl ⟨_,rfl,⟨ro,rd,rfl,n1,uH Q⟩,uH BP⟩
theorem meye_of (r:Int) (x y:Nat) (S:List Nat) (w:World) (h:rgB r r = true)
  (C:∀ w1,Below w.heap.size w w1→Calls Tryz.prog 131 #[.int .i64 r,.int .i64 r,.func (.func 209) #[] #[]] w1 fun e w''=>∃ v,e = .returned v∧NewM w1.heap.size w'' x y S v∧Below w1.heap.size w1 w'') :
  Calls Tryz.prog 170 #[.int .i64 r] w fun e w'=>∃ v,e = .returned (.tuple #[v,.int .i64 0])∧NewM w.heap.size w' x y S v∧Below w.heap.size w w':=by
 have K:=hide (fun w'=>inRange_any r r w')
 rw [h] at K
 have KT:=hide ((C _ (below_alloc9 w (.cells #[.int .i64 0,.int .i64 0,.slice none 0 0] 24))).mono (R':=fun e w''=>∃ v,e = .returned v∧NewM w.heap.size w'' x y S v∧Below w.heap.size w w''∧BoxM w'' w.heap.size (.int .i64 0) (.int .i64 0) (.slice none 0 0)) (by
  rintro e w'' ⟨v,rfl,h1,h2⟩
  have b:=below_alloc9 w (.cells #[.int .i64 0,.int .i64 0,.slice none 0 0] 24)
  exact ⟨v,rfl,h1.least b.size,b.trans (h2.mono b.size),(BoxM.new w (.int .i64 0) (.int .i64 0) (.slice none 0 0)).all h2⟩))
 clear h C
 go_enter Tryz.func170,Tryz.ntmps170
 go_wp2_with fail
 refine (uH K _).mono ?_
 rintro e w1 ⟨rfl,rfl⟩
 clear K
 go_wp2_with fail
 refine Calls.mono (uH KT) ?_
 clear KT
 rintro e w2 ⟨v,rfl,⟨ro,rd,rfl,n1,q1⟩,hb2,hX⟩
 have f0:=hX.free 0;have f1:=hX.free 1;have f2:=hX.free 2
 have XP:=hX.put (.int .i64 x) (.int .i64 y) (.slice ro S.length rd)
 have z0:=XP.c0;have z1:=XP.c1;have z2:=XP.c2
 have s0:=hX.c0;have s1:=hX.c1;have s2:=hX.c2
 have Q:=hide (q1.putM hX (.int .i64 x) (.int .i64 y) (.slice ro S.length rd))
 have BP:=hide (below_putM hb2 (b:=w.heap.size) (by omega) (.int .i64 x) (.int .i64 y) (.slice ro S.length rd))
 clear XP q1 hb2 hX
 go_wp2
 exact bodyPost_ret (v:=.tuple #[.agg #[.int .i64 x,.int .i64 y,.slice ro S.length rd],.int .i64 0]) (by simp [results,Tryz.results170,go_sem,z0,z1,z2]) rfl ⟨_,rfl,⟨ro,rd,rfl,n1,uH Q⟩,uH BP⟩
theorem mmul_of (r c n cap p q m d:Nat) (ao bo:Option Addr) (x y:Nat) (S T:List Nat) (w:World) (hn:n≤36) (hm:m≤36) (_hr:r≤6) (_hc:c≤6) (_hp:p≤6) (_hq:q≤6) (h:(okB r c n && okB p q m) = true) (he:c = p)
  (C1:∀ w1,Below w.heap.size w w1→Calls Tryz.prog 134 #[.agg #[.int .i64 p,.int .i64 q,.slice bo m d]] w1 fun e w''=>∃ v,e = .returned v∧NewM w1.heap.size w'' q p T v∧Below w1.heap.size w1 w'')
  (C:∀ w1 g co cd,Below w.heap.size w w1→BoxM w1 w.heap.size (.int .i64 r) (.int .i64 c) (.slice ao n cap)→BoxM w1 g (.int .i64 q) (.int .i64 p) (.slice co T.length cd)→BitsAt w1 co cd (mxL T)→Calls Tryz.prog 131 #[.int .i64 r,.int .i64 q,.func (.func 135) #[] #[.pointer (some ⟨w.heap.size,0,none⟩),.pointer (some ⟨g,0,none⟩)]] w1 fun e w''=>∃ v,e = .returned v∧NewM w1.heap.size w'' x y S v∧Below w1.heap.size w1 w'') :
  Calls Tryz.prog 75 #[.agg #[.int .i64 r,.int .i64 c,.slice ao n cap],.agg #[.int .i64 p,.int .i64 q,.slice bo m d]] w fun e w'=>∃ v,e = .returned (.tuple #[v,.int .i64 0])∧NewM w.heap.size w' x y S v∧Below w.heap.size w w':=by
 have K:=hide (right2_any r c ao n cap p q bo m d (((w.alloc (.cells #[.int .i64 r,.int .i64 c,.slice ao n cap] 24)).alloc (.cells #[.int .i64 p,.int .i64 q,.slice bo m d] 24)).alloc (.cells #[.int .i64 0,.int .i64 0,.slice none 0 0] 24)) (by omega) (by omega))
 rw [h] at K
 simp only [size_alloc9] at K
 have KB:=hide (boxes3 w (.int .i64 r) (.int .i64 c) (.slice ao n cap) (.int .i64 p) (.int .i64 q) (.slice bo m d) (.int .i64 0) (.int .i64 0) (.slice none 0 0))
 have M1:=hide C1
 have KT:=hide (fun w1 g co cd (hB:Below w.heap.size w w1) (hA:BoxM w1 w.heap.size (.int .i64 r) (.int .i64 c) (.slice ao n cap)) (hT:BoxM w1 g (.int .i64 q) (.int .i64 p) (.slice co T.length cd)) (hq:BitsAt w1 co cd (mxL T)) (hX:BoxM w1 (w.heap.size+1+1) (.int .i64 0) (.int .i64 0) (.slice none 0 0))=>(C w1 g co cd hB hA hT hq).mono (R':=fun e w''=>∃ v,e = .returned v∧NewM w.heap.size w'' x y S v∧Below w.heap.size w w''∧BoxM w'' (w.heap.size+1+1) (.int .i64 0) (.int .i64 0) (.slice none 0 0)) (by
  rintro e w'' ⟨v,rfl,h1,h2⟩
  exact ⟨v,rfl,h1.least hB.size,hB.trans (h2.mono hB.size),hX.all h2⟩))
 subst he
 clear h C C1
 go_enter Tryz.func75,Tryz.ntmps75
 go_wp2_with fail
 refine Calls.mono (uH K) ?_
 rintro e w1 ⟨rfl,hb1⟩
 obtain ⟨hB,hA,hA2,hX⟩:=uH KB w1 hb1
 have p0:=hA.c0;have p1:=hA.c1;have p2:=hA.c2
 have q0:=hA2.c0;have q1':=hA2.c1;have q2:=hA2.c2
 have HB:=hide hB;have HA:=hide hA;have HX:=hide hX;have HA2:=hide hA2
 clear K KB hb1 hA hA2 hX hB
 go_wp2_with fail
 refine (uH M1 _ (uH HB)).mono ?_
 rintro e w2 ⟨v,rfl,⟨co,cd,rfl,n1,q1⟩,hb2⟩
 have ba:=below_alloc9 w2 (.cells #[.int .i64 q,.int .i64 c,.slice co T.length cd] 24)
 have hB2:=(uH HB).trans (hb2.mono (uH HB).size)
 have hB3:=hB2.trans (ba.mono hB2.size)
 have hA3:=((uH HA).all hb2).all ba
 have hAA:=((uH HA2).all hb2).all ba
 have KC:=hide (uH KT _ w2.heap.size co cd hB3 hA3 (BoxM.new w2 _ _ _) (q1.below ba) (((uH HX).all hb2).all ba))
 clear p0 p1 p2 q0 q1' q2
 have p0:=hA3.c0;have p1:=hA3.c1;have p2:=hA3.c2
 have q0:=hAA.c0;have q3:=hAA.c1;have q2:=hAA.c2
 clear HB HA HX HA2 hb2 ba hB2 hB3 hA3 hAA q1 M1 KT n1
 go_wp2_with fail
 refine Calls.mono (uH KC) ?_
 clear KC
 rintro e w2 ⟨v,rfl,⟨ro,rd,rfl,n1,q1⟩,hb2,hX⟩
 have f0:=hX.free 0;have f1:=hX.free 1;have f2:=hX.free 2
 have XP:=hX.put (.int .i64 x) (.int .i64 y) (.slice ro S.length rd)
 have z0:=XP.c0;have z1:=XP.c1;have z2:=XP.c2
 have s0:=hX.c0;have s1:=hX.c1;have s2:=hX.c2
 have Q:=hide (q1.putM hX (.int .i64 x) (.int .i64 y) (.slice ro S.length rd))
 have BP:=hide (below_putM hb2 (b:=w.heap.size+1+1) (by omega) (.int .i64 x) (.int .i64 y) (.slice ro S.length rd))
 clear XP q1 hb2 hX
 go_wp2
 exact bodyPost_ret (v:=.tuple #[.agg #[.int .i64 x,.int .i64 y,.slice ro S.length rd],.int .i64 0]) (by simp [results,Tryz.results75,go_sem,z0,z1,z2]) rfl ⟨_,rfl,⟨ro,rd,rfl,n1,uH Q⟩,uH BP⟩
end Go.Proofs.YtcbcmlaogehimaaGreatDoor
namespace Go.Proofs.YtcbcmlaogehimaaGreatDoor
open Go.RowKit
theorem mTurn_ok (r c cap:Nat) (ao:Option Addr) (S:List Nat) (w:World) (h:Mx w ao cap r c S) :
  Calls Tryz.prog 103 #[.agg #[.int .i64 r,.int .i64 c,.slice ao S.length cap]] w fun e w'=>∃ v,e = .returned (.tuple #[v,.int .i64 0])∧NewM w.heap.size w' c r (tuM r c S) v∧Below w.heap.size w w' :=
 mturn_of r c ao S.length cap c r (tuM r c S) w (by have:=h.small;omega) (mx_ok h) (fun w1 hb=>turned_any r c cap ao S w1 (h.below hb))
theorem st_app (r c p:Nat) (S T:List Nat) (hS:S.length = r * c) (hT:T.length = p * c):mkM (r+p) c (fun i k=>if i < r then elM c S i k else elM c T (i - r) k) = S ++ T:=by
 have hl:(S ++ T).length = (r+p) * c:=by rw [List.length_append,hS,hT,Nat.add_mul]
 refine mkM_ext (mkM_len _ _ _) hl (fun i k hi hk=>?_)
 rw [mkM_atD _ _ _ hi hk]
 show _ = elM c (S ++ T) i k
 by_cases g:i < r
 ·rw [if_pos g,el_app_left r c S T hS g hk]
 ·obtain ⟨z,rfl⟩:∃ z,i = r+z:=⟨i - r,by omega⟩
  rw [if_neg g,el_app_right r c S T hS z k,show r+z - r = z by omega]
theorem cfStack1 (args:Array Value) (w:World):(callFunc 132 args).run Tryz.prog w = .ok (.enter 132 args) w:=by
 simp only [callFunc,go_sem]
 rfl
theorem cfPart1 (args:Array Value) (w:World):(callFunc 154 args).run Tryz.prog w = .ok (.enter 154 args) w:=by
 simp only [callFunc,go_sem]
 rfl
theorem cfMul1 (args:Array Value) (w:World):(callFunc 135 args).run Tryz.prog w = .ok (.enter 135 args) w:=by
 simp only [callFunc,go_sem]
 rfl
theorem cfZeros1 (args:Array Value) (w:World):(callFunc 231 args).run Tryz.prog w = .ok (.enter 231 args) w:=by
 simp only [callFunc,go_sem]
 rfl
theorem cfEye1 (args:Array Value) (w:World):(callFunc 209 args).run Tryz.prog w = .ok (.enter 209 args) w:=by
 simp only [callFunc,go_sem]
 rfl
theorem mStack_ok (r c cap p d:Nat) (ao bo:Option Addr) (S T:List Nat) (w:World) (h:Mx w ao cap r c S) (h2:Mx w bo d p c T) (hle:r+p≤6) :
  Calls Tryz.prog 74 #[.agg #[.int .i64 r,.int .i64 c,.slice ao S.length cap],.agg #[.int .i64 p,.int .i64 c,.slice bo T.length d]] w fun e w'=>∃ v,e = .returned (.tuple #[v,.int .i64 0])∧NewM w.heap.size w' (r+p) c (S ++ T) v∧Below w.heap.size w w':=by
 refine mstack_of r c S.length cap p c T.length d ao bo (r+p) c (S ++ T) w h.small h2.small h.2.2.1 h.2.2.2 h2.2.2.1 h.2.2.2 (by rw [mx_ok h,mx_ok h2];rfl) rfl hle ?_
 intro w1 hB hA hA2
 rw [← st_app r c p S T h.2.1 h2.2.1,show (r:Int)+(p:Int) = ((r+p:Nat):Int) by simp]
 refine build_any 132 _ (r+p) c _ w1 cfStack1 hle h.2.2.2 (fun i k _ _=>by split;exact h.el_lt _ _;exact h2.el_lt _ _) ?_
 intro w' i k hb hi hk
 have hb':Below w.heap.size w w':=hB.trans (hb.mono hB.size)
 refine stack1_of r c S.length cap p c T.length d i k _ w.heap.size (w.heap.size+1) ao bo w' h.2.2.1 (by omega) (hA.all hb) (hA2.all hb) ?_
 by_cases g:i < r
 ·rw [if_pos g,if_pos g]
  exact mat_any r c cap i k ao S w' (h.below hb') g hk
 ·rw [if_neg g,if_neg g,show (i:Int) - (r:Int) = ((i - r:Nat):Int) by omega]
  exact mat_any p c d (i - r) k bo T w' (h2.below hb') (by omega) hk
theorem mPart_ok (r c cap i k a b:Nat) (ao:Option Addr) (S:List Nat) (w:World) (h:Mx w ao cap r c S) (hi:i+a≤r) (hk:k+b≤c) :
  Calls Tryz.prog 95 #[.agg #[.int .i64 r,.int .i64 c,.slice ao S.length cap],.int .i64 i,.int .i64 k,.int .i64 a,.int .i64 b] w fun e w'=>∃ v,e = .returned (.tuple #[v,.int .i64 0])∧NewM w.heap.size w' a b (paM c S i k a b) v∧Below w.heap.size w w':=by
 have h6:=h.2.2.1
 have c6:=h.2.2.2
 refine mpart_of r c ao S.length cap i k a b a b (paM c S i k a b) w (by have:=h.small;omega) (mx_ok h) (fun w'=>?_) (fun w'=>?_) ?_
 ·have:=lies_any i a r w' (by omega) (by omega)
  rwa [decide_eq_true (by omega)] at this
 ·have:=lies_any k b c w' (by omega) (by omega)
  rwa [decide_eq_true (by omega)] at this
 ·intro w1 hB hA ci ck
  refine build_any 154 _ a b _ w1 cfPart1 (by omega) (by omega) (fun x y _ _=>h.el_lt _ _) ?_
  intro w' x y hb hx hy
  have hb':Below w.heap.size w w':=hB.trans (hb.mono hB.size)
  refine part1_of r c S.length cap x y i k _ w.heap.size (w.heap.size+1) (w.heap.size+1+1) ao w' (by omega) (by omega) (hA.all hb) (cell_keep ci hb) (cell_keep ck hb) ?_
  rw [show (i:Int)+(x:Int) = ((i+x:Nat):Int) by simp,show (k:Int)+(y:Int) = ((k+y:Nat):Int) by simp]
  exact mat_any r c cap (i+x) (k+y) ao S w' (h.below hb') (by omega) (by omega)
theorem mEye_ok (n:Nat) (w:World) (hn:n≤6) :
  Calls Tryz.prog 170 #[.int .i64 n] w fun e w'=>∃ v,e = .returned (.tuple #[v,.int .i64 0])∧NewM w.heap.size w' n n (eyM n) v∧Below w.heap.size w w' :=
 meye_of n n n _ w (decide_eq_true (by omega)) (fun w1 _=>build_any 209 #[] n n _ w1 cfEye1 hn hn (fun i k _ _=>by split <;> decide) (fun w' i k _ _ _=>eye1_any i k w'))
theorem tu_len (r c:Nat) (S:List Nat):(tuM r c S).length = c * r:=mkM_len _ _ _
theorem row_dot (n q k:Nat) (S T:List Nat) (i:Nat) (hk:k < q):dtK (mxL (rwL n S i)) (mxL (rwL n (tuM n q T) k)) n = dtf n (fun j=>elM n S i j) (fun j=>elM q T j k):=by
 rw [dtK_dtf]
 refine dtf_congr n (fun j hj=>?_) (fun j hj=>?_)
 ·rw [mxL_at,rwL_at n S i j hj]
 ·rw [mxL_at,rwL_at n _ k j hj]
  exact el_mk q n (fun k i=>elM q T i k) hk hj
theorem mMul_ok (r c cap q d:Nat) (ao bo:Option Addr) (S T:List Nat) (w:World) (h:Mx w ao cap r c S) (h2:Mx w bo d c q T) (hT:Tab w) :
  Calls Tryz.prog 75 #[.agg #[.int .i64 r,.int .i64 c,.slice ao S.length cap],.agg #[.int .i64 c,.int .i64 q,.slice bo T.length d]] w fun e w'=>∃ v,e = .returned (.tuple #[v,.int .i64 0])∧NewM w.heap.size w' r q (muM r c q S T) v∧Below w.heap.size w w':=by
 refine mmul_of r c S.length cap c q T.length d ao bo r q (muM r c q S T) (tuM c q T) w h.small h2.small h.2.2.1 h.2.2.2 h2.2.2.1 h2.2.2.2 (by rw [mx_ok h,mx_ok h2];rfl) rfl (fun w1 hb=>turned_any c q d bo T w1 (h2.below hb)) ?_
 intro w1 g co cd hB hA hC hq
 have hM:Mx w1 co cd q c (tuM c q T):=⟨hq,tu_len _ _ _,h2.2.2.2,h.2.2.2⟩
 refine build_any 135 _ r q _ w1 cfMul1 h.2.2.1 h2.2.2.2 (fun i k _ _=>dtf_lt _ _ _) ?_
 intro w' i k hb hi hk
 have hb':Below w.heap.size w w':=hB.trans (hb.mono hB.size)
 refine mul1_of r c S.length cap q c (tuM c q T).length cd i k _ w.heap.size g ao co (mxL (rwL c S i)) (mxL (rwL c (tuM c q T) k)) w' (hA.all hb) (hC.all hb) (fun w'' hb''=>row_any r c cap i ao S w'' ((h.below hb').below hb'') hi) (fun w'' hb''=>row_any q c cd k co (tuM c q T) w'' ((hM.below hb).below hb'') hk) ?_
 intro w'' so sd ro rd hb'' hu hv
 have l1:(mxL (rwL c S i)).length = c:=by rw [mxL_len,rwL_len]
 have l2:(mxL (rwL c (tuM c q T) k)).length = c:=by rw [mxL_len,rwL_len]
 have c6:=h.2.2.2
 have hg:goB (mxL (rwL c S i)) (mxL (rwL c (tuM c q T) k)) = true:=decide_eq_true (by rw [l1,l2];omega)
 have D:=vDot_any so ro sd rd _ _ w'' hu hv ((hT.all hb').all hb'')
 rw [if_pos hg,if_pos hg,l1,l2,row_dot c q k S T i hk] at D
 exact D
end Go.Proofs.YtcbcmlaogehimaaGreatDoor
namespace Go.Proofs.YtcbcmlaogehimaaGreatDoor
open Go.RowKit
attribute [local go_sem ↓] Go.wp_at_zero Go.wp_at_succ
theorem rright_any (r c:Int) (ao:Option Addr) (n cap:Nat) (w:World) :
  Calls Tryz.prog 47 #[.agg #[.int .i64 r,.int .i64 c,.slice ao n cap]] w fun e w'=>e = .returned (.bool (okB r c n))∧Below w.heap.size w w':=by
 have hb0:=hide (below_alloc9 w (.cells #[.int .i64 r,.int .i64 c,.slice ao n cap] 24))
 rcases (show (r < 0∧okB r c n = false) ∨ (0≤r∧6 < r∧okB r c n = false) ∨ (0≤r∧r≤6∧c < 0∧okB r c n = false) ∨ (0≤r∧r≤6∧0≤c∧6 < c∧okB r c n = false) ∨ (0≤r∧r≤6∧0≤c∧c≤6) by
  unfold okB
  by_cases h:0≤r∧r≤6∧0≤c∧c≤6
  ·omega
  ·rw [decide_eq_false (fun g=>h g.1)];simp;omega) with ⟨h1,e⟩ | ⟨h1,h2,e⟩ | ⟨h1,h2,h3,e⟩ | ⟨h1,h2,h3,h4,e⟩ | ⟨h1,h2,h3,h4⟩
 ·rw [e]
  clear e
  go_enter Tryz.func47,Tryz.ntmps47
  go_wp2
  go_ret
  exact ⟨rfl,uH hb0⟩
 ·rw [e]
  clear e
  go_enter Tryz.func47,Tryz.ntmps47
  go_wp2
  go_ret
  exact ⟨rfl,uH hb0⟩
 ·rw [e]
  clear e
  go_enter Tryz.func47,Tryz.ntmps47
  go_wp2
  go_ret
  exact ⟨rfl,uH hb0⟩
 ·rw [e]
  clear e
  go_enter Tryz.func47,Tryz.ntmps47
  go_wp2
  go_ret
  exact ⟨rfl,uH hb0⟩
 ·have hm:∃ m:Nat,r * c = (m:Int)∧m≤36:=by
   obtain ⟨a,rfl⟩:=Int.eq_ofNat_of_zero_le h1
   obtain ⟨b,rfl⟩:=Int.eq_ofNat_of_zero_le h3
   refine ⟨a * b,by simp,?_⟩
   have:a * b≤6 * 6:=Nat.mul_le_mul (by omega) (by omega)
   omega
  obtain ⟨m,hm,h36⟩:=hm
  have e2:okB r c n = decide ((n:Int) = (m:Int)):=decide_eq_decide.2 (by rw [hm];exact ⟨fun h=>h.2,fun h=>⟨⟨h1,h2,h3,h4⟩,h⟩⟩)
  rw [e2]
  clear e2
  go_enter Tryz.func47,Tryz.ntmps47
  go_wp2
  go_ret
  refine ⟨?_,uH hb0⟩
  first | rfl | simp
end Go.Proofs.YtcbcmlaogehimaaGreatDoor
namespace Go.Proofs.YtcbcmlaogehimaaGreatDoor
open Go.RowKit
attribute [local go_sem ↓] Go.wp_at_zero Go.wp_at_succ
theorem OwnB.at {base:Nat} {w:World} {ao:Option Addr} {n cap:Nat} {S:List Nat} (h:OwnB base w (.slice ao n cap) S) {j:Nat} (hj:j < S.length) :
  ∃ g,ao = some ⟨g,0,none⟩∧base≤g∧g < w.heap.size∧w.cell? ⟨g,j,none⟩ = some (.int .u64 (S.getD j 0:Nat))∧w.frozen? ⟨g,j,none⟩ = false ∧
   ∀ x,x < 18446744073709551616→OwnB base (w.setCell ⟨g,j,none⟩ (.int .u64 (x:Nat))) (.slice ao n cap) (S.set j x):=by
 obtain ⟨⟨h1,h2⟩,h3⟩:=h
 rcases h2 with ⟨_,h0⟩ | ⟨g,cap',cur,hv,hg,hh,hc,hm,hs,ht⟩
 ·omega
 ·simp only [Value.slice.injEq] at hv
  obtain ⟨rfl,rfl,rfl⟩:=hv
  have q:(S.map bitV)[j]? = some (.int .u64 ((S[j]:Nat):Int)):=by
   rw [List.getElem?_map,List.getElem?_eq_getElem hj];rfl
  rw [← ht,List.getElem?_take,if_pos (by omega)] at q
  refine ⟨g,rfl,hg,(Array.getElem?_eq_some_iff.1 hh).1,?_,frozen_of_row w g j _ _ hh,fun x hx=>⟨⟨by simp,.inr ⟨g,cap,cur.setIfInBounds j (.int .u64 (x:Nat)),?_,hg,heap_setCell_same w g j _ _ _ hh,by simpa using hc,hm,by simpa using hs,?_⟩⟩,?_⟩⟩
  ·rw [cell_of_row w g j _ _ _ hh]
   have e:S.getD j 0 = S[j]:=by rw [List.getD_eq_getElem?_getD,List.getElem?_eq_getElem hj];rfl
   rw [e]
   simpa using q
  ·simp
  ·rw [Array.toList_setIfInBounds,List.take_set,List.length_set,ht,List.map_set]
   rfl
  ·intro y hy
   rcases List.mem_or_eq_of_mem_set hy with e | e
   ·exact h3 y e
   ·rw [e];exact hx
end Go.Proofs.YtcbcmlaogehimaaGreatDoor
namespace Go.Proofs.YtcbcmlaogehimaaGreatDoor
open Go.RowKit
structure Nm where
 neg:Bool
 ao:Option Addr
 cap:Nat
 L:List Nat
structure Rw where
 ao:Option Addr
 cap:Nat
 R:List Nm
def Nm.nil:Nm:=⟨false,none,0,[]⟩
def Rw.nil:Rw:=⟨none,0,[]⟩
def nmAt (R:List Nm) (k:Nat):Nm:=R[k]?.getD Nm.nil
def rwAt (M:List Rw) (i:Nat):Rw:=M[i]?.getD Rw.nil
end Go.Proofs.YtcbcmlaogehimaaGreatDoor
