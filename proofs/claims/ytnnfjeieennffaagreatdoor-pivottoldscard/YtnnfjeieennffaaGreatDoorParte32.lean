/- Part 32 of the texts. -/
import Derived.Test.YtnnfjeieennffaaGreatDoorParte31
set_option maxHeartbeats 4000000
set_option maxRecDepth 20000
namespace Go.Proofs.YtnnfjeieennffaaGreatDoor
open Go.RowKit
attribute [local go_sem ↓] Go.wp_at_zero Go.wp_at_succ
theorem eye1_any (i k:Nat) (w:World) :
  Calls Tryz.prog 123 #[.int .i64 i,.int .i64 k] w fun e w'=>e = .returned (.int .u64 ((if k = i then 4607182418800017408 else 0:Nat):Int))∧Below w.heap.size w w':=by
 by_cases h:k = i
 ·rw [if_pos h]
  subst h
  go_enter Tryz.func123,Tryz.ntmps123
  go_wp2
  go_ret
  exact ⟨rfl,Below.refl _ _⟩
 ·rw [if_neg h]
  have e1:decide ((i:Int) = (k:Int)) = false:=decide_eq_false (by omega)
  go_enter Tryz.func123,Tryz.ntmps123
  go_wp2
  go_ret
  exact ⟨rfl,Below.refl _ _⟩
theorem part1_of (r c n cap i k a b x bx bi bk:Nat) (ao:Option Addr) (w:World) (ha:a+i≤6) (hb:b+k≤6) (hX:BoxM w bx (.int .i64 r) (.int .i64 c) (.slice ao n cap)) (hi:w.cell? ⟨bi,0,none⟩ = some (.int .i64 (a:Nat))) (hk:w.cell? ⟨bk,0,none⟩ = some (.int .i64 (b:Nat)))
  (C:Calls Tryz.prog 118 #[.agg #[.int .i64 r,.int .i64 c,.slice ao n cap],.int .i64 ((a:Int)+(i:Int)),.int .i64 ((b:Int)+(k:Int))] w fun e w'=>e = .returned (.int .u64 (x:Nat))∧Below w.heap.size w w') :
  Calls Tryz.prog 117 #[.int .i64 i,.int .i64 k,.pointer (some ⟨bx,0,none⟩),.pointer (some ⟨bi,0,none⟩),.pointer (some ⟨bk,0,none⟩)] w fun e w'=>e = .returned (.int .u64 (x:Nat))∧Below w.heap.size w w':=by
 have K:=hide C
 have p0:=hX.c0;have p1:=hX.c1;have p2:=hX.c2
 clear C hX
 go_enter Tryz.func117,Tryz.ntmps117
 go_wp2_with fail
 refine Calls.mono (uH K) ?_
 rintro e w1 ⟨rfl,hb1⟩
 clear K
 go_wp2
 go_ret
 exact ⟨rfl,hb1⟩
end Go.Proofs.YtnnfjeieennffaaGreatDoor
namespace Go.Proofs.YtnnfjeieennffaaGreatDoor
open Go.RowKit
attribute [local go_sem ↓] Go.wp_at_zero Go.wp_at_succ
theorem boxesP (w:World) (x y z u v:Value) (w1:World) (h:Below (w.heap.size+1+1+1+1) ((((w.alloc (.cells #[x,y,z] 24)).alloc (.cells #[u] 3)).alloc (.cells #[v] 3)).alloc (.cells #[.int .i64 0,.int .i64 0,.slice none 0 0] 24)) w1) :
  Below w.heap.size w w1∧BoxM w1 w.heap.size x y z∧(w1.cell? ⟨w.heap.size+1,0,none⟩ = some u∧w1.cell? ⟨w.heap.size+1+1,0,none⟩ = some v)∧BoxM w1 (w.heap.size+1+1+1) (.int .i64 0) (.int .i64 0) (.slice none 0 0):=by
 have b0:=below_alloc9 w (.cells #[x,y,z] 24)
 have x0:=BoxM.new w x y z
 have s0:=size_alloc9 w (.cells #[x,y,z] 24)
 generalize w.alloc (.cells #[x,y,z] 24) = wa at *
 have b1:=below_alloc9 wa (.cells #[u] 3)
 have c1:=new_cell wa u 3
 have s1:=size_alloc9 wa (.cells #[u] 3)
 have x1:=x0.all b1
 generalize wa.alloc (.cells #[u] 3) = wb at *
 have b2:=below_alloc9 wb (.cells #[v] 3)
 have c2:=new_cell wb v 3
 have s2:=size_alloc9 wb (.cells #[v] 3)
 have x2:=x1.all b2
 have d1:=cell_keep c1 b2
 generalize wb.alloc (.cells #[v] 3) = wc at *
 have b3:=below_alloc9 wc (.cells #[.int .i64 0,.int .i64 0,.slice none 0 0] 24)
 have x4:=BoxM.new wc (.int .i64 0) (.int .i64 0) (.slice none 0 0)
 have s3:=size_alloc9 wc (.cells #[.int .i64 0,.int .i64 0,.slice none 0 0] 24)
 have x3:=x2.all b3
 have e1:=cell_keep d1 b3
 have e2:=cell_keep c2 b3
 generalize wc.alloc (.cells #[.int .i64 0,.int .i64 0,.slice none 0 0] 24) = wd at *
 rw [s2,s1,s0] at x4
 rw [s0] at e1
 rw [s1,s0] at e2
 have hd:wd.heap.size = w.heap.size+1+1+1+1:=by omega
 rw [← hd] at h
 have bb:Below w.heap.size w wd:=((b0.trans (b1.mono (by omega))).trans (b2.mono (by omega))).trans (b3.mono (by omega))
 exact ⟨bb.trans (h.mono (by omega)),x3.all h,⟨cell_keep e1 h,cell_keep e2 h⟩,x4.all h⟩
theorem mpart_form (r c:Int) (ao:Option Addr) (n cap:Nat) (i k a b:Int) (w:World) (hn:n≤35184372088830) (h:okB r c n = false) :
  Calls Tryz.prog 69 #[.agg #[.int .i64 r,.int .i64 c,.slice ao n cap],.int .i64 i,.int .i64 k,.int .i64 a,.int .i64 b] w fun e w'=>∃ v,e = .returned (.tuple #[v,.int .i64 1])∧NewM w.heap.size w' 0 0 [] v∧Below w.heap.size w w':=by
 have K:=hide (right1_any r c ao n cap ((((w.alloc (.cells #[.int .i64 r,.int .i64 c,.slice ao n cap] 24)).alloc (.cells #[.int .i64 i] 3)).alloc (.cells #[.int .i64 k] 3)).alloc (.cells #[.int .i64 0,.int .i64 0,.slice none 0 0] 24)) hn)
 rw [h] at K
 simp only [size_alloc9] at K
 have KB:=hide (boxesP w (.int .i64 r) (.int .i64 c) (.slice ao n cap) (.int .i64 i) (.int .i64 k))
 clear h
 go_enter Tryz.func69,Tryz.ntmps69
 go_wp2_with fail
 refine Calls.mono (uH K) ?_
 rintro e w1 ⟨rfl,hb1⟩
 obtain ⟨hB,hA,⟨ci,ck⟩,hX⟩:=uH KB w1 hb1
 clear K KB hb1 hA ci ck
 have f0:=hX.free 0;have f1:=hX.free 1;have f2:=hX.free 2
 have s0:=hX.c0;have s1:=hX.c1;have s2:=hX.c2
 have XP:=hX.put (.int .i64 0) (.int .i64 0) (.slice none 0 0)
 have z0:=XP.c0;have z1:=XP.c1;have z2:=XP.c2
 have BP:=hide (below_putM hB (b:=w.heap.size+1+1+1) (by omega) (.int .i64 0) (.int .i64 0) (.slice none 0 0))
 clear XP hX hB
 go_wp2
 exact bodyPost_ret (v:=.tuple #[.agg #[.int .i64 0,.int .i64 0,.slice none 0 0],.int .i64 1]) (by simp [results,Tryz.results69,go_sem,z0,z1,z2]) rfl ⟨_,rfl,NewM.zero _ _,uH BP⟩
theorem mpart_of (r c:Int) (ao:Option Addr) (n cap:Nat) (i k a b:Int) (x y:Nat) (S:List Nat) (w:World) (hn:n≤35184372088830) (h:okB r c n = true) (L1:∀ w',Calls Tryz.prog 115 #[.int .i64 i,.int .i64 a,.int .i64 r] w' fun x w''=>x = .returned (.bool true)∧w' = w'') (L2:∀ w',Calls Tryz.prog 115 #[.int .i64 k,.int .i64 b,.int .i64 c] w' fun x w''=>x = .returned (.bool true)∧w' = w'')
  (C:∀ w1,Below w.heap.size w w1→BoxM w1 w.heap.size (.int .i64 r) (.int .i64 c) (.slice ao n cap)→w1.cell? ⟨w.heap.size+1,0,none⟩ = some (.int .i64 i)→w1.cell? ⟨w.heap.size+1+1,0,none⟩ = some (.int .i64 k)→Calls Tryz.prog 116 #[.int .i64 a,.int .i64 b,.func (.func 117) #[] #[.pointer (some ⟨w.heap.size,0,none⟩),.pointer (some ⟨w.heap.size+1,0,none⟩),.pointer (some ⟨w.heap.size+1+1,0,none⟩)]] w1 fun e w''=>∃ v,e = .returned v∧NewM w1.heap.size w'' x y S v∧Below w1.heap.size w1 w'') :
  Calls Tryz.prog 69 #[.agg #[.int .i64 r,.int .i64 c,.slice ao n cap],.int .i64 i,.int .i64 k,.int .i64 a,.int .i64 b] w fun e w'=>∃ v,e = .returned (.tuple #[v,.int .i64 0])∧NewM w.heap.size w' x y S v∧Below w.heap.size w w':=by
 have M1:=hide L1;have M2:=hide L2
 clear L1 L2
 have K:=hide (right1_any r c ao n cap ((((w.alloc (.cells #[.int .i64 r,.int .i64 c,.slice ao n cap] 24)).alloc (.cells #[.int .i64 i] 3)).alloc (.cells #[.int .i64 k] 3)).alloc (.cells #[.int .i64 0,.int .i64 0,.slice none 0 0] 24)) hn)
 rw [h] at K
 simp only [size_alloc9] at K
 have KB:=hide (boxesP w (.int .i64 r) (.int .i64 c) (.slice ao n cap) (.int .i64 i) (.int .i64 k))
 have KT:=hide (fun w1 (hB:Below w.heap.size w w1) (hA:BoxM w1 w.heap.size (.int .i64 r) (.int .i64 c) (.slice ao n cap)) (ci:w1.cell? ⟨w.heap.size+1,0,none⟩ = some (.int .i64 i)) (ck:w1.cell? ⟨w.heap.size+1+1,0,none⟩ = some (.int .i64 k)) (hX:BoxM w1 (w.heap.size+1+1+1) (.int .i64 0) (.int .i64 0) (.slice none 0 0))=>(C w1 hB hA ci ck).mono (R':=fun e w''=>∃ v,e = .returned v∧NewM w.heap.size w'' x y S v∧Below w.heap.size w w''∧BoxM w'' (w.heap.size+1+1+1) (.int .i64 0) (.int .i64 0) (.slice none 0 0)) (by
  rintro e w'' ⟨v,rfl,h1,h2⟩
  exact ⟨v,rfl,h1.least hB.size,hB.trans (h2.mono hB.size),hX.all h2⟩))
 clear h C
 go_enter Tryz.func69,Tryz.ntmps69
 go_wp2_with fail
 refine Calls.mono (uH K) ?_
 rintro e w1 ⟨rfl,hb1⟩
 obtain ⟨hB,hA,⟨ci,ck⟩,hX⟩:=uH KB w1 hb1
 have p0:=hA.c0;have p1:=hA.c1;have p2:=hA.c2
 have KC:=hide (uH KT w1 hB hA ci ck hX)
 clear K KB KT hb1 hA hX hB
 go_wp2_with fail
 refine (uH M1 _).mono ?_
 rintro e w9 ⟨rfl,rfl⟩
 clear M1
 go_wp2_with fail
 refine (uH M2 _).mono ?_
 rintro e w9 ⟨rfl,rfl⟩
 clear M2
 go_wp2_with fail
 refine Calls.mono (uH KC) ?_
 clear KC
 rintro e w2 ⟨v,rfl,⟨ro,rd,rfl,n1,q1⟩,hb2,hX⟩
 have f0:=hX.free 0;have f1:=hX.free 1;have f2:=hX.free 2
 have XP:=hX.put (.int .i64 x) (.int .i64 y) (.slice ro S.length rd)
 have z0:=XP.c0;have z1:=XP.c1;have z2:=XP.c2
 have s0:=hX.c0;have s1:=hX.c1;have s2:=hX.c2
 have Q:=hide (q1.putM hX (.int .i64 x) (.int .i64 y) (.slice ro S.length rd))
 have BP:=hide (below_putM hb2 (b:=w.heap.size+1+1+1) (by omega) (.int .i64 x) (.int .i64 y) (.slice ro S.length rd))
 clear XP q1 hb2 hX
 go_wp2
 exact bodyPost_ret (v:=.tuple #[.agg #[.int .i64 x,.int .i64 y,.slice ro S.length rd],.int .i64 0]) (by simp [results,Tryz.results69,go_sem,z0,z1,z2]) rfl ⟨_,rfl,⟨ro,rd,rfl,n1,uH Q⟩,uH BP⟩
theorem meye_of (r:Int) (x y:Nat) (S:List Nat) (w:World) (h:rgB r r = true)
  (C:∀ w1,Below w.heap.size w w1→Calls Tryz.prog 116 #[.int .i64 r,.int .i64 r,.func (.func 123) #[] #[]] w1 fun e w''=>∃ v,e = .returned v∧NewM w1.heap.size w'' x y S v∧Below w1.heap.size w1 w'') :
  Calls Tryz.prog 75 #[.int .i64 r] w fun e w'=>∃ v,e = .returned (.tuple #[v,.int .i64 0])∧NewM w.heap.size w' x y S v∧Below w.heap.size w w':=by
 have K:=hide (fun w'=>inRange_any r r w')
 rw [h] at K
 have KT:=hide ((C _ (below_alloc9 w (.cells #[.int .i64 0,.int .i64 0,.slice none 0 0] 24))).mono (R':=fun e w''=>∃ v,e = .returned v∧NewM w.heap.size w'' x y S v∧Below w.heap.size w w''∧BoxM w'' w.heap.size (.int .i64 0) (.int .i64 0) (.slice none 0 0)) (by
  rintro e w'' ⟨v,rfl,h1,h2⟩
  have b:=below_alloc9 w (.cells #[.int .i64 0,.int .i64 0,.slice none 0 0] 24)
  exact ⟨v,rfl,h1.least b.size,b.trans (h2.mono b.size),(BoxM.new w (.int .i64 0) (.int .i64 0) (.slice none 0 0)).all h2⟩))
 clear h C
 go_enter Tryz.func75,Tryz.ntmps75
 go_wp2_with fail
 refine (uH K _).mono ?_
 rintro e w1 ⟨rfl,rfl⟩
 clear K
 go_wp2_with fail
 refine Calls.mono (uH KT) ?_
 clear KT
 rintro e w2 ⟨v,rfl,⟨ro,rd,rfl,n1,q1⟩,hb2,hX⟩
 have f0:=hX.free 0;have f1:=hX.free 1;have f2:=hX.free 2
 have XP:=hX.put (.int .i64 x) (.int .i64 y) (.slice ro S.length rd)
 have z0:=XP.c0;have z1:=XP.c1;have z2:=XP.c2
 have s0:=hX.c0;have s1:=hX.c1;have s2:=hX.c2
 have Q:=hide (q1.putM hX (.int .i64 x) (.int .i64 y) (.slice ro S.length rd))
 have BP:=hide (below_putM hb2 (b:=w.heap.size) (by omega) (.int .i64 x) (.int .i64 y) (.slice ro S.length rd))
 clear XP q1 hb2 hX
 go_wp2
 exact bodyPost_ret (v:=.tuple #[.agg #[.int .i64 x,.int .i64 y,.slice ro S.length rd],.int .i64 0]) (by simp [results,Tryz.results75,go_sem,z0,z1,z2]) rfl ⟨_,rfl,⟨ro,rd,rfl,n1,uH Q⟩,uH BP⟩
end Go.Proofs.YtnnfjeieennffaaGreatDoor
namespace Go.Proofs.YtnnfjeieennffaaGreatDoor
open Go.RowKit
theorem cfPart1 (args:Array Value) (w:World):(callFunc 117 args).run Tryz.prog w = .ok (.enter 117 args) w:=by
 simp only [callFunc,go_sem]
 rfl
theorem cfEye1 (args:Array Value) (w:World):(callFunc 123 args).run Tryz.prog w = .ok (.enter 123 args) w:=by
 simp only [callFunc,go_sem]
 rfl
theorem mPart_ok (r c cap i k a b:Nat) (ao:Option Addr) (S:List Nat) (w:World) (h:Mx w ao cap r c S) (hi:i+a≤r) (hk:k+b≤c) :
  Calls Tryz.prog 69 #[.agg #[.int .i64 r,.int .i64 c,.slice ao S.length cap],.int .i64 i,.int .i64 k,.int .i64 a,.int .i64 b] w fun e w'=>∃ v,e = .returned (.tuple #[v,.int .i64 0])∧NewM w.heap.size w' a b (paM c S i k a b) v∧Below w.heap.size w w':=by
 have h6:=h.2.2.1
 have c6:=h.2.2.2
 refine mpart_of r c ao S.length cap i k a b a b (paM c S i k a b) w (by have:=h.small;omega) (mx_ok h) (fun w'=>?_) (fun w'=>?_) ?_
 ·have:=lies_any i a r w' (by omega) (by omega)
  rwa [decide_eq_true (by omega)] at this
 ·have:=lies_any k b c w' (by omega) (by omega)
  rwa [decide_eq_true (by omega)] at this
 ·intro w1 hB hA ci ck
  refine build_any 117 _ a b _ w1 cfPart1 (by omega) (by omega) (fun x y _ _=>h.el_lt _ _) ?_
  intro w' x y hb hx hy
  have hb':Below w.heap.size w w':=hB.trans (hb.mono hB.size)
  refine part1_of r c S.length cap x y i k _ w.heap.size (w.heap.size+1) (w.heap.size+1+1) ao w' (by omega) (by omega) (hA.all hb) (cell_keep ci hb) (cell_keep ck hb) ?_
  rw [show (i:Int)+(x:Int) = ((i+x:Nat):Int) by simp,show (k:Int)+(y:Int) = ((k+y:Nat):Int) by simp]
  exact mat_any r c cap (i+x) (k+y) ao S w' (h.below hb') (by omega) (by omega)
theorem mEye_ok (n:Nat) (w:World) (hn:n≤6) :
  Calls Tryz.prog 75 #[.int .i64 n] w fun e w'=>∃ v,e = .returned (.tuple #[v,.int .i64 0])∧NewM w.heap.size w' n n (eyM n) v∧Below w.heap.size w w' :=
 meye_of n n n _ w (decide_eq_true (by omega)) (fun w1 _=>build_any 123 #[] n n _ w1 cfEye1 hn hn (fun i k _ _=>by split <;> decide) (fun w' i k _ _ _=>eye1_any i k w'))
end Go.Proofs.YtnnfjeieennffaaGreatDoor
namespace Go.Proofs.YtnnfjeieennffaaGreatDoor
open Go.RowKit
attribute [local go_sem ↓] Go.wp_at_zero Go.wp_at_succ
theorem rright_any (r c:Int) (ao:Option Addr) (n cap:Nat) (w:World) :
  Calls Tryz.prog 18 #[.agg #[.int .i64 r,.int .i64 c,.slice ao n cap]] w fun e w'=>e = .returned (.bool (okB r c n))∧Below w.heap.size w w':=by
 have hb0:=hide (below_alloc9 w (.cells #[.int .i64 r,.int .i64 c,.slice ao n cap] 24))
 rcases (show (r < 0∧okB r c n = false) ∨ (0≤r∧6 < r∧okB r c n = false) ∨ (0≤r∧r≤6∧c < 0∧okB r c n = false) ∨ (0≤r∧r≤6∧0≤c∧6 < c∧okB r c n = false) ∨ (0≤r∧r≤6∧0≤c∧c≤6) by
  unfold okB
  by_cases h:0≤r∧r≤6∧0≤c∧c≤6
  ·omega
  ·rw [decide_eq_false (fun g=>h g.1)];simp;omega) with ⟨h1,e⟩ | ⟨h1,h2,e⟩ | ⟨h1,h2,h3,e⟩ | ⟨h1,h2,h3,h4,e⟩ | ⟨h1,h2,h3,h4⟩
 ·rw [e]
  clear e
  go_enter Tryz.func18,Tryz.ntmps18
  go_wp2
  go_ret
  exact ⟨rfl,uH hb0⟩
 ·rw [e]
  clear e
  go_enter Tryz.func18,Tryz.ntmps18
  go_wp2
  go_ret
  exact ⟨rfl,uH hb0⟩
 ·rw [e]
  clear e
  go_enter Tryz.func18,Tryz.ntmps18
  go_wp2
  go_ret
  exact ⟨rfl,uH hb0⟩
 ·rw [e]
  clear e
  go_enter Tryz.func18,Tryz.ntmps18
  go_wp2
  go_ret
  exact ⟨rfl,uH hb0⟩
 ·have hm:∃ m:Nat,r * c = (m:Int)∧m≤36:=by
   obtain ⟨a,rfl⟩:=Int.eq_ofNat_of_zero_le h1
   obtain ⟨b,rfl⟩:=Int.eq_ofNat_of_zero_le h3
   refine ⟨a * b,by simp,?_⟩
   have:a * b≤6 * 6:=Nat.mul_le_mul (by omega) (by omega)
   omega
  obtain ⟨m,hm,h36⟩:=hm
  have e2:okB r c n = decide ((n:Int) = (m:Int)):=decide_eq_decide.2 (by rw [hm];exact ⟨fun h=>h.2,fun h=>⟨⟨h1,h2,h3,h4⟩,h⟩⟩)
  rw [e2]
  clear e2
  go_enter Tryz.func18,Tryz.ntmps18
  go_wp2
  go_ret
  refine ⟨?_,uH hb0⟩
  first | rfl | simp
theorem rat_of (r c n cap b off i k q x:Nat) (w:World) (hq:(i:Int) * (c:Int) = (q:Int)) (hlt:q+k < n) (hn:n≤36)
  (hx:w.cell? ⟨b,off+(q+k),none⟩ = some (.int .u64 (x:Nat))) :
  Calls Tryz.prog 50 #[.agg #[.int .i64 r,.int .i64 c,.slice (some ⟨b,off,none⟩) n cap],.int .i64 i,.int .i64 k] w fun e w'=>e = .returned (.int .u64 (x:Nat))∧Below w.heap.size w w':=by
 have hb0:=hide (below_alloc9 w (.cells #[.int .i64 r,.int .i64 c,.slice (some ⟨b,off,none⟩) n cap] 24))
 have cx:=cell_keep hx (uH hb0)
 clear hx
 have hkI:(q:Int)+(k:Int) < (n:Int):=by omega
 go_enter Tryz.func50,Tryz.ntmps50
 go_wp2
 go_ret
 exact ⟨rfl,uH hb0⟩
theorem rat_any (r c cap i k:Nat) (ao:Option Addr) (S:List Nat) (w:World) (h:Mx w ao cap r c S) (hi:i < r) (hk:k < c) :
  Calls Tryz.prog 50 #[.agg #[.int .i64 r,.int .i64 c,.slice ao S.length cap],.int .i64 i,.int .i64 k] w fun e w'=>e = .returned (.int .u64 (elM c S i k:Nat))∧Below w.heap.size w w':=by
 obtain ⟨b,off,rfl,h2,h3,h4⟩:=h.cells hi hk
 exact rat_of r c S.length cap b off i k (i * c) _ w (cast_mul10 i c) h4 h.small h3
theorem rzeros_any (r c:Nat) (w:World) (hr:r≤6) (hc:c≤6) :
  Calls Tryz.prog 26 #[.int .i64 r,.int .i64 c] w fun e w'=>∃ v,e = .returned v∧NewM w.heap.size w' r c (List.replicate (r * c) 0) v∧Below w.heap.size w w':=by
 have hm:(r:Int) * (c:Int) = ((r * c:Nat):Int):=cast_mul10 r c
 have h36:r * c≤36:=Nat.mul_le_mul hr hc
 have hmk:=run_make_row' (P:=Tryz.prog) 22 31 (.int .u64 0) 8 Tryz.underlying22 (by kernel_rfl) rfl .i64 .i64 (r * c) (by omega) (by omega)
 generalize hrc:r * c = n at *
 clear hrc
 have b0:=below_alloc9 w (.cells #[.int .i64 r,.int .i64 c,.slice (some ⟨w.heap.size+1,0,none⟩) n n] 24)
 have s0:=size_alloc9 w (.cells #[.int .i64 r,.int .i64 c,.slice (some ⟨w.heap.size+1,0,none⟩) n n] 24)
 have b1:=below_alloc9 (w.alloc (.cells #[.int .i64 r,.int .i64 c,.slice (some ⟨w.heap.size+1,0,none⟩) n n] 24)) (.cells (madeCells #[.int .u64 0] n) 31)
 have RB:=RowB.made (w.alloc (.cells #[.int .i64 r,.int .i64 c,.slice (some ⟨w.heap.size+1,0,none⟩) n n] 24)) n
 have BP:=hide (b0.trans (b1.mono b0.size))
 have q1:=RB.bits (fun x hx=>by rw [(List.mem_replicate.1 hx).2];decide)
 rw [s0,List.length_replicate] at q1
 have Q:=hide q1
 clear b0 b1 RB q1 s0
 go_enter Tryz.func26,Tryz.ntmps26
 go_wp2
 exact bodyPost_ret (v:=.agg #[.int .i64 r,.int .i64 c,.slice (some ⟨w.heap.size+1,0,none⟩) n n]) (by simp [results,Tryz.results26,go_sem]) rfl ⟨_,rfl,⟨some ⟨w.heap.size+1,0,none⟩,n,by rw [List.length_replicate],.inr ⟨_,_,rfl,by omega⟩,uH Q⟩,uH BP⟩
end Go.Proofs.YtnnfjeieennffaaGreatDoor
namespace Go.Proofs.YtnnfjeieennffaaGreatDoor
open Go.RowKit
attribute [local go_sem ↓] Go.wp_at_zero Go.wp_at_succ
theorem OwnB.at {base:Nat} {w:World} {ao:Option Addr} {n cap:Nat} {S:List Nat} (h:OwnB base w (.slice ao n cap) S) {j:Nat} (hj:j < S.length) :
  ∃ g,ao = some ⟨g,0,none⟩∧base≤g∧g < w.heap.size∧w.cell? ⟨g,j,none⟩ = some (.int .u64 (S.getD j 0:Nat))∧w.frozen? ⟨g,j,none⟩ = false ∧
   ∀ x,x < 18446744073709551616→OwnB base (w.setCell ⟨g,j,none⟩ (.int .u64 (x:Nat))) (.slice ao n cap) (S.set j x):=by
 obtain ⟨⟨h1,h2⟩,h3⟩:=h
 rcases h2 with ⟨_,h0⟩ | ⟨g,cap',cur,hv,hg,hh,hc,hm,hs,ht⟩
 ·omega
 ·simp only [Value.slice.injEq] at hv
  obtain ⟨rfl,rfl,rfl⟩:=hv
  have q:(S.map bitV)[j]? = some (.int .u64 ((S[j]:Nat):Int)):=by
   rw [List.getElem?_map,List.getElem?_eq_getElem hj];rfl
  rw [← ht,List.getElem?_take,if_pos (by omega)] at q
  refine ⟨g,rfl,hg,(Array.getElem?_eq_some_iff.1 hh).1,?_,frozen_of_row w g j _ _ hh,fun x hx=>⟨⟨by simp,.inr ⟨g,cap,cur.setIfInBounds j (.int .u64 (x:Nat)),?_,hg,heap_setCell_same w g j _ _ _ hh,by simpa using hc,hm,by simpa using hs,?_⟩⟩,?_⟩⟩
  ·rw [cell_of_row w g j _ _ _ hh]
   have e:S.getD j 0 = S[j]:=by rw [List.getD_eq_getElem?_getD,List.getElem?_eq_getElem hj];rfl
   rw [e]
   simpa using q
  ·simp
  ·rw [Array.toList_setIfInBounds,List.take_set,List.length_set,ht,List.map_set]
   rfl
  ·intro y hy
   rcases List.mem_or_eq_of_mem_set hy with e | e
   ·exact h3 y e
   ·rw [e];exact hx
theorem rwith_of (r c n cap i k q x g:Nat) (ao:Option Addr) (po:Option Addr) (pc:Nat) (S:List Nat) (w w1:World) (hl:S.length = n) (hq:(i:Int) * (c:Int) = (q:Int)) (hlt:q+k < n) (hn:n≤36) (hx:x < 18446744073709551616)
  (run:(Builtin.append_ #[22,22] 22 #[.slice (some ⟨w.heap.size+1+1,0,none⟩) 0 0,.slice ao n cap]).run Tryz.prog (((w.alloc (.cells #[.int .i64 r,.int .i64 c,.slice ao n cap] 24)).alloc (.cells #[.int .i64 0,.int .i64 0,.slice none 0 0] 24)).alloc (.cells #[] 31)) = .ok (.slice po n pc) w1)
  (hO:OwnB (w.heap.size+1+1) w1 (.slice po n pc) S) (hB:Below (w.heap.size+1+1) ((w.alloc (.cells #[.int .i64 r,.int .i64 c,.slice ao n cap] 24)).alloc (.cells #[.int .i64 0,.int .i64 0,.slice none 0 0] 24)) w1) (hp:po = some ⟨g,0,none⟩) :
  Calls Tryz.prog 52 #[.agg #[.int .i64 r,.int .i64 c,.slice ao n cap],.int .i64 i,.int .i64 k,.int .u64 x] w fun e w'=>∃ v,e = .returned v∧NewM w.heap.size w' r c (S.set (q+k) x) v∧Below w.heap.size w w':=by
 have RUN:=hide run
 obtain ⟨hB1,hA,hX⟩:=boxes2 w _ _ _ _ _ _ w1 hB
 obtain ⟨g',e1,hg,hlt2,cx,fx,put⟩:=hO.at (j:=q+k) (by omega)
 rw [hp] at e1
 simp only [Option.some.injEq,Addr.mk.injEq] at e1
 obtain ⟨rfl,_⟩:=e1
 subst hp
 have O2:=put x hx
 have hA2:=hA.other (p:=⟨g,q+k,none⟩) (by show w.heap.size ≠ g;omega) (.int .u64 (x:Nat))
 have hX2:=hX.other (p:=⟨g,q+k,none⟩) (by show w.heap.size+1 ≠ g;omega) (.int .u64 (x:Nat))
 have hB2:=hB1.setCell (p:=⟨g,q+k,none⟩) (by show w.heap.size≤g;omega) (.int .u64 (x:Nat))
 have c0:=hA.c0;have c1:=hA.c1;have c2:=hA.c2
 have y0:=hA2.c0;have y1:=hA2.c1;have y2:=hA2.c2
 have u0:=hX2.c0;have u1:=hX2.c1;have u2:=hX2.c2
 have f0:=hX2.free 0;have f1:=hX2.free 1;have f2:=hX2.free 2
 have XP:=hX2.put (.int .i64 r) (.int .i64 c) (.slice (some ⟨g,0,none⟩) n pc)
 have z0:=XP.c0;have z1:=XP.c1;have z2:=XP.c2
 obtain ⟨bo',d',e2,q2⟩:=O2.bits
 have HN:=hide (O2.newB.least (H':=w.heap.size) (by omega))
 rw [List.length_set,hl] at e2
 simp only [Value.slice.injEq] at e2
 obtain ⟨rfl,_,rfl⟩:=e2
 have Q:=hide (BitsAt.putM q2 hX2 (.int .i64 r) (.int .i64 c) (.slice (some ⟨g,0,none⟩) n pc))
 have BP:=hide (below_putM hB2 (b:=w.heap.size+1) (by omega) (.int .i64 r) (.int .i64 c) (.slice (some ⟨g,0,none⟩) n pc))
 have hkI:(q:Int)+(k:Int) < (n:Int):=by omega
 have HL:=hide hl
 generalize S.getD (q+k) 0 = old at *
 clear run hO hB hB1 hA hX hA2 hX2 hB2 XP O2 q2 put hl hg
 go_enter Tryz.func52,Tryz.ntmps52
 go_wp2_with (at_builtin;refine wpList_append_ran _ rfl _ _ 22 rfl _ _ _ _ rfl rfl (uH RUN) ?_;clear RUN)
 exact bodyPost_ret (v:=.agg #[.int .i64 r,.int .i64 c,.slice (some ⟨g,0,none⟩) n pc]) (by simp [results,Tryz.results52,go_sem,z0,z1,z2]) rfl ⟨_,rfl,⟨some ⟨g,0,none⟩,pc,by rw [List.length_set,uH HL],uH HN,uH Q⟩,uH BP⟩
end Go.Proofs.YtnnfjeieennffaaGreatDoor
