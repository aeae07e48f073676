/- Part 26 of the texts. -/
import Derived.Test.YtenpggicmfhhdaaGreatDoorPartc25
set_option maxHeartbeats 4000000
set_option maxRecDepth 20000
namespace Go.Proofs.YtenpggicmfhhdaaGreatDoor
open Go.RowKit
attribute [local go_sem ↓] Go.wp_at_zero Go.wp_at_succ
theorem turned1_of (r c n cap i k x bx:Nat) (ao:Option Addr) (w:World) (hX:BoxM w bx (.int .i64 r) (.int .i64 c) (.slice ao n cap))
  (C:Calls Tryz.prog 48 #[.agg #[.int .i64 r,.int .i64 c,.slice ao n cap],.int .i64 k,.int .i64 i] w fun e w'=>e = .returned (.int .u64 (x:Nat))∧Below w.heap.size w w') :
  Calls Tryz.prog 47 #[.int .i64 i,.int .i64 k,.pointer (some ⟨bx,0,none⟩)] w fun e w'=>e = .returned (.int .u64 (x:Nat))∧Below w.heap.size w w':=by
 have K:=hide C
 have p0:=hX.c0;have p1:=hX.c1;have p2:=hX.c2
 clear C hX
 go_enter Tryz.func47,Tryz.ntmps47
 go_wp2_with fail
 refine Calls.mono (uH K) ?_
 rintro e w1 ⟨rfl,hb1⟩
 clear K
 go_wp2
 go_ret
 exact ⟨rfl,hb1⟩
theorem cfTurned1 (args:Array Value) (w:World):(callFunc 47 args).run Tryz.prog w = .ok (.enter 47 args) w:=by
 simp only [callFunc,go_sem]
 rfl
theorem turned_of (r c n cap p q:Nat) (ao:Option Addr) (S:List Nat) (w:World)
  (C:Calls Tryz.prog 46 #[.int .i64 c,.int .i64 r,.func (.func 47) #[] #[.pointer (some ⟨w.heap.size,0,none⟩)]] ((w.alloc (.cells #[.int .i64 r,.int .i64 c,.slice ao n cap] 24)).alloc (.cells #[.int .i64 0,.int .i64 0,.slice none 0 0] 24)) fun e w'=>∃ v,e = .returned v∧NewM w.heap.size w' p q S v∧Below w.heap.size w w'∧BoxM w' (w.heap.size+1) (.int .i64 0) (.int .i64 0) (.slice none 0 0)) :
  Calls Tryz.prog 33 #[.agg #[.int .i64 r,.int .i64 c,.slice ao n cap]] w fun e w'=>∃ v,e = .returned v∧NewM w.heap.size w' p q S v∧Below w.heap.size w w':=by
 have K:=hide C
 clear C
 go_enter Tryz.func33,Tryz.ntmps33
 go_wp2_with fail
 refine Calls.mono (uH K) ?_
 rintro e w1 ⟨v,rfl,⟨bo,d,rfl,n1,q1⟩,hb1,hX⟩
 have f0:=hX.free 0;have f1:=hX.free 1;have f2:=hX.free 2
 have XP:=hX.put (.int .i64 p) (.int .i64 q) (.slice bo S.length d)
 have z0:=XP.c0;have z1:=XP.c1;have z2:=XP.c2
 have s0:=hX.c0;have s1:=hX.c1;have s2:=hX.c2
 have Q:=hide (q1.putM hX (.int .i64 p) (.int .i64 q) (.slice bo S.length d))
 have B:=hide (below_putM hb1 (b:=w.heap.size+1) (by omega) (.int .i64 p) (.int .i64 q) (.slice bo S.length d))
 clear K XP q1 hb1 hX
 go_wp2
 exact bodyPost_ret (v:=.agg #[.int .i64 p,.int .i64 q,.slice bo S.length d]) (by simp [results,Tryz.results33,go_sem,z0,z1,z2]) rfl ⟨_,rfl,⟨bo,d,rfl,n1,uH Q⟩,uH B⟩
theorem turned_any (r c cap:Nat) (ao:Option Addr) (S:List Nat) (w:World) (h:Mx w ao cap r c S) :
  Calls Tryz.prog 33 #[.agg #[.int .i64 r,.int .i64 c,.slice ao S.length cap]] w fun e w'=>∃ v,e = .returned v∧NewM w.heap.size w' c r (tuM r c S) v∧Below w.heap.size w w':=by
 refine turned_of r c S.length cap c r ao (tuM r c S) w ?_
 have b0:=below_alloc9 w (.cells #[.int .i64 r,.int .i64 c,.slice ao S.length cap] 24)
 have x0:=BoxM.new w (.int .i64 r) (.int .i64 c) (.slice ao S.length cap)
 have s0:=size_alloc9 w (.cells #[.int .i64 r,.int .i64 c,.slice ao S.length cap] 24)
 generalize w.alloc (.cells #[.int .i64 r,.int .i64 c,.slice ao S.length cap] 24) = w1 at *
 have b1:=below_alloc9 w1 (.cells #[.int .i64 0,.int .i64 0,.slice none 0 0] 24)
 have x1:=BoxM.new w1 (.int .i64 0) (.int .i64 0) (.slice none 0 0)
 have y0:=x0.all b1
 generalize w1.alloc (.cells #[.int .i64 0,.int .i64 0,.slice none 0 0] 24) = w2 at *
 have bb:Below w.heap.size w w2:=b0.trans (b1.mono b0.size)
 rw [s0] at x1
 refine Calls.mono (build_any 47 #[.pointer (some ⟨w.heap.size,0,none⟩)] c r (fun k i=>elM c S i k) w2 cfTurned1 h.2.2.2 h.2.2.1 (fun k i _ _=>h.el_lt i k) ?_) ?_
 ·intro w' k i hb hk hi
  have hb':Below w.heap.size w w':=bb.trans (hb.mono bb.size)
  exact turned1_of r c S.length cap k i _ w.heap.size ao w' (y0.all hb) (mat_any r c cap i k ao S w' (h.below hb') hi hk)
 ·rintro e w' ⟨v,rfl,hv,hb⟩
  exact ⟨v,rfl,hv.least bb.size,bb.trans (hb.mono bb.size),x1.all hb⟩
end Go.Proofs.YtenpggicmfhhdaaGreatDoor
namespace Go.Proofs.YtenpggicmfhhdaaGreatDoor
open Go.RowKit
attribute [local go_sem ↓] Go.wp_at_zero Go.wp_at_succ
theorem boxes1 (w:World) (x y z:Value) (w1:World) (h:Below (w.heap.size+1) (w.alloc (.cells #[x,y,z] 24)) w1) :
  Below w.heap.size w w1∧BoxM w1 w.heap.size x y z:=by
 have b0:=below_alloc9 w (.cells #[x,y,z] 24)
 exact ⟨b0.trans (h.mono (by omega)),(BoxM.new w x y z).below h (by omega)⟩
theorem boxes2 (w:World) (x y z x' y' z':Value) (w1:World) (h:Below (w.heap.size+1+1) ((w.alloc (.cells #[x,y,z] 24)).alloc (.cells #[x',y',z'] 24)) w1) :
  Below w.heap.size w w1∧BoxM w1 w.heap.size x y z∧BoxM w1 (w.heap.size+1) x' y' z':=by
 have s0:=size_alloc9 w (.cells #[x,y,z] 24)
 have h':Below ((w.alloc (.cells #[x,y,z] 24)).heap.size+1) ((w.alloc (.cells #[x,y,z] 24)).alloc (.cells #[x',y',z'] 24)) w1:=by rw [s0];exact h
 obtain ⟨h1,h2⟩:=boxes1 _ x' y' z' w1 h'
 rw [s0] at h1 h2
 obtain ⟨h3,h4⟩:=boxes1 w x y z w1 h1
 exact ⟨h3,h4,h2⟩
theorem boxes3 (w:World) (x y z x' y' z' x2 y2 z2:Value) (w1:World) (h:Below (w.heap.size+1+1+1) (((w.alloc (.cells #[x,y,z] 24)).alloc (.cells #[x',y',z'] 24)).alloc (.cells #[x2,y2,z2] 24)) w1) :
  Below w.heap.size w w1∧BoxM w1 w.heap.size x y z∧BoxM w1 (w.heap.size+1) x' y' z'∧BoxM w1 (w.heap.size+1+1) x2 y2 z2:=by
 have s0:=size_alloc9 w (.cells #[x,y,z] 24)
 have h':Below ((w.alloc (.cells #[x,y,z] 24)).heap.size+1+1) (((w.alloc (.cells #[x,y,z] 24)).alloc (.cells #[x',y',z'] 24)).alloc (.cells #[x2,y2,z2] 24)) w1:=by rw [s0];exact h
 obtain ⟨h1,h2,h3⟩:=boxes2 _ x' y' z' x2 y2 z2 w1 h'
 rw [s0] at h1 h2 h3
 obtain ⟨h4,h5⟩:=boxes1 w x y z w1 h1
 exact ⟨h4,h5,h2,h3⟩
theorem mturn_no (r c:Int) (ao:Option Addr) (n cap:Nat) (w:World) (hn:n≤35184372088830) (h:okB r c n = false) :
  Calls Tryz.prog 24 #[.agg #[.int .i64 r,.int .i64 c,.slice ao n cap]] w fun e w'=>∃ v,e = .returned (.tuple #[v,.int .i64 1])∧NewM w.heap.size w' 0 0 [] v∧Below w.heap.size w w':=by
 have K:=hide (right1_any r c ao n cap ((w.alloc (.cells #[.int .i64 r,.int .i64 c,.slice ao n cap] 24)).alloc (.cells #[.int .i64 0,.int .i64 0,.slice none 0 0] 24)) hn)
 rw [h] at K
 simp only [size_alloc9] at K
 have KB:=hide (boxes2 w (.int .i64 r) (.int .i64 c) (.slice ao n cap) (.int .i64 0) (.int .i64 0) (.slice none 0 0))
 clear h
 go_enter Tryz.func24,Tryz.ntmps24
 go_wp2_with fail
 refine Calls.mono (uH K) ?_
 rintro e w1 ⟨rfl,hb1⟩
 obtain ⟨hB,hA,hX⟩:=uH KB w1 hb1
 clear K KB hb1 hA
 have f0:=hX.free 0;have f1:=hX.free 1;have f2:=hX.free 2
 have s0:=hX.c0;have s1:=hX.c1;have s2:=hX.c2
 have XP:=hX.put (.int .i64 0) (.int .i64 0) (.slice none 0 0)
 have z0:=XP.c0;have z1:=XP.c1;have z2:=XP.c2
 have BP:=hide (below_putM hB (b:=w.heap.size+1) (by omega) (.int .i64 0) (.int .i64 0) (.slice none 0 0))
 clear XP hX hB
 go_wp2
 exact bodyPost_ret (v:=.tuple #[.agg #[.int .i64 0,.int .i64 0,.slice none 0 0],.int .i64 1]) (by simp [results,Tryz.results24,go_sem,z0,z1,z2]) rfl ⟨_,rfl,NewM.zero _ _,uH BP⟩
theorem mturn_of (r c:Int) (ao:Option Addr) (n cap x y:Nat) (S:List Nat) (w:World) (hn:n≤35184372088830) (h:okB r c n = true)
  (C:∀ w1,Below w.heap.size w w1→Calls Tryz.prog 33 #[.agg #[.int .i64 r,.int .i64 c,.slice ao n cap]] w1 fun e w''=>∃ v,e = .returned v∧NewM w1.heap.size w'' x y S v∧Below w1.heap.size w1 w'') :
  Calls Tryz.prog 24 #[.agg #[.int .i64 r,.int .i64 c,.slice ao n cap]] w fun e w'=>∃ v,e = .returned (.tuple #[v,.int .i64 0])∧NewM w.heap.size w' x y S v∧Below w.heap.size w w':=by
 have K:=hide (right1_any r c ao n cap ((w.alloc (.cells #[.int .i64 r,.int .i64 c,.slice ao n cap] 24)).alloc (.cells #[.int .i64 0,.int .i64 0,.slice none 0 0] 24)) hn)
 rw [h] at K
 simp only [size_alloc9] at K
 have KB:=hide (boxes2 w (.int .i64 r) (.int .i64 c) (.slice ao n cap) (.int .i64 0) (.int .i64 0) (.slice none 0 0))
 have KT:=hide (fun w1 (hB:Below w.heap.size w w1) (hX:BoxM w1 (w.heap.size+1) (.int .i64 0) (.int .i64 0) (.slice none 0 0))=>(C w1 hB).mono (R':=fun e w''=>∃ v,e = .returned v∧NewM w.heap.size w'' x y S v∧Below w.heap.size w w''∧BoxM w'' (w.heap.size+1) (.int .i64 0) (.int .i64 0) (.slice none 0 0)) (by
  rintro e w'' ⟨v,rfl,h1,h2⟩
  exact ⟨v,rfl,h1.least hB.size,hB.trans (h2.mono hB.size),hX.all h2⟩))
 clear h C
 go_enter Tryz.func24,Tryz.ntmps24
 go_wp2_with fail
 refine Calls.mono (uH K) ?_
 rintro e w1 ⟨rfl,hb1⟩
 obtain ⟨hB,hA,hX⟩:=uH KB w1 hb1
 have p0:=hA.c0;have p1:=hA.c1;have p2:=hA.c2
 have KC:=hide (uH KT w1 hB hX)
 clear K KB KT hb1 hA hX hB
 go_wp2_with fail
 refine Calls.mono (uH KC) ?_
 clear KC
 rintro e w2 ⟨v,rfl,⟨ro,rd,rfl,n1,q1⟩,hb2,hX⟩
 have f0:=hX.free 0;have f1:=hX.free 1;have f2:=hX.free 2
 have XP:=hX.put (.int .i64 x) (.int .i64 y) (.slice ro S.length rd)
 have z0:=XP.c0;have z1:=XP.c1;have z2:=XP.c2
 have s0:=hX.c0;have s1:=hX.c1;have s2:=hX.c2
 have Q:=hide (q1.putM hX (.int .i64 x) (.int .i64 y) (.slice ro S.length rd))
 have BP:=hide (below_putM hb2 (b:=w.heap.size+1) (by omega) (.int .i64 x) (.int .i64 y) (.slice ro S.length rd))
 clear XP q1 hb2 hX
 go_wp2
 exact bodyPost_ret (v:=.tuple #[.agg #[.int .i64 x,.int .i64 y,.slice ro S.length rd],.int .i64 0]) (by simp [results,Tryz.results24,go_sem,z0,z1,z2]) rfl ⟨_,rfl,⟨ro,rd,rfl,n1,uH Q⟩,uH BP⟩
end Go.Proofs.YtenpggicmfhhdaaGreatDoor
namespace Go.Proofs.YtenpggicmfhhdaaGreatDoor
open Go.RowKit
attribute [local go_sem ↓] Go.wp_at_zero Go.wp_at_succ
theorem eye1_any (i k:Nat) (w:World) :
  Calls Tryz.prog 78 #[.int .i64 i,.int .i64 k] w fun e w'=>e = .returned (.int .u64 ((if k = i then 4607182418800017408 else 0:Nat):Int))∧Below w.heap.size w w':=by
 by_cases h:k = i
 ·rw [if_pos h]
  subst h
  go_enter Tryz.func78,Tryz.ntmps78
  go_wp2
  go_ret
  exact ⟨rfl,Below.refl _ _⟩
 ·rw [if_neg h]
  have e1:decide ((i:Int) = (k:Int)) = false:=decide_eq_false (by omega)
  go_enter Tryz.func78,Tryz.ntmps78
  go_wp2
  go_ret
  exact ⟨rfl,Below.refl _ _⟩
theorem part1_of (r c n cap i k a b x bx bi bk:Nat) (ao:Option Addr) (w:World) (ha:a+i≤6) (hb:b+k≤6) (hX:BoxM w bx (.int .i64 r) (.int .i64 c) (.slice ao n cap)) (hi:w.cell? ⟨bi,0,none⟩ = some (.int .i64 (a:Nat))) (hk:w.cell? ⟨bk,0,none⟩ = some (.int .i64 (b:Nat)))
  (C:Calls Tryz.prog 48 #[.agg #[.int .i64 r,.int .i64 c,.slice ao n cap],.int .i64 ((a:Int)+(i:Int)),.int .i64 ((b:Int)+(k:Int))] w fun e w'=>e = .returned (.int .u64 (x:Nat))∧Below w.heap.size w w') :
  Calls Tryz.prog 69 #[.int .i64 i,.int .i64 k,.pointer (some ⟨bx,0,none⟩),.pointer (some ⟨bi,0,none⟩),.pointer (some ⟨bk,0,none⟩)] w fun e w'=>e = .returned (.int .u64 (x:Nat))∧Below w.heap.size w w':=by
 have K:=hide C
 have p0:=hX.c0;have p1:=hX.c1;have p2:=hX.c2
 clear C hX
 go_enter Tryz.func69,Tryz.ntmps69
 go_wp2_with fail
 refine Calls.mono (uH K) ?_
 rintro e w1 ⟨rfl,hb1⟩
 clear K
 go_wp2
 go_ret
 exact ⟨rfl,hb1⟩
end Go.Proofs.YtenpggicmfhhdaaGreatDoor
namespace Go.Proofs.YtenpggicmfhhdaaGreatDoor
open Go.RowKit
attribute [local go_sem ↓] Go.wp_at_zero Go.wp_at_succ
theorem boxesP (w:World) (x y z u v:Value) (w1:World) (h:Below (w.heap.size+1+1+1+1) ((((w.alloc (.cells #[x,y,z] 24)).alloc (.cells #[u] 3)).alloc (.cells #[v] 3)).alloc (.cells #[.int .i64 0,.int .i64 0,.slice none 0 0] 24)) w1) :
  Below w.heap.size w w1∧BoxM w1 w.heap.size x y z∧(w1.cell? ⟨w.heap.size+1,0,none⟩ = some u∧w1.cell? ⟨w.heap.size+1+1,0,none⟩ = some v)∧BoxM w1 (w.heap.size+1+1+1) (.int .i64 0) (.int .i64 0) (.slice none 0 0):=by
 have b0:=below_alloc9 w (.cells #[x,y,z] 24)
 have x0:=BoxM.new w x y z
 have s0:=size_alloc9 w (.cells #[x,y,z] 24)
 generalize w.alloc (.cells #[x,y,z] 24) = wa at *
 have b1:=below_alloc9 wa (.cells #[u] 3)
 have c1:=new_cell wa u 3
 have s1:=size_alloc9 wa (.cells #[u] 3)
 have x1:=x0.all b1
 generalize wa.alloc (.cells #[u] 3) = wb at *
 have b2:=below_alloc9 wb (.cells #[v] 3)
 have c2:=new_cell wb v 3
 have s2:=size_alloc9 wb (.cells #[v] 3)
 have x2:=x1.all b2
 have d1:=cell_keep c1 b2
 generalize wb.alloc (.cells #[v] 3) = wc at *
 have b3:=below_alloc9 wc (.cells #[.int .i64 0,.int .i64 0,.slice none 0 0] 24)
 have x4:=BoxM.new wc (.int .i64 0) (.int .i64 0) (.slice none 0 0)
 have s3:=size_alloc9 wc (.cells #[.int .i64 0,.int .i64 0,.slice none 0 0] 24)
 have x3:=x2.all b3
 have e1:=cell_keep d1 b3
 have e2:=cell_keep c2 b3
 generalize wc.alloc (.cells #[.int .i64 0,.int .i64 0,.slice none 0 0] 24) = wd at *
 rw [s2,s1,s0] at x4
 rw [s0] at e1
 rw [s1,s0] at e2
 have hd:wd.heap.size = w.heap.size+1+1+1+1:=by omega
 rw [← hd] at h
 have bb:Below w.heap.size w wd:=((b0.trans (b1.mono (by omega))).trans (b2.mono (by omega))).trans (b3.mono (by omega))
 exact ⟨bb.trans (h.mono (by omega)),x3.all h,⟨cell_keep e1 h,cell_keep e2 h⟩,x4.all h⟩
theorem mpart_form (r c:Int) (ao:Option Addr) (n cap:Nat) (i k a b:Int) (w:World) (hn:n≤35184372088830) (h:okB r c n = false) :
  Calls Tryz.prog 50 #[.agg #[.int .i64 r,.int .i64 c,.slice ao n cap],.int .i64 i,.int .i64 k,.int .i64 a,.int .i64 b] w fun e w'=>∃ v,e = .returned (.tuple #[v,.int .i64 1])∧NewM w.heap.size w' 0 0 [] v∧Below w.heap.size w w':=by
 have K:=hide (right1_any r c ao n cap ((((w.alloc (.cells #[.int .i64 r,.int .i64 c,.slice ao n cap] 24)).alloc (.cells #[.int .i64 i] 3)).alloc (.cells #[.int .i64 k] 3)).alloc (.cells #[.int .i64 0,.int .i64 0,.slice none 0 0] 24)) hn)
 rw [h] at K
 simp only [size_alloc9] at K
 have KB:=hide (boxesP w (.int .i64 r) (.int .i64 c) (.slice ao n cap) (.int .i64 i) (.int .i64 k))
 clear h
 go_enter Tryz.func50,Tryz.ntmps50
 go_wp2_with fail
 refine Calls.mono (uH K) ?_
 rintro e w1 ⟨rfl,hb1⟩
 obtain ⟨hB,hA,⟨ci,ck⟩,hX⟩:=uH KB w1 hb1
 clear K KB hb1 hA ci ck
 have f0:=hX.free 0;have f1:=hX.free 1;have f2:=hX.free 2
 have s0:=hX.c0;have s1:=hX.c1;have s2:=hX.c2
 have XP:=hX.put (.int .i64 0) (.int .i64 0) (.slice none 0 0)
 have z0:=XP.c0;have z1:=XP.c1;have z2:=XP.c2
 have BP:=hide (below_putM hB (b:=w.heap.size+1+1+1) (by omega) (.int .i64 0) (.int .i64 0) (.slice none 0 0))
 clear XP hX hB
 go_wp2
 exact bodyPost_ret (v:=.tuple #[.agg #[.int .i64 0,.int .i64 0,.slice none 0 0],.int .i64 1]) (by simp [results,Tryz.results50,go_sem,z0,z1,z2]) rfl ⟨_,rfl,NewM.zero _ _,uH BP⟩
theorem mpart_of (r c:Int) (ao:Option Addr) (n cap:Nat) (i k a b:Int) (x y:Nat) (S:List Nat) (w:World) (hn:n≤35184372088830) (h:okB r c n = true) (L1:∀ w',Calls Tryz.prog 68 #[.int .i64 i,.int .i64 a,.int .i64 r] w' fun x w''=>x = .returned (.bool true)∧w' = w'') (L2:∀ w',Calls Tryz.prog 68 #[.int .i64 k,.int .i64 b,.int .i64 c] w' fun x w''=>x = .returned (.bool true)∧w' = w'')
  (C:∀ w1,Below w.heap.size w w1→BoxM w1 w.heap.size (.int .i64 r) (.int .i64 c) (.slice ao n cap)→w1.cell? ⟨w.heap.size+1,0,none⟩ = some (.int .i64 i)→w1.cell? ⟨w.heap.size+1+1,0,none⟩ = some (.int .i64 k)→Calls Tryz.prog 46 #[.int .i64 a,.int .i64 b,.func (.func 69) #[] #[.pointer (some ⟨w.heap.size,0,none⟩),.pointer (some ⟨w.heap.size+1,0,none⟩),.pointer (some ⟨w.heap.size+1+1,0,none⟩)]] w1 fun e w''=>∃ v,e = .returned v∧NewM w1.heap.size w'' x y S v∧Below w1.heap.size w1 w'') :
  Calls Tryz.prog 50 #[.agg #[.int .i64 r,.int .i64 c,.slice ao n cap],.int .i64 i,.int .i64 k,.int .i64 a,.int .i64 b] w fun e w'=>∃ v,e = .returned (.tuple #[v,.int .i64 0])∧NewM w.heap.size w' x y S v∧Below w.heap.size w w':=by
 have M1:=hide L1;have M2:=hide L2
 clear L1 L2
 have K:=hide (right1_any r c ao n cap ((((w.alloc (.cells #[.int .i64 r,.int .i64 c,.slice ao n cap] 24)).alloc (.cells #[.int .i64 i] 3)).alloc (.cells #[.int .i64 k] 3)).alloc (.cells #[.int .i64 0,.int .i64 0,.slice none 0 0] 24)) hn)
 rw [h] at K
 simp only [size_alloc9] at K
 have KB:=hide (boxesP w (.int .i64 r) (.int .i64 c) (.slice ao n cap) (.int .i64 i) (.int .i64 k))
 have KT:=hide (fun w1 (hB:Below w.heap.size w w1) (hA:BoxM w1 w.heap.size (.int .i64 r) (.int .i64 c) (.slice ao n cap)) (ci:w1.cell? ⟨w.heap.size+1,0,none⟩ = some (.int .i64 i)) (ck:w1.cell? ⟨w.heap.size+1+1,0,none⟩ = some (.int .i64 k)) (hX:BoxM w1 (w.heap.size+1+1+1) (.int .i64 0) (.int .i64 0) (.slice none 0 0))=>(C w1 hB hA ci ck).mono (R':=fun e w''=>∃ v,e = .returned v∧NewM w.heap.size w'' x y S v∧Below w.heap.size w w''∧BoxM w'' (w.heap.size+1+1+1) (.int .i64 0) (.int .i64 0) (.slice none 0 0)) (by
  rintro e w'' ⟨v,rfl,h1,h2⟩
  exact ⟨v,rfl,h1.least hB.size,hB.trans (h2.mono hB.size),hX.all h2⟩))
 clear h C
 go_enter Tryz.func50,Tryz.ntmps50
 go_wp2_with fail
 refine Calls.mono (uH K) ?_
 rintro e w1 ⟨rfl,hb1⟩
 obtain ⟨hB,hA,⟨ci,ck⟩,hX⟩:=uH KB w1 hb1
 have p0:=hA.c0;have p1:=hA.c1;have p2:=hA.c2
 have KC:=hide (uH KT w1 hB hA ci ck hX)
 clear K KB KT hb1 hA hX hB
 go_wp2_with fail
 refine (uH M1 _).mono ?_
 rintro e w9 ⟨rfl,rfl⟩
 clear M1
 go_wp2_with fail
 refine (uH M2 _).mono ?_
 rintro e w9 ⟨rfl,rfl⟩
 clear M2
 go_wp2_with fail
 refine Calls.mono (uH KC) ?_
 clear KC
 rintro e w2 ⟨v,rfl,⟨ro,rd,rfl,n1,q1⟩,hb2,hX⟩
 have f0:=hX.free 0;have f1:=hX.free 1;have f2:=hX.free 2
 have XP:=hX.put (.int .i64 x) (.int .i64 y) (.slice ro S.length rd)
 have z0:=XP.c0;have z1:=XP.c1;have z2:=XP.c2
 have s0:=hX.c0;have s1:=hX.c1;have s2:=hX.c2
 have Q:=hide (q1.putM hX (.int .i64 x) (.int .i64 y) (.slice ro S.length rd))
 have BP:=hide (below_putM hb2 (b:=w.heap.size+1+1+1) (by omega) (.int .i64 x) (.int .i64 y) (.slice ro S.length rd))
 clear XP q1 hb2 hX
 go_wp2
 exact bodyPost_ret (v:=.tuple #[.agg #[.int .i64 x,.int .i64 y,.slice ro S.length rd],.int .i64 0]) (by simp [results,Tryz.results50,go_sem,z0,z1,z2]) rfl ⟨_,rfl,⟨ro,rd,rfl,n1,uH Q⟩,uH BP⟩
theorem meye_of (r:Int) (x y:Nat) (S:List Nat) (w:World) (h:rgB r r = true)
  (C:∀ w1,Below w.heap.size w w1→Calls Tryz.prog 46 #[.int .i64 r,.int .i64 r,.func (.func 78) #[] #[]] w1 fun e w''=>∃ v,e = .returned v∧NewM w1.heap.size w'' x y S v∧Below w1.heap.size w1 w'') :
  Calls Tryz.prog 54 #[.int .i64 r] w fun e w'=>∃ v,e = .returned (.tuple #[v,.int .i64 0])∧NewM w.heap.size w' x y S v∧Below w.heap.size w w':=by
 have K:=hide (fun w'=>inRange_any r r w')
 rw [h] at K
 have KT:=hide ((C _ (below_alloc9 w (.cells #[.int .i64 0,.int .i64 0,.slice none 0 0] 24))).mono (R':=fun e w''=>∃ v,e = .returned v∧NewM w.heap.size w'' x y S v∧Below w.heap.size w w''∧BoxM w'' w.heap.size (.int .i64 0) (.int .i64 0) (.slice none 0 0)) (by
  rintro e w'' ⟨v,rfl,h1,h2⟩
  have b:=below_alloc9 w (.cells #[.int .i64 0,.int .i64 0,.slice none 0 0] 24)
  exact ⟨v,rfl,h1.least b.size,b.trans (h2.mono b.size),(BoxM.new w (.int .i64 0) (.int .i64 0) (.slice none 0 0)).all h2⟩))
 clear h C
 go_enter Tryz.func54,Tryz.ntmps54
 go_wp2_with fail
 refine (uH K _).mono ?_
 rintro e w1 ⟨rfl,rfl⟩
 clear K
 go_wp2_with fail
 refine Calls.mono (uH KT) ?_
 clear KT
 rintro e w2 ⟨v,rfl,⟨ro,rd,rfl,n1,q1⟩,hb2,hX⟩
 have f0:=hX.free 0;have f1:=hX.free 1;have f2:=hX.free 2
 have XP:=hX.put (.int .i64 x) (.int .i64 y) (.slice ro S.length rd)
 have z0:=XP.c0;have z1:=XP.c1;have z2:=XP.c2
 have s0:=hX.c0;have s1:=hX.c1;have s2:=hX.c2
 have Q:=hide (q1.putM hX (.int .i64 x) (.int .i64 y) (.slice ro S.length rd))
 have BP:=hide (below_putM hb2 (b:=w.heap.size) (by omega) (.int .i64 x) (.int .i64 y) (.slice ro S.length rd))
 clear XP q1 hb2 hX
 go_wp2
 exact bodyPost_ret (v:=.tuple #[.agg #[.int .i64 x,.int .i64 y,.slice ro S.length rd],.int .i64 0]) (by simp [results,Tryz.results54,go_sem,z0,z1,z2]) rfl ⟨_,rfl,⟨ro,rd,rfl,n1,uH Q⟩,uH BP⟩
end Go.Proofs.YtenpggicmfhhdaaGreatDoor
namespace Go.Proofs.YtenpggicmfhhdaaGreatDoor
open Go.RowKit
theorem mTurn_ok (r c cap:Nat) (ao:Option Addr) (S:List Nat) (w:World) (h:Mx w ao cap r c S) :
  Calls Tryz.prog 24 #[.agg #[.int .i64 r,.int .i64 c,.slice ao S.length cap]] w fun e w'=>∃ v,e = .returned (.tuple #[v,.int .i64 0])∧NewM w.heap.size w' c r (tuM r c S) v∧Below w.heap.size w w' :=
 mturn_of r c ao S.length cap c r (tuM r c S) w (by have:=h.small;omega) (mx_ok h) (fun w1 hb=>turned_any r c cap ao S w1 (h.below hb))
theorem cfPart1 (args:Array Value) (w:World):(callFunc 69 args).run Tryz.prog w = .ok (.enter 69 args) w:=by
 simp only [callFunc,go_sem]
 rfl
theorem cfEye1 (args:Array Value) (w:World):(callFunc 78 args).run Tryz.prog w = .ok (.enter 78 args) w:=by
 simp only [callFunc,go_sem]
 rfl
theorem mPart_ok (r c cap i k a b:Nat) (ao:Option Addr) (S:List Nat) (w:World) (h:Mx w ao cap r c S) (hi:i+a≤r) (hk:k+b≤c) :
  Calls Tryz.prog 50 #[.agg #[.int .i64 r,.int .i64 c,.slice ao S.length cap],.int .i64 i,.int .i64 k,.int .i64 a,.int .i64 b] w fun e w'=>∃ v,e = .returned (.tuple #[v,.int .i64 0])∧NewM w.heap.size w' a b (paM c S i k a b) v∧Below w.heap.size w w':=by
 have h6:=h.2.2.1
 have c6:=h.2.2.2
 refine mpart_of r c ao S.length cap i k a b a b (paM c S i k a b) w (by have:=h.small;omega) (mx_ok h) (fun w'=>?_) (fun w'=>?_) ?_
 ·have:=lies_any i a r w' (by omega) (by omega)
  rwa [decide_eq_true (by omega)] at this
 ·have:=lies_any k b c w' (by omega) (by omega)
  rwa [decide_eq_true (by omega)] at this
 ·intro w1 hB hA ci ck
  refine build_any 69 _ a b _ w1 cfPart1 (by omega) (by omega) (fun x y _ _=>h.el_lt _ _) ?_
  intro w' x y hb hx hy
  have hb':Below w.heap.size w w':=hB.trans (hb.mono hB.size)
  refine part1_of r c S.length cap x y i k _ w.heap.size (w.heap.size+1) (w.heap.size+1+1) ao w' (by omega) (by omega) (hA.all hb) (cell_keep ci hb) (cell_keep ck hb) ?_
  rw [show (i:Int)+(x:Int) = ((i+x:Nat):Int) by simp,show (k:Int)+(y:Int) = ((k+y:Nat):Int) by simp]
  exact mat_any r c cap (i+x) (k+y) ao S w' (h.below hb') (by omega) (by omega)
theorem mEye_ok (n:Nat) (w:World) (hn:n≤6) :
  Calls Tryz.prog 54 #[.int .i64 n] w fun e w'=>∃ v,e = .returned (.tuple #[v,.int .i64 0])∧NewM w.heap.size w' n n (eyM n) v∧Below w.heap.size w w' :=
 meye_of n n n _ w (decide_eq_true (by omega)) (fun w1 _=>build_any 78 #[] n n _ w1 cfEye1 hn hn (fun i k _ _=>by split <;> decide) (fun w' i k _ _ _=>eye1_any i k w'))
theorem tu_len (r c:Nat) (S:List Nat):(tuM r c S).length = c * r:=mkM_len _ _ _
end Go.Proofs.YtenpggicmfhhdaaGreatDoor
