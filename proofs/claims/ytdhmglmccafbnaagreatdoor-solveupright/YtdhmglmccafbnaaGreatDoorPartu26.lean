/- Part 26 of the texts. -/
import Derived.Test.YtdhmglmccafbnaaGreatDoorPartu25
import Derived.Deep.RegionLaw
import Derived.Test.YtdhmglmccafbnaaGreatDoorPartu12
import Derived.Test.YtdhmglmccafbnaaGreatDoorPartu03
set_option maxHeartbeats 4000000
set_option maxRecDepth 20000
namespace Go.Proofs.YtdhmglmccafbnaaGreatDoor
open Go.RowKit
attribute [local go_sem ↓] Go.wp_at_zero Go.wp_at_succ
theorem boxesP (w:World) (x y z u v:Value) (w1:World) (h:Below (w.heap.size+1+1+1+1) ((((w.alloc (.cells #[x,y,z] 25)).alloc (.cells #[u] 3)).alloc (.cells #[v] 3)).alloc (.cells #[.int .i64 0,.int .i64 0,.slice none 0 0] 25)) w1) :
  Below w.heap.size w w1∧BoxM w1 w.heap.size x y z∧(w1.cell? ⟨w.heap.size+1,0,none⟩ = some u∧w1.cell? ⟨w.heap.size+1+1,0,none⟩ = some v)∧BoxM w1 (w.heap.size+1+1+1) (.int .i64 0) (.int .i64 0) (.slice none 0 0):=by
 have b0:=below_alloc9 w (.cells #[x,y,z] 25)
 have x0:=BoxM.new w x y z
 have s0:=size_alloc9 w (.cells #[x,y,z] 25)
 generalize w.alloc (.cells #[x,y,z] 25) = wa at *
 have b1:=below_alloc9 wa (.cells #[u] 3)
 have c1:=new_cell wa u 3
 have s1:=size_alloc9 wa (.cells #[u] 3)
 have x1:=x0.all b1
 generalize wa.alloc (.cells #[u] 3) = wb at *
 have b2:=below_alloc9 wb (.cells #[v] 3)
 have c2:=new_cell wb v 3
 have s2:=size_alloc9 wb (.cells #[v] 3)
 have x2:=x1.all b2
 have d1:=cell_keep c1 b2
 generalize wb.alloc (.cells #[v] 3) = wc at *
 have b3:=below_alloc9 wc (.cells #[.int .i64 0,.int .i64 0,.slice none 0 0] 25)
 have x4:=BoxM.new wc (.int .i64 0) (.int .i64 0) (.slice none 0 0)
 have s3:=size_alloc9 wc (.cells #[.int .i64 0,.int .i64 0,.slice none 0 0] 25)
 have x3:=x2.all b3
 have e1:=cell_keep d1 b3
 have e2:=cell_keep c2 b3
 generalize wc.alloc (.cells #[.int .i64 0,.int .i64 0,.slice none 0 0] 25) = wd at *
 rw [s2,s1,s0] at x4
 rw [s0] at e1
 rw [s1,s0] at e2
 have hd:wd.heap.size = w.heap.size+1+1+1+1:=by omega
 rw [← hd] at h
 have bb:Below w.heap.size w wd:=((b0.trans (b1.mono (by omega))).trans (b2.mono (by omega))).trans (b3.mono (by omega))
 exact ⟨bb.trans (h.mono (by omega)),x3.all h,⟨cell_keep e1 h,cell_keep e2 h⟩,x4.all h⟩
theorem mpart_form (r c:Int) (ao:Option Addr) (n cap:Nat) (i k a b:Int) (w:World) (hn:n≤35184372088830) (h:okB r c n = false) :
  Calls Tryz.prog 121 #[.agg #[.int .i64 r,.int .i64 c,.slice ao n cap],.int .i64 i,.int .i64 k,.int .i64 a,.int .i64 b] w fun e w'=>∃ v,e = .returned (.tuple #[v,.int .i64 1])∧NewM w.heap.size w' 0 0 [] v∧Below w.heap.size w w':=by
 have K:=hide (right1_any r c ao n cap ((((w.alloc (.cells #[.int .i64 r,.int .i64 c,.slice ao n cap] 25)).alloc (.cells #[.int .i64 i] 3)).alloc (.cells #[.int .i64 k] 3)).alloc (.cells #[.int .i64 0,.int .i64 0,.slice none 0 0] 25)) hn)
 rw [h] at K
 simp only [size_alloc9] at K
 have KB:=hide (boxesP w (.int .i64 r) (.int .i64 c) (.slice ao n cap) (.int .i64 i) (.int .i64 k))
 clear h
 go_enter Tryz.func121,Tryz.ntmps121
 go_wp2_with fail
 refine Calls.mono (uH K) ?_
 rintro e w1 ⟨rfl,hb1⟩
 obtain ⟨hB,hA,⟨ci,ck⟩,hX⟩:=uH KB w1 hb1
 clear K KB hb1 hA ci ck
 have f0:=hX.free 0;have f1:=hX.free 1;have f2:=hX.free 2
 have s0:=hX.c0;have s1:=hX.c1;have s2:=hX.c2
 have XP:=hX.put (.int .i64 0) (.int .i64 0) (.slice none 0 0)
 have z0:=XP.c0;have z1:=XP.c1;have z2:=XP.c2
 have BP:=hide (below_putM hB (b:=w.heap.size+1+1+1) (by omega) (.int .i64 0) (.int .i64 0) (.slice none 0 0))
 clear XP hX hB
 go_wp2
 exact bodyPost_ret (v:=.tuple #[.agg #[.int .i64 0,.int .i64 0,.slice none 0 0],.int .i64 1]) (by simp [results,Tryz.results121,go_sem,z0,z1,z2]) rfl ⟨_,rfl,NewM.zero _ _,uH BP⟩
theorem mpart_of (r c:Int) (ao:Option Addr) (n cap:Nat) (i k a b:Int) (x y:Nat) (S:List Nat) (w:World) (hn:n≤35184372088830) (h:okB r c n = true) (L1:∀ w',Calls Tryz.prog 180 #[.int .i64 i,.int .i64 a,.int .i64 r] w' fun x w''=>x = .returned (.bool true)∧w' = w'') (L2:∀ w',Calls Tryz.prog 180 #[.int .i64 k,.int .i64 b,.int .i64 c] w' fun x w''=>x = .returned (.bool true)∧w' = w'')
  (C:∀ w1,Below w.heap.size w w1→BoxM w1 w.heap.size (.int .i64 r) (.int .i64 c) (.slice ao n cap)→w1.cell? ⟨w.heap.size+1,0,none⟩ = some (.int .i64 i)→w1.cell? ⟨w.heap.size+1+1,0,none⟩ = some (.int .i64 k)→Calls Tryz.prog 181 #[.int .i64 a,.int .i64 b,.func (.func 182) #[] #[.pointer (some ⟨w.heap.size,0,none⟩),.pointer (some ⟨w.heap.size+1,0,none⟩),.pointer (some ⟨w.heap.size+1+1,0,none⟩)]] w1 fun e w''=>∃ v,e = .returned v∧NewM w1.heap.size w'' x y S v∧Below w1.heap.size w1 w'') :
  Calls Tryz.prog 121 #[.agg #[.int .i64 r,.int .i64 c,.slice ao n cap],.int .i64 i,.int .i64 k,.int .i64 a,.int .i64 b] w fun e w'=>∃ v,e = .returned (.tuple #[v,.int .i64 0])∧NewM w.heap.size w' x y S v∧Below w.heap.size w w':=by
 have M1:=hide L1;have M2:=hide L2
 clear L1 L2
 have K:=hide (right1_any r c ao n cap ((((w.alloc (.cells #[.int .i64 r,.int .i64 c,.slice ao n cap] 25)).alloc (.cells #[.int .i64 i] 3)).alloc (.cells #[.int .i64 k] 3)).alloc (.cells #[.int .i64 0,.int .i64 0,.slice none 0 0] 25)) hn)
 rw [h] at K
 simp only [size_alloc9] at K
 have KB:=hide (boxesP w (.int .i64 r) (.int .i64 c) (.slice ao n cap) (.int .i64 i) (.int .i64 k))
 have KT:=hide (fun w1 (hB:Below w.heap.size w w1) (hA:BoxM w1 w.heap.size (.int .i64 r) (.int .i64 c) (.slice ao n cap)) (ci:w1.cell? ⟨w.heap.size+1,0,none⟩ = some (.int .i64 i)) (ck:w1.cell? ⟨w.heap.size+1+1,0,none⟩ = some (.int .i64 k)) (hX:BoxM w1 (w.heap.size+1+1+1) (.int .i64 0) (.int .i64 0) (.slice none 0 0))=>(C w1 hB hA ci ck).mono (R':=fun e w''=>∃ v,e = .returned v∧NewM w.heap.size w'' x y S v∧Below w.heap.size w w''∧BoxM w'' (w.heap.size+1+1+1) (.int .i64 0) (.int .i64 0) (.slice none 0 0)) (by
  rintro e w'' ⟨v,rfl,h1,h2⟩
  exact ⟨v,rfl,h1.least hB.size,hB.trans (h2.mono hB.size),hX.all h2⟩))
 clear h C
 go_enter Tryz.func121,Tryz.ntmps121
 go_wp2_with fail
 refine Calls.mono (uH K) ?_
 rintro e w1 ⟨rfl,hb1⟩
 obtain ⟨hB,hA,⟨ci,ck⟩,hX⟩:=uH KB w1 hb1
 have p0:=hA.c0;have p1:=hA.c1;have p2:=hA.c2
 have KC:=hide (uH KT w1 hB hA ci ck hX)
 clear K KB KT hb1 hA hX hB
 go_wp2_with fail
 refine (uH M1 _).mono ?_
 rintro e w9 ⟨rfl,rfl⟩
 clear M1
 go_wp2_with fail
 refine (uH M2 _).mono ?_
 rintro e w9 ⟨rfl,rfl⟩
 clear M2
 go_wp2_with fail
 refine Calls.mono (uH KC) ?_
 clear KC
 rintro e w2 ⟨v,rfl,⟨ro,rd,rfl,n1,q1⟩,hb2,hX⟩
 have f0:=hX.free 0;have f1:=hX.free 1;have f2:=hX.free 2
 have XP:=hX.put (.int .i64 x) (.int .i64 y) (.slice ro S.length rd)
 have z0:=XP.c0;have z1:=XP.c1;have z2:=XP.c2
 have s0:=hX.c0;have s1:=hX.c1;have s2:=hX.c2
 have Q:=hide (q1.putM hX (.int .i64 x) (.int .i64 y) (.slice ro S.length rd))
 have BP:=hide (below_putM hb2 (b:=w.heap.size+1+1+1) (by omega) (.int .i64 x) (.int .i64 y) (.slice ro S.length rd))
 clear XP q1 hb2 hX
 go_wp2
 exact bodyPost_ret (v:=.tuple #[.agg #[.int .i64 x,.int .i64 y,.slice ro S.length rd],.int .i64 0]) (by simp [results,Tryz.results121,go_sem,z0,z1,z2]) rfl ⟨_,rfl,⟨ro,rd,rfl,n1,uH Q⟩,uH BP⟩
theorem mzeros_of (r c:Int) (x y:Nat) (S:List Nat) (w:World) (h:rgB r c = true)
  (C:∀ w1,Below w.heap.size w w1→Calls Tryz.prog 181 #[.int .i64 r,.int .i64 c,.func (.func 221) #[] #[]] w1 fun e w''=>∃ v,e = .returned v∧NewM w1.heap.size w'' x y S v∧Below w1.heap.size w1 w'') :
  Calls Tryz.prog 173 #[.int .i64 r,.int .i64 c] w fun e w'=>∃ v,e = .returned (.tuple #[v,.int .i64 0])∧NewM w.heap.size w' x y S v∧Below w.heap.size w w':=by
 have K:=hide (fun w'=>inRange_any r c w')
 rw [h] at K
 have KT:=hide ((C _ (below_alloc9 w (.cells #[.int .i64 0,.int .i64 0,.slice none 0 0] 25))).mono (R':=fun e w''=>∃ v,e = .returned v∧NewM w.heap.size w'' x y S v∧Below w.heap.size w w''∧BoxM w'' w.heap.size (.int .i64 0) (.int .i64 0) (.slice none 0 0)) (by
  rintro e w'' ⟨v,rfl,h1,h2⟩
  have b:=below_alloc9 w (.cells #[.int .i64 0,.int .i64 0,.slice none 0 0] 25)
  exact ⟨v,rfl,h1.least b.size,b.trans (h2.mono b.size),(BoxM.new w (.int .i64 0) (.int .i64 0) (.slice none 0 0)).all h2⟩))
 clear h C
 go_enter Tryz.func173,Tryz.ntmps173
 go_wp2_with fail
 refine (uH K _).mono ?_
 rintro e w1 ⟨rfl,rfl⟩
 clear K
 go_wp2_with fail
 refine Calls.mono (uH KT) ?_
 clear KT
 rintro e w2 ⟨v,rfl,⟨ro,rd,rfl,n1,q1⟩,hb2,hX⟩
 have f0:=hX.free 0;have f1:=hX.free 1;have f2:=hX.free 2
 have XP:=hX.put (.int .i64 x) (.int .i64 y) (.slice ro S.length rd)
 have z0:=XP.c0;have z1:=XP.c1;have z2:=XP.c2
 have s0:=hX.c0;have s1:=hX.c1;have s2:=hX.c2
 have Q:=hide (q1.putM hX (.int .i64 x) (.int .i64 y) (.slice ro S.length rd))
 have BP:=hide (below_putM hb2 (b:=w.heap.size) (by omega) (.int .i64 x) (.int .i64 y) (.slice ro S.length rd))
 clear XP q1 hb2 hX
 go_wp2
 exact bodyPost_ret (v:=.tuple #[.agg #[.int .i64 x,.int .i64 y,.slice ro S.length rd],.int .i64 0]) (by simp [results,Tryz.results173,go_sem,z0,z1,z2]) rfl ⟨_,rfl,⟨ro,rd,rfl,n1,uH Q⟩,uH BP⟩
theorem meye_of (r:Int) (x y:Nat) (S:List Nat) (w:World) (h:rgB r r = true)
  (C:∀ w1,Below w.heap.size w w1→Calls Tryz.prog 181 #[.int .i64 r,.int .i64 r,.func (.func 196) #[] #[]] w1 fun e w''=>∃ v,e = .returned v∧NewM w1.heap.size w'' x y S v∧Below w1.heap.size w1 w'') :
  Calls Tryz.prog 138 #[.int .i64 r] w fun e w'=>∃ v,e = .returned (.tuple #[v,.int .i64 0])∧NewM w.heap.size w' x y S v∧Below w.heap.size w w':=by
 have K:=hide (fun w'=>inRange_any r r w')
 rw [h] at K
 have KT:=hide ((C _ (below_alloc9 w (.cells #[.int .i64 0,.int .i64 0,.slice none 0 0] 25))).mono (R':=fun e w''=>∃ v,e = .returned v∧NewM w.heap.size w'' x y S v∧Below w.heap.size w w''∧BoxM w'' w.heap.size (.int .i64 0) (.int .i64 0) (.slice none 0 0)) (by
  rintro e w'' ⟨v,rfl,h1,h2⟩
  have b:=below_alloc9 w (.cells #[.int .i64 0,.int .i64 0,.slice none 0 0] 25)
  exact ⟨v,rfl,h1.least b.size,b.trans (h2.mono b.size),(BoxM.new w (.int .i64 0) (.int .i64 0) (.slice none 0 0)).all h2⟩))
 clear h C
 go_enter Tryz.func138,Tryz.ntmps138
 go_wp2_with fail
 refine (uH K _).mono ?_
 rintro e w1 ⟨rfl,rfl⟩
 clear K
 go_wp2_with fail
 refine Calls.mono (uH KT) ?_
 clear KT
 rintro e w2 ⟨v,rfl,⟨ro,rd,rfl,n1,q1⟩,hb2,hX⟩
 have f0:=hX.free 0;have f1:=hX.free 1;have f2:=hX.free 2
 have XP:=hX.put (.int .i64 x) (.int .i64 y) (.slice ro S.length rd)
 have z0:=XP.c0;have z1:=XP.c1;have z2:=XP.c2
 have s0:=hX.c0;have s1:=hX.c1;have s2:=hX.c2
 have Q:=hide (q1.putM hX (.int .i64 x) (.int .i64 y) (.slice ro S.length rd))
 have BP:=hide (below_putM hb2 (b:=w.heap.size) (by omega) (.int .i64 x) (.int .i64 y) (.slice ro S.length rd))
 clear XP q1 hb2 hX
 go_wp2
 exact bodyPost_ret (v:=.tuple #[.agg #[.int .i64 x,.int .i64 y,.slice ro S.length rd],.int .i64 0]) (by simp [results,Tryz.results138,go_sem,z0,z1,z2]) rfl ⟨_,rfl,⟨ro,rd,rfl,n1,uH Q⟩,uH BP⟩
theorem mmul_of (r c n cap p q m d:Nat) (ao bo:Option Addr) (x y:Nat) (S T:List Nat) (w:World) (hn:n≤36) (hm:m≤36) (_hr:r≤6) (_hc:c≤6) (_hp:p≤6) (_hq:q≤6) (h:(okB r c n && okB p q m) = true) (he:c = p)
  (C1:∀ w1,Below w.heap.size w w1→Calls Tryz.prog 189 #[.agg #[.int .i64 p,.int .i64 q,.slice bo m d]] w1 fun e w''=>∃ v,e = .returned v∧NewM w1.heap.size w'' q p T v∧Below w1.heap.size w1 w'')
  (C:∀ w1 g co cd,Below w.heap.size w w1→BoxM w1 w.heap.size (.int .i64 r) (.int .i64 c) (.slice ao n cap)→BoxM w1 g (.int .i64 q) (.int .i64 p) (.slice co T.length cd)→BitsAt w1 co cd (mxL T)→Calls Tryz.prog 181 #[.int .i64 r,.int .i64 q,.func (.func 190) #[] #[.pointer (some ⟨w.heap.size,0,none⟩),.pointer (some ⟨g,0,none⟩)]] w1 fun e w''=>∃ v,e = .returned v∧NewM w1.heap.size w'' x y S v∧Below w1.heap.size w1 w'') :
  Calls Tryz.prog 126 #[.agg #[.int .i64 r,.int .i64 c,.slice ao n cap],.agg #[.int .i64 p,.int .i64 q,.slice bo m d]] w fun e w'=>∃ v,e = .returned (.tuple #[v,.int .i64 0])∧NewM w.heap.size w' x y S v∧Below w.heap.size w w':=by
 have K:=hide (right2_any r c ao n cap p q bo m d (((w.alloc (.cells #[.int .i64 r,.int .i64 c,.slice ao n cap] 25)).alloc (.cells #[.int .i64 p,.int .i64 q,.slice bo m d] 25)).alloc (.cells #[.int .i64 0,.int .i64 0,.slice none 0 0] 25)) (by omega) (by omega))
 rw [h] at K
 simp only [size_alloc9] at K
 have KB:=hide (boxes3 w (.int .i64 r) (.int .i64 c) (.slice ao n cap) (.int .i64 p) (.int .i64 q) (.slice bo m d) (.int .i64 0) (.int .i64 0) (.slice none 0 0))
 have M1:=hide C1
 have KT:=hide (fun w1 g co cd (hB:Below w.heap.size w w1) (hA:BoxM w1 w.heap.size (.int .i64 r) (.int .i64 c) (.slice ao n cap)) (hT:BoxM w1 g (.int .i64 q) (.int .i64 p) (.slice co T.length cd)) (hq:BitsAt w1 co cd (mxL T)) (hX:BoxM w1 (w.heap.size+1+1) (.int .i64 0) (.int .i64 0) (.slice none 0 0))=>(C w1 g co cd hB hA hT hq).mono (R':=fun e w''=>∃ v,e = .returned v∧NewM w.heap.size w'' x y S v∧Below w.heap.size w w''∧BoxM w'' (w.heap.size+1+1) (.int .i64 0) (.int .i64 0) (.slice none 0 0)) (by
  rintro e w'' ⟨v,rfl,h1,h2⟩
  exact ⟨v,rfl,h1.least hB.size,hB.trans (h2.mono hB.size),hX.all h2⟩))
 subst he
 clear h C C1
 go_enter Tryz.func126,Tryz.ntmps126
 go_wp2_with fail
 refine Calls.mono (uH K) ?_
 rintro e w1 ⟨rfl,hb1⟩
 obtain ⟨hB,hA,hA2,hX⟩:=uH KB w1 hb1
 have p0:=hA.c0;have p1:=hA.c1;have p2:=hA.c2
 have q0:=hA2.c0;have q1':=hA2.c1;have q2:=hA2.c2
 have HB:=hide hB;have HA:=hide hA;have HX:=hide hX;have HA2:=hide hA2
 clear K KB hb1 hA hA2 hX hB
 go_wp2_with fail
 refine (uH M1 _ (uH HB)).mono ?_
 rintro e w2 ⟨v,rfl,⟨co,cd,rfl,n1,q1⟩,hb2⟩
 have ba:=below_alloc9 w2 (.cells #[.int .i64 q,.int .i64 c,.slice co T.length cd] 25)
 have hB2:=(uH HB).trans (hb2.mono (uH HB).size)
 have hB3:=hB2.trans (ba.mono hB2.size)
 have hA3:=((uH HA).all hb2).all ba
 have hAA:=((uH HA2).all hb2).all ba
 have KC:=hide (uH KT _ w2.heap.size co cd hB3 hA3 (BoxM.new w2 _ _ _) (q1.below ba) (((uH HX).all hb2).all ba))
 clear p0 p1 p2 q0 q1' q2
 have p0:=hA3.c0;have p1:=hA3.c1;have p2:=hA3.c2
 have q0:=hAA.c0;have q3:=hAA.c1;have q2:=hAA.c2
 clear HB HA HX HA2 hb2 ba hB2 hB3 hA3 hAA q1 M1 KT n1
 go_wp2_with fail
 refine Calls.mono (uH KC) ?_
 clear KC
 rintro e w2 ⟨v,rfl,⟨ro,rd,rfl,n1,q1⟩,hb2,hX⟩
 have f0:=hX.free 0;have f1:=hX.free 1;have f2:=hX.free 2
 have XP:=hX.put (.int .i64 x) (.int .i64 y) (.slice ro S.length rd)
 have z0:=XP.c0;have z1:=XP.c1;have z2:=XP.c2
 have s0:=hX.c0;have s1:=hX.c1;have s2:=hX.c2
 have Q:=hide (q1.putM hX (.int .i64 x) (.int .i64 y) (.slice ro S.length rd))
 have BP:=hide (below_putM hb2 (b:=w.heap.size+1+1) (by omega) (.int .i64 x) (.int .i64 y) (.slice ro S.length rd))
 clear XP q1 hb2 hX
 go_wp2
 exact bodyPost_ret (v:=.tuple #[.agg #[.int .i64 x,.int .i64 y,.slice ro S.length rd],.int .i64 0]) (by simp [results,Tryz.results126,go_sem,z0,z1,z2]) rfl ⟨_,rfl,⟨ro,rd,rfl,n1,uH Q⟩,uH BP⟩
end Go.Proofs.YtdhmglmccafbnaaGreatDoor
namespace Go.Proofs.YtdhmglmccafbnaaGreatDoor
open Go.RowKit
theorem mTurn_ok (r c cap:Nat) (ao:Option Addr) (S:List Nat) (w:World) (h:Mx w ao cap r c S) :
  Calls Tryz.prog 125 #[.agg #[.int .i64 r,.int .i64 c,.slice ao S.length cap]] w fun e w'=>∃ v,e = .returned (.tuple #[v,.int .i64 0])∧NewM w.heap.size w' c r (tuM r c S) v∧Below w.heap.size w w' :=
 mturn_of r c ao S.length cap c r (tuM r c S) w (by have:=h.small;omega) (mx_ok h) (fun w1 hb=>turned_any r c cap ao S w1 (h.below hb))
theorem cfPart1 (args:Array Value) (w:World):(callFunc 182 args).run Tryz.prog w = .ok (.enter 182 args) w:=by
 simp only [callFunc,go_sem]
 rfl
theorem cfMul1 (args:Array Value) (w:World):(callFunc 190 args).run Tryz.prog w = .ok (.enter 190 args) w:=by
 simp only [callFunc,go_sem]
 rfl
theorem cfZeros1 (args:Array Value) (w:World):(callFunc 221 args).run Tryz.prog w = .ok (.enter 221 args) w:=by
 simp only [callFunc,go_sem]
 rfl
theorem cfEye1 (args:Array Value) (w:World):(callFunc 196 args).run Tryz.prog w = .ok (.enter 196 args) w:=by
 simp only [callFunc,go_sem]
 rfl
theorem mPart_ok (r c cap i k a b:Nat) (ao:Option Addr) (S:List Nat) (w:World) (h:Mx w ao cap r c S) (hi:i+a≤r) (hk:k+b≤c) :
  Calls Tryz.prog 121 #[.agg #[.int .i64 r,.int .i64 c,.slice ao S.length cap],.int .i64 i,.int .i64 k,.int .i64 a,.int .i64 b] w fun e w'=>∃ v,e = .returned (.tuple #[v,.int .i64 0])∧NewM w.heap.size w' a b (paM c S i k a b) v∧Below w.heap.size w w':=by
 have h6:=h.2.2.1
 have c6:=h.2.2.2
 refine mpart_of r c ao S.length cap i k a b a b (paM c S i k a b) w (by have:=h.small;omega) (mx_ok h) (fun w'=>?_) (fun w'=>?_) ?_
 ·have:=lies_any i a r w' (by omega) (by omega)
  rwa [decide_eq_true (by omega)] at this
 ·have:=lies_any k b c w' (by omega) (by omega)
  rwa [decide_eq_true (by omega)] at this
 ·intro w1 hB hA ci ck
  refine build_any 182 _ a b _ w1 cfPart1 (by omega) (by omega) (fun x y _ _=>h.el_lt _ _) ?_
  intro w' x y hb hx hy
  have hb':Below w.heap.size w w':=hB.trans (hb.mono hB.size)
  refine part1_of r c S.length cap x y i k _ w.heap.size (w.heap.size+1) (w.heap.size+1+1) ao w' (by omega) (by omega) (hA.all hb) (cell_keep ci hb) (cell_keep ck hb) ?_
  rw [show (i:Int)+(x:Int) = ((i+x:Nat):Int) by simp,show (k:Int)+(y:Int) = ((k+y:Nat):Int) by simp]
  exact mat_any r c cap (i+x) (k+y) ao S w' (h.below hb') (by omega) (by omega)
theorem mEye_ok (n:Nat) (w:World) (hn:n≤6) :
  Calls Tryz.prog 138 #[.int .i64 n] w fun e w'=>∃ v,e = .returned (.tuple #[v,.int .i64 0])∧NewM w.heap.size w' n n (eyM n) v∧Below w.heap.size w w' :=
 meye_of n n n _ w (decide_eq_true (by omega)) (fun w1 _=>build_any 196 #[] n n _ w1 cfEye1 hn hn (fun i k _ _=>by split <;> decide) (fun w' i k _ _ _=>eye1_any i k w'))
theorem tu_len (r c:Nat) (S:List Nat):(tuM r c S).length = c * r:=mkM_len _ _ _
theorem row_dot (n q k:Nat) (S T:List Nat) (i:Nat) (hk:k < q):dtK (mxL (rwL n S i)) (mxL (rwL n (tuM n q T) k)) n = dtf n (fun j=>elM n S i j) (fun j=>elM q T j k):=by
 rw [dtK_dtf]
 refine dtf_congr n (fun j hj=>?_) (fun j hj=>?_)
 ·rw [mxL_at,rwL_at n S i j hj]
 ·rw [mxL_at,rwL_at n _ k j hj]
  exact el_mk q n (fun k i=>elM q T i k) hk hj
theorem mMul_ok (r c cap q d:Nat) (ao bo:Option Addr) (S T:List Nat) (w:World) (h:Mx w ao cap r c S) (h2:Mx w bo d c q T) (hT:Tab w) :
  Calls Tryz.prog 126 #[.agg #[.int .i64 r,.int .i64 c,.slice ao S.length cap],.agg #[.int .i64 c,.int .i64 q,.slice bo T.length d]] w fun e w'=>∃ v,e = .returned (.tuple #[v,.int .i64 0])∧NewM w.heap.size w' r q (muM r c q S T) v∧Below w.heap.size w w':=by
 refine mmul_of r c S.length cap c q T.length d ao bo r q (muM r c q S T) (tuM c q T) w h.small h2.small h.2.2.1 h.2.2.2 h2.2.2.1 h2.2.2.2 (by rw [mx_ok h,mx_ok h2];rfl) rfl (fun w1 hb=>turned_any c q d bo T w1 (h2.below hb)) ?_
 intro w1 g co cd hB hA hC hq
 have hM:Mx w1 co cd q c (tuM c q T):=⟨hq,tu_len _ _ _,h2.2.2.2,h.2.2.2⟩
 refine build_any 190 _ r q _ w1 cfMul1 h.2.2.1 h2.2.2.2 (fun i k _ _=>dtf_lt _ _ _) ?_
 intro w' i k hb hi hk
 have hb':Below w.heap.size w w':=hB.trans (hb.mono hB.size)
 refine mul1_of r c S.length cap q c (tuM c q T).length cd i k _ w.heap.size g ao co (mxL (rwL c S i)) (mxL (rwL c (tuM c q T) k)) w' (hA.all hb) (hC.all hb) (fun w'' hb''=>row_any r c cap i ao S w'' ((h.below hb').below hb'') hi) (fun w'' hb''=>row_any q c cd k co (tuM c q T) w'' ((hM.below hb).below hb'') hk) ?_
 intro w'' so sd ro rd hb'' hu hv
 have l1:(mxL (rwL c S i)).length = c:=by rw [mxL_len,rwL_len]
 have l2:(mxL (rwL c (tuM c q T) k)).length = c:=by rw [mxL_len,rwL_len]
 have c6:=h.2.2.2
 have hg:goB (mxL (rwL c S i)) (mxL (rwL c (tuM c q T) k)) = true:=decide_eq_true (by rw [l1,l2];omega)
 have D:=vDot_any so ro sd rd _ _ w'' hu hv ((hT.all hb').all hb'')
 rw [if_pos hg,if_pos hg,l1,l2,row_dot c q k S T i hk] at D
 exact D
end Go.Proofs.YtdhmglmccafbnaaGreatDoor
namespace Go.Proofs.YtdhmglmccafbnaaGreatDoor
open Go.RowKit
attribute [local go_sem ↓] Go.wp_at_zero Go.wp_at_succ
theorem rright_any (r c:Int) (ao:Option Addr) (n cap:Nat) (w:World) :
  Calls Tryz.prog 62 #[.agg #[.int .i64 r,.int .i64 c,.slice ao n cap]] w fun e w'=>e = .returned (.bool (okB r c n))∧Below w.heap.size w w':=by
 have hb0:=hide (below_alloc9 w (.cells #[.int .i64 r,.int .i64 c,.slice ao n cap] 25))
 rcases (show (r < 0∧okB r c n = false) ∨ (0≤r∧6 < r∧okB r c n = false) ∨ (0≤r∧r≤6∧c < 0∧okB r c n = false) ∨ (0≤r∧r≤6∧0≤c∧6 < c∧okB r c n = false) ∨ (0≤r∧r≤6∧0≤c∧c≤6) by
  unfold okB
  by_cases h:0≤r∧r≤6∧0≤c∧c≤6
  ·omega
  ·rw [decide_eq_false (fun g=>h g.1)];simp;omega) with ⟨h1,e⟩ | ⟨h1,h2,e⟩ | ⟨h1,h2,h3,e⟩ | ⟨h1,h2,h3,h4,e⟩ | ⟨h1,h2,h3,h4⟩
 ·rw [e]
  clear e
  go_enter Tryz.func62,Tryz.ntmps62
  go_wp2
  go_ret
  exact ⟨rfl,uH hb0⟩
 ·rw [e]
  clear e
  go_enter Tryz.func62,Tryz.ntmps62
  go_wp2
  go_ret
  exact ⟨rfl,uH hb0⟩
 ·rw [e]
  clear e
  go_enter Tryz.func62,Tryz.ntmps62
  go_wp2
  go_ret
  exact ⟨rfl,uH hb0⟩
 ·rw [e]
  clear e
  go_enter Tryz.func62,Tryz.ntmps62
  go_wp2
  go_ret
  exact ⟨rfl,uH hb0⟩
 ·have hm:∃ m:Nat,r * c = (m:Int)∧m≤36:=by
   obtain ⟨a,rfl⟩:=Int.eq_ofNat_of_zero_le h1
   obtain ⟨b,rfl⟩:=Int.eq_ofNat_of_zero_le h3
   refine ⟨a * b,by simp,?_⟩
   have:a * b≤6 * 6:=Nat.mul_le_mul (by omega) (by omega)
   omega
  obtain ⟨m,hm,h36⟩:=hm
  have e2:okB r c n = decide ((n:Int) = (m:Int)):=decide_eq_decide.2 (by rw [hm];exact ⟨fun h=>h.2,fun h=>⟨⟨h1,h2,h3,h4⟩,h⟩⟩)
  rw [e2]
  clear e2
  go_enter Tryz.func62,Tryz.ntmps62
  go_wp2
  go_ret
  refine ⟨?_,uH hb0⟩
  first | rfl | simp
theorem rat_of (r c n cap b off i k q x:Nat) (w:World) (hq:(i:Int) * (c:Int) = (q:Int)) (hlt:q+k < n) (hn:n≤36)
  (hx:w.cell? ⟨b,off+(q+k),none⟩ = some (.int .u64 (x:Nat))) :
  Calls Tryz.prog 59 #[.agg #[.int .i64 r,.int .i64 c,.slice (some ⟨b,off,none⟩) n cap],.int .i64 i,.int .i64 k] w fun e w'=>e = .returned (.int .u64 (x:Nat))∧Below w.heap.size w w':=by
 have hb0:=hide (below_alloc9 w (.cells #[.int .i64 r,.int .i64 c,.slice (some ⟨b,off,none⟩) n cap] 25))
 have cx:=cell_keep hx (uH hb0)
 clear hx
 have hkI:(q:Int)+(k:Int) < (n:Int):=by omega
 go_enter Tryz.func59,Tryz.ntmps59
 go_wp2
 go_ret
 exact ⟨rfl,uH hb0⟩
theorem rat_any (r c cap i k:Nat) (ao:Option Addr) (S:List Nat) (w:World) (h:Mx w ao cap r c S) (hi:i < r) (hk:k < c) :
  Calls Tryz.prog 59 #[.agg #[.int .i64 r,.int .i64 c,.slice ao S.length cap],.int .i64 i,.int .i64 k] w fun e w'=>e = .returned (.int .u64 (elM c S i k:Nat))∧Below w.heap.size w w':=by
 obtain ⟨b,off,rfl,h2,h3,h4⟩:=h.cells hi hk
 exact rat_of r c S.length cap b off i k (i * c) _ w (cast_mul10 i c) h4 h.small h3
theorem rrow_of (r c n cap i q p:Nat) (ao:Option Addr) (w:World) (hq:(i:Int) * (c:Int) = (q:Int)) (hp:((i:Int)+1) * (c:Int) = (p:Int)) (hqp:q≤p) (hlt:p≤n) (hnc:n≤cap) (hn:n≤36) (hi:i≤6) :
  Calls Tryz.prog 66 #[.agg #[.int .i64 r,.int .i64 c,.slice ao n cap],.int .i64 i] w fun e w'=>e = .returned (.slice (if cap = q then ao else ao.map (·.add (q * 1))) (p - q) (cap - q))∧Below w.heap.size w w':=by
 have hb0:=hide (below_alloc9 w (.cells #[.int .i64 r,.int .i64 c,.slice ao n cap] 25))
 by_cases h:cap = q
 ·subst h
  rw [if_pos rfl]
  go_enter Tryz.func66,Tryz.ntmps66
  go_wp2
  go_ret
  exact ⟨by simp,uH hb0⟩
 ·rw [if_neg h]
  go_enter Tryz.func66,Tryz.ntmps66
  go_wp2
  go_ret
  exact ⟨by simp,uH hb0⟩
theorem rrow_any (r c cap i:Nat) (ao:Option Addr) (S:List Nat) (w:World) (h:Mx w ao cap r c S) (hi:i < r) :
  Calls Tryz.prog 66 #[.agg #[.int .i64 r,.int .i64 c,.slice ao S.length cap],.int .i64 i] w fun e w'=>∃ bo d,e = .returned (.slice bo c d)∧BitsAt w' bo d (mxL (rwL c S i))∧Below w.heap.size w w':=by
 have hp:(i+1) * c≤S.length:=by rw [h.2.1];exact Nat.mul_le_mul_right c hi
 have hq:i * c≤(i+1) * c:=Nat.mul_le_mul_right c (by omega)
 have hc:=h.1.1
 rw [mxL_len] at hc
 have h6:=h.2.2.1
 refine (rrow_of r c S.length cap i (i * c) ((i+1) * c) ao w (cast_mul10 i c) (by simp) hq hp hc h.small (by omega)).mono ?_
 rintro e w' ⟨rfl,hb⟩
 rw [show (i+1) * c - i * c = c by rw [Nat.add_mul,Nat.one_mul];omega]
 exact ⟨_,_,rfl,row_bits h hb hi,hb⟩
end Go.Proofs.YtdhmglmccafbnaaGreatDoor
namespace Go.Proofs.YtdhmglmccafbnaaGreatDoor
open Go.RowKit
attribute [local go_sem ↓] Go.wp_at_zero Go.wp_at_succ
theorem OwnB.at {base:Nat} {w:World} {ao:Option Addr} {n cap:Nat} {S:List Nat} (h:OwnB base w (.slice ao n cap) S) {j:Nat} (hj:j < S.length) :
  ∃ g,ao = some ⟨g,0,none⟩∧base≤g∧g < w.heap.size∧w.cell? ⟨g,j,none⟩ = some (.int .u64 (S.getD j 0:Nat))∧w.frozen? ⟨g,j,none⟩ = false ∧
   ∀ x,x < 18446744073709551616→OwnB base (w.setCell ⟨g,j,none⟩ (.int .u64 (x:Nat))) (.slice ao n cap) (S.set j x):=by
 obtain ⟨⟨h1,h2⟩,h3⟩:=h
 rcases h2 with ⟨_,h0⟩ | ⟨g,cap',cur,hv,hg,hh,hc,hm,hs,ht⟩
 ·omega
 ·simp only [Value.slice.injEq] at hv
  obtain ⟨rfl,rfl,rfl⟩:=hv
  have q:(S.map bitV)[j]? = some (.int .u64 ((S[j]:Nat):Int)):=by
   rw [List.getElem?_map,List.getElem?_eq_getElem hj];rfl
  rw [← ht,List.getElem?_take,if_pos (by omega)] at q
  refine ⟨g,rfl,hg,(Array.getElem?_eq_some_iff.1 hh).1,?_,frozen_of_row w g j _ _ hh,fun x hx=>⟨⟨by simp,.inr ⟨g,cap,cur.setIfInBounds j (.int .u64 (x:Nat)),?_,hg,heap_setCell_same w g j _ _ _ hh,by simpa using hc,hm,by simpa using hs,?_⟩⟩,?_⟩⟩
  ·rw [cell_of_row w g j _ _ _ hh]
   have e:S.getD j 0 = S[j]:=by rw [List.getD_eq_getElem?_getD,List.getElem?_eq_getElem hj];rfl
   rw [e]
   simpa using q
  ·simp
  ·rw [Array.toList_setIfInBounds,List.take_set,List.length_set,ht,List.map_set]
   rfl
  ·intro y hy
   rcases List.mem_or_eq_of_mem_set hy with e | e
   ·exact h3 y e
   ·rw [e];exact hx
end Go.Proofs.YtdhmglmccafbnaaGreatDoor
namespace Go.Proofs.YtdhmglmccafbnaaGreatDoor
open Go.RowKit
attribute [local go_sem ↓] Go.wp_at_zero Go.wp_at_succ
theorem step_append_ex {P:Program} (w:World) {ops:Array Oper} {o:Oper} {a:Act} {K:Act→World→Prop} {Q:Exit→Act→World→Prop} {E:Prop} (hgd:o.guard = none) (s x:Operand) (t:TypeId)
  (ho:o.op = .call { callee:=.builtin .append,args:=#[s,x],argTypes:=#[t,t] }) (v1 v2:Value) (n:Nat) (F:Option Addr→Nat→World→Prop) (hs:a.eval s = v1) (hx:a.eval x = v2)
  (hr:∃ po pc w',(Builtin.append_ #[t,t] o.type #[v1,v2]).run P w = .ok (.slice po n pc) w'∧F po pc w') (h:∀ po pc w',F po pc w'→K (a.put o.dst (.slice po n pc)) w') :
  if Region.wanted o (yielded ops a.tmps) = true then Oper.wp P o a w K Q else E:=by
 have hw:Region.wanted o (yielded ops a.tmps) = true:=by simp [Region.wanted,hgd]
 rw [if_pos hw]
 obtain ⟨po,pc,w',hrun,hF⟩:=hr
 unfold Oper.wp execOp
 simp only [ho,resolve,invoke,builtin,Sem.run_bind,Sem.run_pure,Result.andThen_ok,List.map_toArray,List.map_cons,List.map_nil,hs,hx,hrun]
 exact h po pc w' hF
end Go.Proofs.YtdhmglmccafbnaaGreatDoor
namespace Go.Proofs.YtdhmglmccafbnaaGreatDoor
open Go.RowKit
attribute [local go_sem ↓] Go.wp_at_zero Go.wp_at_succ
def Kept (w:World) (g:Nat) (lo s:Int):Prop:=∃ n a l c X,Box3 w g (.bool n) (.slice a l c) (.int .i64 X)∧IsLv w (.agg #[.bool n,.slice a l c,.int .i64 X]) lo s
theorem Kept.all {w w':World} {g:Nat} {lo s:Int} (h:Kept w g lo s) (hb:Below w.heap.size w w'):Kept w' g lo s:=by
 obtain ⟨n,a,l,c,X,h1,h2⟩:=h
 exact ⟨n,a,l,c,X,h1.all hb,h2.below hb⟩
theorem Kept.lt {w:World} {g:Nat} {lo s:Int} (h:Kept w g lo s):g < w.heap.size:=by
 obtain ⟨n,a,l,c,X,h1,h2⟩:=h
 exact h1.lt
theorem Kept.new (w:World) (lo:Int):Kept (w.alloc (.cells #[.bool false,.slice none 0 0,.int .i64 0] 41)) w.heap.size lo 0 :=
 ⟨false,none,0,0,0,Box3.new w _ _ _,IsLv.zero _ _⟩
end Go.Proofs.YtdhmglmccafbnaaGreatDoor
namespace Go.Proofs.YtdhmglmccafbnaaGreatDoor
open Go.RowKit
structure Nm where
 neg:Bool
 ao:Option Addr
 cap:Nat
 L:List Nat
structure Rw where
 ao:Option Addr
 cap:Nat
 R:List Nm
def Nm.nil:Nm:=⟨false,none,0,[]⟩
def Rw.nil:Rw:=⟨none,0,[]⟩
def nmAt (R:List Nm) (k:Nat):Nm:=R[k]?.getD Nm.nil
def rwAt (M:List Rw) (i:Nat):Rw:=M[i]?.getD Rw.nil
end Go.Proofs.YtdhmglmccafbnaaGreatDoor
