/- Part 31 of the texts. -/
import Derived.Test.YtlnphkioddknfaaGreatDoorPartq28
import Derived.Test.YtlnphkioddknfaaGreatDoorPartq29
import Derived.Test.YtlnphkioddknfaaGreatDoorPartq30
set_option maxHeartbeats 4000000
set_option maxRecDepth 20000
namespace Go.Proofs.YtlnphkioddknfaaGreatDoor
open Go.RowKit
def BoxT (T:Nat) (w:World) (b:Nat) (x y z:Value):Prop:=w.heap[b]? = some (.cells #[x,y,z] T (0,0))
theorem BoxT.c0 {T:Nat} {w:World} {b:Nat} {x y z:Value} (h:BoxT T w b x y z):w.cell? ⟨b,0,none⟩ = some x:=by rw [cell_of_row w b 0 _ _ _ h];rfl
theorem BoxT.c1 {T:Nat} {w:World} {b:Nat} {x y z:Value} (h:BoxT T w b x y z):w.cell? ⟨b,1,none⟩ = some y:=by rw [cell_of_row w b 1 _ _ _ h];rfl
theorem BoxT.c2 {T:Nat} {w:World} {b:Nat} {x y z:Value} (h:BoxT T w b x y z):w.cell? ⟨b,2,none⟩ = some z:=by rw [cell_of_row w b 2 _ _ _ h];rfl
theorem BoxT.free {T:Nat} {w:World} {b:Nat} {x y z:Value} (h:BoxT T w b x y z) (j:Nat):w.frozen? ⟨b,j,none⟩ = false:=frozen_of_row w b j _ _ h
theorem BoxT.lt {T:Nat} {w:World} {b:Nat} {x y z:Value} (h:BoxT T w b x y z):b < w.heap.size:=(Array.getElem?_eq_some_iff.1 h).1
theorem BoxT.below {T:Nat} {w w':World} {b:Nat} {x y z:Value} (h:BoxT T w b x y z) {B:Nat} (hb:Below B w w') (hlt:b < B):BoxT T w' b x y z:=(hb.block b hlt).trans h
theorem BoxT.new (T:Nat) (w:World) (x y z:Value):BoxT T (w.alloc (.cells #[x,y,z] T)) w.heap.size x y z:=heap_alloc_new w _
theorem BoxT.all {T:Nat} {w w':World} {b:Nat} {x y z:Value} (h:BoxT T w b x y z) (hb:Below w.heap.size w w'):BoxT T w' b x y z:=h.below hb h.lt
theorem BoxT.other {T:Nat} {w:World} {b:Nat} {x y z:Value} (h:BoxT T w b x y z) {p:Addr} (hp:b ≠ p.block) (u:Value):BoxT T (w.setCell p u) b x y z:=(Below.heap_setCell w p u b hp).trans h
theorem BoxT.put {T:Nat} {w:World} {b:Nat} {x y z:Value} (h:BoxT T w b x y z) (u u' u'':Value):BoxT T (((w.setCell ⟨b,0,none⟩ u).setCell ⟨b,1,none⟩ u').setCell ⟨b,2,none⟩ u'') b u u' u'':=by
 have h1:=heap_setCell_same w b 0 _ _ u h
 have h2:=heap_setCell_same (w.setCell ⟨b,0,none⟩ u) b 1 _ _ u' h1
 have h3:=heap_setCell_same ((w.setCell ⟨b,0,none⟩ u).setCell ⟨b,1,none⟩ u') b 2 _ _ u'' h2
 unfold BoxT
 rw [h3]
 simp
end Go.Proofs.YtlnphkioddknfaaGreatDoor
namespace Go.Proofs.YtlnphkioddknfaaGreatDoor
open Go.RowKit
attribute [local go_sem ↓] Go.wp_at_zero Go.wp_at_succ
def MatsAt (w:World) (g k:Nat) (R C:Nat→Int) (A:Nat→Option Addr) (N P:Nat→Nat):Prop :=
 ∀ i,i < k→w.cell? ⟨g,i * 3,none⟩ = some (.int .i64 (R i))∧w.cell? ⟨g,i * 3+1,none⟩ = some (.int .i64 (C i))∧w.cell? ⟨g,i * 3+2,none⟩ = some (.slice (A i) (N i) (P i))
theorem right_of (k g:Nat) (R C:Nat→Int) (A:Nat→Option Addr) (N P:Nat→Nat) (w:World) (hk:k≤2) (hn:∀ i,i < k→N i≤35184372088830) (hM:MatsAt w g k R C A N P) :
  Calls Tryz.prog 176 #[.slice (some ⟨g,0,none⟩) k k] w fun e w'=>∃ b,e = .returned (.bool b)∧(b = true ↔ ∀ i,i < k→okB (R i) (C i) (N i) = true)∧Below w.heap.size w w':=by
 have HM:=hide hM;have HN:=hide hn
 clear hM hn
 go_enter Tryz.func176,Tryz.ntmps176
 go_wp2_with fail
 go_loopw [7] (fun i wr=>∃ j:Nat,j≤k∧i = .int .i64 j∧Hid (Below w.heap.size w wr)∧Hid (∀ t,t < j→okB (R t) (C t) (N t) = true)) (fun i _=>k - (intOf i).toNat)
 case atStart=>exact ⟨0,Nat.zero_le _,rfl,Below.refl _ _,fun t h=>by omega⟩
 case round =>
  obtain ⟨j,hj,rfl,hB,hO⟩:=hrel
  by_cases hlt:j < k
  ·have hkI:(j:Int) < (k:Int):=by omega
   obtain ⟨c0,c1,c2⟩:=uH HM j hlt
   have hN:=uH HN j hlt
   have C1:=hide (fun w'=>mcheck_any (R j) (C j) (A j) (N j) (P j) w' hN)
   have glt:=World.block_lt_of_cell? w _ c0
   have BB:=hide (hB.out.mono (Nat.le_refl _))
   have d0:wr.cell? ⟨g,j * 3,none⟩ = some (.int .i64 (R j)):=by rw [hB.out.cell (p:=⟨g,j * 3,none⟩) glt];exact c0
   have d1:wr.cell? ⟨g,j * 3+1,none⟩ = some (.int .i64 (C j)):=by rw [hB.out.cell (p:=⟨g,j * 3+1,none⟩) glt];exact c1
   have d2:wr.cell? ⟨g,j * 3+2,none⟩ = some (.slice (A j) (N j) (P j)):=by rw [hB.out.cell (p:=⟨g,j * 3+2,none⟩) glt];exact c2
   have BP:=hide ((uH BB).alloc (uH BB).size (.cells #[.int .i64 (R j),.int .i64 (C j),.slice (A j) (N j) (P j)] 24))
   clear c0 c1 c2 hN hB BB glt
   go_wp2_with fail
   refine (uH C1 _).mono ?_
   rintro e w2 ⟨rfl,hb2⟩
   have B2:Hid (Below w.heap.size w w2):=(uH BP).trans (hb2.mono (uH BP).size)
   clear C1 hb2 d0 d1 d2 BP
   cases ho:okB (R j) (C j) (N j)
   ·have HO:=hide ho
    clear ho
    rw [if_neg (by decide)]
    go_wp2
    go_ret
    refine ⟨false,rfl,⟨(fun h=>nomatch h),fun h=>?_⟩,uH B2⟩
    have:=h j hlt
    rw [uH HO] at this
    cases this
   ·have HO:=hide ho
    clear ho
    rw [if_pos rfl]
    go_wp2
    go_round
    case rel =>
     refine ⟨j+1,by omega,by go_num,B2,hide fun t ht=>?_⟩
     by_cases e:t = j
     ·subst e;exact uH HO
     ·exact hO.out t (by omega)
    case measure=>simp [intOf];omega
  ·have hjk:j = k:=by omega
   subst hjk
   go_wp2
   go_ret
   exact ⟨true,rfl,⟨fun _=>hO.out,fun _=>rfl⟩,hB.out⟩
theorem right1_any (r c:Int) (ao:Option Addr) (n cap:Nat) (w:World) (hn:n≤35184372088830) :
  Calls Tryz.prog 176 #[.slice (some ⟨w.heap.size,0,none⟩) 1 1] (w.alloc (.cells #[.int .i64 r,.int .i64 c,.slice ao n cap] 24)) fun e w'=>e = .returned (.bool (okB r c n))∧Below w.heap.size w w':=by
 have X:=BoxM.new w (.int .i64 r) (.int .i64 c) (.slice ao n cap)
 have B:=below_alloc9 w (.cells #[.int .i64 r,.int .i64 c,.slice ao n cap] 24)
 refine (right_of 1 w.heap.size (fun _=>r) (fun _=>c) (fun _=>ao) (fun _=>n) (fun _=>cap) _ (by omega) (fun _ _=>hn) ?_).mono ?_
 ·intro i hi
  obtain rfl:i = 0:=by omega
  exact ⟨X.c0,X.c1,X.c2⟩
 ·rintro e w' ⟨b,rfl,hb,hB⟩
  refine ⟨?_,B.trans (hB.mono B.size)⟩
  have:b = okB r c n:=by
   cases h:okB r c n
   ·cases b
    ·rfl
    ·have:=hb.1 rfl 0 (by omega);rw [h] at this;cases this
   ·exact hb.2 (fun _ _=>h)
  rw [this]
theorem right2_any (r c:Int) (ao:Option Addr) (n cap:Nat) (p q:Int) (bo:Option Addr) (m d:Nat) (w:World) (hn:n≤35184372088830) (hm:m≤35184372088830) :
  Calls Tryz.prog 176 #[.slice (some ⟨w.heap.size,0,none⟩) 2 2] (w.alloc (.cells #[.int .i64 r,.int .i64 c,.slice ao n cap,.int .i64 p,.int .i64 q,.slice bo m d] 24)) fun e w'=>e = .returned (.bool (okB r c n && okB p q m))∧Below w.heap.size w w':=by
 have X:(w.alloc (.cells #[.int .i64 r,.int .i64 c,.slice ao n cap,.int .i64 p,.int .i64 q,.slice bo m d] 24)).heap[w.heap.size]? = some (.cells #[.int .i64 r,.int .i64 c,.slice ao n cap,.int .i64 p,.int .i64 q,.slice bo m d] 24 (0,0)):=heap_alloc_new w _
 have B:=below_alloc9 w (.cells #[.int .i64 r,.int .i64 c,.slice ao n cap,.int .i64 p,.int .i64 q,.slice bo m d] 24)
 refine (right_of 2 w.heap.size (fun i=>if i = 0 then r else p) (fun i=>if i = 0 then c else q) (fun i=>if i = 0 then ao else bo) (fun i=>if i = 0 then n else m) (fun i=>if i = 0 then cap else d) _ (by omega) (fun i _=>by split <;> assumption) ?_).mono ?_
 ·intro i hi
  rcases (show i = 0 ∨ i = 1 by omega) with rfl | rfl
  ·exact ⟨by rw [cell_of_row _ _ _ _ _ _ X];rfl,by rw [cell_of_row _ _ _ _ _ _ X];rfl,by rw [cell_of_row _ _ _ _ _ _ X];rfl⟩
  ·exact ⟨by rw [cell_of_row _ _ _ _ _ _ X];rfl,by rw [cell_of_row _ _ _ _ _ _ X];rfl,by rw [cell_of_row _ _ _ _ _ _ X];rfl⟩
 ·rintro e w' ⟨b,rfl,hb,hB⟩
  refine ⟨?_,B.trans (hB.mono B.size)⟩
  have:b = (okB r c n && okB p q m):=by
   cases h:(okB r c n && okB p q m)
   ·cases b
    ·rfl
    ·have h0:=hb.1 rfl 0 (by omega)
     have h1:=hb.1 rfl 1 (by omega)
     simp only [if_true,Nat.one_ne_zero,if_false] at h0 h1
     rw [h0,h1] at h
     cases h
   ·have h':=Bool.and_eq_true_iff.1 h
    refine hb.2 (fun i hi=>?_)
    rcases (show i = 0 ∨ i = 1 by omega) with rfl | rfl
    ·exact h'.1
    ·exact h'.2
  rw [this]
theorem lies_any (f p e:Int) (w:World) (hf:-9223372036854775808≤f∧f≤9223372036854775807) (he:0≤e∧e≤6) :
  Calls Tryz.prog 177 #[.int .i64 f,.int .i64 p,.int .i64 e] w fun x w'=>x = .returned (.bool (decide (0≤f∧0≤p∧p≤e - f)))∧w = w':=by
 rcases (show f < 0 ∨ (0≤f∧p < 0) ∨ (0≤f∧0≤p) by omega) with h1 | ⟨h1,h2⟩ | ⟨h1,h2⟩
 ·rw [decide_eq_false (by omega)]
  go_enter Tryz.func177,Tryz.ntmps177
  go_wp2
  go_ret
  exact ⟨rfl,rfl⟩
 ·rw [decide_eq_false (by omega)]
  go_enter Tryz.func177,Tryz.ntmps177
  go_wp2
  go_ret
  exact ⟨rfl,rfl⟩
 ·rw [show decide (0≤f∧0≤p∧p≤e - f) = decide (p≤e - f) from decide_eq_decide.2 (by omega)]
  go_enter Tryz.func177,Tryz.ntmps177
  go_wp2
  go_ret
  exact ⟨rfl,rfl⟩
end Go.Proofs.YtlnphkioddknfaaGreatDoor
namespace Go.Proofs.YtlnphkioddknfaaGreatDoor
open Go.RowKit
attribute [local go_sem ↓] Go.wp_at_zero Go.wp_at_succ
theorem turned1_of (r c n cap i k x bx:Nat) (ao:Option Addr) (w:World) (hX:BoxM w bx (.int .i64 r) (.int .i64 c) (.slice ao n cap))
  (C:Calls Tryz.prog 180 #[.agg #[.int .i64 r,.int .i64 c,.slice ao n cap],.int .i64 k,.int .i64 i] w fun e w'=>e = .returned (.int .u64 (x:Nat))∧Below w.heap.size w w') :
  Calls Tryz.prog 214 #[.int .i64 i,.int .i64 k,.pointer (some ⟨bx,0,none⟩)] w fun e w'=>e = .returned (.int .u64 (x:Nat))∧Below w.heap.size w w':=by
 have K:=hide C
 have p0:=hX.c0;have p1:=hX.c1;have p2:=hX.c2
 clear C hX
 go_enter Tryz.func214,Tryz.ntmps214
 go_wp2_with fail
 refine Calls.mono (uH K) ?_
 rintro e w1 ⟨rfl,hb1⟩
 clear K
 go_wp2
 go_ret
 exact ⟨rfl,hb1⟩
theorem cfTurned1 (args:Array Value) (w:World):(callFunc 214 args).run Tryz.prog w = .ok (.enter 214 args) w:=by
 simp only [callFunc,go_sem]
 rfl
theorem turned_of (r c n cap p q:Nat) (ao:Option Addr) (S:List Nat) (w:World)
  (C:Calls Tryz.prog 178 #[.int .i64 c,.int .i64 r,.func (.func 214) #[] #[.pointer (some ⟨w.heap.size,0,none⟩)]] ((w.alloc (.cells #[.int .i64 r,.int .i64 c,.slice ao n cap] 24)).alloc (.cells #[.int .i64 0,.int .i64 0,.slice none 0 0] 24)) fun e w'=>∃ v,e = .returned v∧NewM w.heap.size w' p q S v∧Below w.heap.size w w'∧BoxM w' (w.heap.size+1) (.int .i64 0) (.int .i64 0) (.slice none 0 0)) :
  Calls Tryz.prog 181 #[.agg #[.int .i64 r,.int .i64 c,.slice ao n cap]] w fun e w'=>∃ v,e = .returned v∧NewM w.heap.size w' p q S v∧Below w.heap.size w w':=by
 have K:=hide C
 clear C
 go_enter Tryz.func181,Tryz.ntmps181
 go_wp2_with fail
 refine Calls.mono (uH K) ?_
 rintro e w1 ⟨v,rfl,⟨bo,d,rfl,n1,q1⟩,hb1,hX⟩
 have f0:=hX.free 0;have f1:=hX.free 1;have f2:=hX.free 2
 have XP:=hX.put (.int .i64 p) (.int .i64 q) (.slice bo S.length d)
 have z0:=XP.c0;have z1:=XP.c1;have z2:=XP.c2
 have s0:=hX.c0;have s1:=hX.c1;have s2:=hX.c2
 have Q:=hide (q1.putM hX (.int .i64 p) (.int .i64 q) (.slice bo S.length d))
 have B:=hide (below_putM hb1 (b:=w.heap.size+1) (by omega) (.int .i64 p) (.int .i64 q) (.slice bo S.length d))
 clear K XP q1 hb1 hX
 go_wp2
 exact bodyPost_ret (v:=.agg #[.int .i64 p,.int .i64 q,.slice bo S.length d]) (by simp [results,Tryz.results181,go_sem,z0,z1,z2]) rfl ⟨_,rfl,⟨bo,d,rfl,n1,uH Q⟩,uH B⟩
theorem turned_any (r c cap:Nat) (ao:Option Addr) (S:List Nat) (w:World) (h:Mx w ao cap r c S) :
  Calls Tryz.prog 181 #[.agg #[.int .i64 r,.int .i64 c,.slice ao S.length cap]] w fun e w'=>∃ v,e = .returned v∧NewM w.heap.size w' c r (tuM r c S) v∧Below w.heap.size w w':=by
 refine turned_of r c S.length cap c r ao (tuM r c S) w ?_
 have b0:=below_alloc9 w (.cells #[.int .i64 r,.int .i64 c,.slice ao S.length cap] 24)
 have x0:=BoxM.new w (.int .i64 r) (.int .i64 c) (.slice ao S.length cap)
 have s0:=size_alloc9 w (.cells #[.int .i64 r,.int .i64 c,.slice ao S.length cap] 24)
 generalize w.alloc (.cells #[.int .i64 r,.int .i64 c,.slice ao S.length cap] 24) = w1 at *
 have b1:=below_alloc9 w1 (.cells #[.int .i64 0,.int .i64 0,.slice none 0 0] 24)
 have x1:=BoxM.new w1 (.int .i64 0) (.int .i64 0) (.slice none 0 0)
 have y0:=x0.all b1
 generalize w1.alloc (.cells #[.int .i64 0,.int .i64 0,.slice none 0 0] 24) = w2 at *
 have bb:Below w.heap.size w w2:=b0.trans (b1.mono b0.size)
 rw [s0] at x1
 refine Calls.mono (build_any 214 #[.pointer (some ⟨w.heap.size,0,none⟩)] c r (fun k i=>elM c S i k) w2 cfTurned1 h.2.2.2 h.2.2.1 (fun k i _ _=>h.el_lt i k) ?_) ?_
 ·intro w' k i hb hk hi
  have hb':Below w.heap.size w w':=bb.trans (hb.mono bb.size)
  exact turned1_of r c S.length cap k i _ w.heap.size ao w' (y0.all hb) (mat_any r c cap i k ao S w' (h.below hb') hi hk)
 ·rintro e w' ⟨v,rfl,hv,hb⟩
  exact ⟨v,rfl,hv.least bb.size,bb.trans (hb.mono bb.size),x1.all hb⟩
end Go.Proofs.YtlnphkioddknfaaGreatDoor
namespace Go.Proofs.YtlnphkioddknfaaGreatDoor
open Go.RowKit
attribute [local go_sem ↓] Go.wp_at_zero Go.wp_at_succ
theorem boxes1 (w:World) (x y z:Value) (w1:World) (h:Below (w.heap.size+1) (w.alloc (.cells #[x,y,z] 24)) w1) :
  Below w.heap.size w w1∧BoxM w1 w.heap.size x y z:=by
 have b0:=below_alloc9 w (.cells #[x,y,z] 24)
 exact ⟨b0.trans (h.mono (by omega)),(BoxM.new w x y z).below h (by omega)⟩
theorem boxes2 (w:World) (x y z x' y' z':Value) (w1:World) (h:Below (w.heap.size+1+1) ((w.alloc (.cells #[x,y,z] 24)).alloc (.cells #[x',y',z'] 24)) w1) :
  Below w.heap.size w w1∧BoxM w1 w.heap.size x y z∧BoxM w1 (w.heap.size+1) x' y' z':=by
 have s0:=size_alloc9 w (.cells #[x,y,z] 24)
 have h':Below ((w.alloc (.cells #[x,y,z] 24)).heap.size+1) ((w.alloc (.cells #[x,y,z] 24)).alloc (.cells #[x',y',z'] 24)) w1:=by rw [s0];exact h
 obtain ⟨h1,h2⟩:=boxes1 _ x' y' z' w1 h'
 rw [s0] at h1 h2
 obtain ⟨h3,h4⟩:=boxes1 w x y z w1 h1
 exact ⟨h3,h4,h2⟩
theorem boxes3 (w:World) (x y z x' y' z' x2 y2 z2:Value) (w1:World) (h:Below (w.heap.size+1+1+1) (((w.alloc (.cells #[x,y,z] 24)).alloc (.cells #[x',y',z'] 24)).alloc (.cells #[x2,y2,z2] 24)) w1) :
  Below w.heap.size w w1∧BoxM w1 w.heap.size x y z∧BoxM w1 (w.heap.size+1) x' y' z'∧BoxM w1 (w.heap.size+1+1) x2 y2 z2:=by
 have s0:=size_alloc9 w (.cells #[x,y,z] 24)
 have h':Below ((w.alloc (.cells #[x,y,z] 24)).heap.size+1+1) (((w.alloc (.cells #[x,y,z] 24)).alloc (.cells #[x',y',z'] 24)).alloc (.cells #[x2,y2,z2] 24)) w1:=by rw [s0];exact h
 obtain ⟨h1,h2,h3⟩:=boxes2 _ x' y' z' x2 y2 z2 w1 h'
 rw [s0] at h1 h2 h3
 obtain ⟨h4,h5⟩:=boxes1 w x y z w1 h1
 exact ⟨h4,h5,h2,h3⟩
theorem mturn_no (r c:Int) (ao:Option Addr) (n cap:Nat) (w:World) (hn:n≤35184372088830) (h:okB r c n = false) :
  Calls Tryz.prog 126 #[.agg #[.int .i64 r,.int .i64 c,.slice ao n cap]] w fun e w'=>∃ v,e = .returned (.tuple #[v,.int .i64 1])∧NewM w.heap.size w' 0 0 [] v∧Below w.heap.size w w':=by
 have K:=hide (right1_any r c ao n cap ((w.alloc (.cells #[.int .i64 r,.int .i64 c,.slice ao n cap] 24)).alloc (.cells #[.int .i64 0,.int .i64 0,.slice none 0 0] 24)) hn)
 rw [h] at K
 simp only [size_alloc9] at K
 have KB:=hide (boxes2 w (.int .i64 r) (.int .i64 c) (.slice ao n cap) (.int .i64 0) (.int .i64 0) (.slice none 0 0))
 clear h
 go_enter Tryz.func126,Tryz.ntmps126
 go_wp2_with fail
 refine Calls.mono (uH K) ?_
 rintro e w1 ⟨rfl,hb1⟩
 obtain ⟨hB,hA,hX⟩:=uH KB w1 hb1
 clear K KB hb1 hA
 have f0:=hX.free 0;have f1:=hX.free 1;have f2:=hX.free 2
 have s0:=hX.c0;have s1:=hX.c1;have s2:=hX.c2
 have XP:=hX.put (.int .i64 0) (.int .i64 0) (.slice none 0 0)
 have z0:=XP.c0;have z1:=XP.c1;have z2:=XP.c2
 have BP:=hide (below_putM hB (b:=w.heap.size+1) (by omega) (.int .i64 0) (.int .i64 0) (.slice none 0 0))
 clear XP hX hB
 go_wp2
 exact bodyPost_ret (v:=.tuple #[.agg #[.int .i64 0,.int .i64 0,.slice none 0 0],.int .i64 1]) (by simp [results,Tryz.results126,go_sem,z0,z1,z2]) rfl ⟨_,rfl,NewM.zero _ _,uH BP⟩
theorem mturn_of (r c:Int) (ao:Option Addr) (n cap x y:Nat) (S:List Nat) (w:World) (hn:n≤35184372088830) (h:okB r c n = true)
  (C:∀ w1,Below w.heap.size w w1→Calls Tryz.prog 181 #[.agg #[.int .i64 r,.int .i64 c,.slice ao n cap]] w1 fun e w''=>∃ v,e = .returned v∧NewM w1.heap.size w'' x y S v∧Below w1.heap.size w1 w'') :
  Calls Tryz.prog 126 #[.agg #[.int .i64 r,.int .i64 c,.slice ao n cap]] w fun e w'=>∃ v,e = .returned (.tuple #[v,.int .i64 0])∧NewM w.heap.size w' x y S v∧Below w.heap.size w w':=by
 have K:=hide (right1_any r c ao n cap ((w.alloc (.cells #[.int .i64 r,.int .i64 c,.slice ao n cap] 24)).alloc (.cells #[.int .i64 0,.int .i64 0,.slice none 0 0] 24)) hn)
 rw [h] at K
 simp only [size_alloc9] at K
 have KB:=hide (boxes2 w (.int .i64 r) (.int .i64 c) (.slice ao n cap) (.int .i64 0) (.int .i64 0) (.slice none 0 0))
 have KT:=hide (fun w1 (hB:Below w.heap.size w w1) (hX:BoxM w1 (w.heap.size+1) (.int .i64 0) (.int .i64 0) (.slice none 0 0))=>(C w1 hB).mono (R':=fun e w''=>∃ v,e = .returned v∧NewM w.heap.size w'' x y S v∧Below w.heap.size w w''∧BoxM w'' (w.heap.size+1) (.int .i64 0) (.int .i64 0) (.slice none 0 0)) (by
  rintro e w'' ⟨v,rfl,h1,h2⟩
  exact ⟨v,rfl,h1.least hB.size,hB.trans (h2.mono hB.size),hX.all h2⟩))
 clear h C
 go_enter Tryz.func126,Tryz.ntmps126
 go_wp2_with fail
 refine Calls.mono (uH K) ?_
 rintro e w1 ⟨rfl,hb1⟩
 obtain ⟨hB,hA,hX⟩:=uH KB w1 hb1
 have p0:=hA.c0;have p1:=hA.c1;have p2:=hA.c2
 have KC:=hide (uH KT w1 hB hX)
 clear K KB KT hb1 hA hX hB
 go_wp2_with fail
 refine Calls.mono (uH KC) ?_
 clear KC
 rintro e w2 ⟨v,rfl,⟨ro,rd,rfl,n1,q1⟩,hb2,hX⟩
 have f0:=hX.free 0;have f1:=hX.free 1;have f2:=hX.free 2
 have XP:=hX.put (.int .i64 x) (.int .i64 y) (.slice ro S.length rd)
 have z0:=XP.c0;have z1:=XP.c1;have z2:=XP.c2
 have s0:=hX.c0;have s1:=hX.c1;have s2:=hX.c2
 have Q:=hide (q1.putM hX (.int .i64 x) (.int .i64 y) (.slice ro S.length rd))
 have BP:=hide (below_putM hb2 (b:=w.heap.size+1) (by omega) (.int .i64 x) (.int .i64 y) (.slice ro S.length rd))
 clear XP q1 hb2 hX
 go_wp2
 exact bodyPost_ret (v:=.tuple #[.agg #[.int .i64 x,.int .i64 y,.slice ro S.length rd],.int .i64 0]) (by simp [results,Tryz.results126,go_sem,z0,z1,z2]) rfl ⟨_,rfl,⟨ro,rd,rfl,n1,uH Q⟩,uH BP⟩
end Go.Proofs.YtlnphkioddknfaaGreatDoor
namespace Go.Proofs.YtlnphkioddknfaaGreatDoor
open Go.RowKit
attribute [local go_sem ↓] Go.wp_at_zero Go.wp_at_succ
theorem zeros1_any (i k:Nat) (w:World) :
  Calls Tryz.prog 199 #[.int .i64 i,.int .i64 k] w fun e w'=>e = .returned (.int .u64 (0:Nat))∧Below w.heap.size w w':=by
 go_enter Tryz.func199,Tryz.ntmps199
 go_wp2
 go_ret
 exact ⟨rfl,Below.refl _ _⟩
theorem eye1_any (i k:Nat) (w:World) :
  Calls Tryz.prog 189 #[.int .i64 i,.int .i64 k] w fun e w'=>e = .returned (.int .u64 ((if k = i then 4607182418800017408 else 0:Nat):Int))∧Below w.heap.size w w':=by
 by_cases h:k = i
 ·rw [if_pos h]
  subst h
  go_enter Tryz.func189,Tryz.ntmps189
  go_wp2
  go_ret
  exact ⟨rfl,Below.refl _ _⟩
 ·rw [if_neg h]
  have e1:decide ((i:Int) = (k:Int)) = false:=decide_eq_false (by omega)
  go_enter Tryz.func189,Tryz.ntmps189
  go_wp2
  go_ret
  exact ⟨rfl,Below.refl _ _⟩
theorem part1_of (r c n cap i k a b x bx bi bk:Nat) (ao:Option Addr) (w:World) (ha:a+i≤6) (hb:b+k≤6) (hX:BoxM w bx (.int .i64 r) (.int .i64 c) (.slice ao n cap)) (hi:w.cell? ⟨bi,0,none⟩ = some (.int .i64 (a:Nat))) (hk:w.cell? ⟨bk,0,none⟩ = some (.int .i64 (b:Nat)))
  (C:Calls Tryz.prog 180 #[.agg #[.int .i64 r,.int .i64 c,.slice ao n cap],.int .i64 ((a:Int)+(i:Int)),.int .i64 ((b:Int)+(k:Int))] w fun e w'=>e = .returned (.int .u64 (x:Nat))∧Below w.heap.size w w') :
  Calls Tryz.prog 179 #[.int .i64 i,.int .i64 k,.pointer (some ⟨bx,0,none⟩),.pointer (some ⟨bi,0,none⟩),.pointer (some ⟨bk,0,none⟩)] w fun e w'=>e = .returned (.int .u64 (x:Nat))∧Below w.heap.size w w':=by
 have K:=hide C
 have p0:=hX.c0;have p1:=hX.c1;have p2:=hX.c2
 clear C hX
 go_enter Tryz.func179,Tryz.ntmps179
 go_wp2_with fail
 refine Calls.mono (uH K) ?_
 rintro e w1 ⟨rfl,hb1⟩
 clear K
 go_wp2
 go_ret
 exact ⟨rfl,hb1⟩
theorem mul1_of (r c n cap p q m d i k x ba bb:Nat) (ao bo:Option Addr) (U V:List Int) (w:World) (hX:BoxM w ba (.int .i64 r) (.int .i64 c) (.slice ao n cap)) (hY:BoxM w bb (.int .i64 p) (.int .i64 q) (.slice bo m d))
  (C1:∀ w',Below w.heap.size w w'→Calls Tryz.prog 184 #[.agg #[.int .i64 r,.int .i64 c,.slice ao n cap],.int .i64 i] w' fun e w''=>∃ so sd,e = .returned (.slice so c sd)∧BitsAt w'' so sd U∧Below w'.heap.size w' w'')
  (C2:∀ w',Below w.heap.size w w'→Calls Tryz.prog 184 #[.agg #[.int .i64 p,.int .i64 q,.slice bo m d],.int .i64 k] w' fun e w''=>∃ so sd,e = .returned (.slice so q sd)∧BitsAt w'' so sd V∧Below w'.heap.size w' w'')
  (C3:∀ w' so sd ro rd,Below w.heap.size w w'→BitsAt w' so sd U→BitsAt w' ro rd V→Calls Tryz.prog 183 #[.slice so c sd,.slice ro q rd] w' fun e w''=>e = .returned (.tuple #[.int .u64 (x:Nat),.int .i64 0])∧Below w'.heap.size w' w'') :
  Calls Tryz.prog 182 #[.int .i64 i,.int .i64 k,.pointer (some ⟨ba,0,none⟩),.pointer (some ⟨bb,0,none⟩)] w fun e w'=>e = .returned (.int .u64 (x:Nat))∧Below w.heap.size w w':=by
 have K1:=hide C1;have K2:=hide C2;have K3:=hide C3
 have HK:=hide (fun w' (h:Below w.heap.size w w')=>(show Below w.heap.size w w'∧(w'.cell? ⟨ba,0,none⟩ = some (.int .i64 r)∧w'.cell? ⟨ba,1,none⟩ = some (.int .i64 c)∧w'.cell? ⟨ba,2,none⟩ = some (.slice ao n cap))∧(w'.cell? ⟨bb,0,none⟩ = some (.int .i64 p)∧w'.cell? ⟨bb,1,none⟩ = some (.int .i64 q)∧w'.cell? ⟨bb,2,none⟩ = some (.slice bo m d)) from
  ⟨h,⟨(hX.all h).c0,(hX.all h).c1,(hX.all h).c2⟩,(hY.all h).c0,(hY.all h).c1,(hY.all h).c2⟩))
 clear C1 C2 C3 hX hY
 go_enter Tryz.func182,Tryz.ntmps182
 go_wp2_with fail
 go_region_held3 (fun w'=>Below w.heap.size w w'∧(w'.cell? ⟨ba,0,none⟩ = some (.int .i64 r)∧w'.cell? ⟨ba,1,none⟩ = some (.int .i64 c)∧w'.cell? ⟨ba,2,none⟩ = some (.slice ao n cap))∧(w'.cell? ⟨bb,0,none⟩ = some (.int .i64 p)∧w'.cell? ⟨bb,1,none⟩ = some (.int .i64 q)∧w'.cell? ⟨bb,2,none⟩ = some (.slice bo m d)))
  (first | exact uH HK _ (Below.refl _ _).drew | exact uH HK _ (by assumption) | fail "KK")
  (first | (go_at_call_of 184 (Value.agg #[.int .i64 r,.int .i64 c,.slice ao n cap]);refine (uH K1 _ (And.left (by assumption))).mono ?_;rintro e w1 ⟨so,sd,rfl,hu,hb1⟩;have hB1:Below w.heap.size w w1:=Below.trans (And.left (by assumption)) (hb1.mono (Below.size (And.left (by assumption))));have HU:=hide hu;(first | (have HV:=hide ((uH HV).below hb1)) | skip);clear hb1 hu K1) | (go_at_call_of 184 (Value.agg #[.int .i64 p,.int .i64 q,.slice bo m d]);refine (uH K2 _ (And.left (by assumption))).mono ?_;rintro e w2 ⟨ro,rd,rfl,hv,hb2⟩;have hB2:Below w.heap.size w w2:=Below.trans (And.left (by assumption)) (hb2.mono (Below.size (And.left (by assumption))));have HV:=hide hv;(first | (have HU:=hide ((uH HU).below hb2)) | skip);clear hb2 hv K2) | (go_at_call 183;refine (uH K3 _ _ _ _ _ (And.left (by assumption)) (uH HU) (uH HV)).mono ?_;rintro e w3 ⟨rfl,hb3⟩;have hB3:Below w.heap.size w w3:=Below.trans (And.left (by assumption)) (hb3.mono (Below.size (And.left (by assumption))));clear hb3) | fail "NO ARM")
 all_goals
  go_wp2
  go_ret
  exact ⟨rfl,And.left (by assumption)⟩
end Go.Proofs.YtlnphkioddknfaaGreatDoor
