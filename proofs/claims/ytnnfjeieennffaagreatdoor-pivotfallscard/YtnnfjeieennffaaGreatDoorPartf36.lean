/- Part 36 of the texts. -/
import Derived.Test.YtnnfjeieennffaaGreatDoorPartf35
import Derived.Test.YtnnfjeieennffaaGreatDoorPartf05
import Derived.Test.YtnnfjeieennffaaGreatDoorPartf09
import Derived.Lib.BitFns
import Derived.Test.YtnnfjeieennffaaGreatDoorPartf01
set_option maxHeartbeats 4000000
set_option maxRecDepth 20000
namespace Go.Proofs.YtnnfjeieennffaaGreatDoor
open Go.RowKit
theorem cfPart1 (args:Array Value) (w:World):(callFunc 117 args).run Tryz.prog w = .ok (.enter 117 args) w:=by
 simp only [callFunc,go_sem]
 rfl
theorem cfEye1 (args:Array Value) (w:World):(callFunc 123 args).run Tryz.prog w = .ok (.enter 123 args) w:=by
 simp only [callFunc,go_sem]
 rfl
theorem mPart_ok (r c cap i k a b:Nat) (ao:Option Addr) (S:List Nat) (w:World) (h:Mx w ao cap r c S) (hi:i+a≤r) (hk:k+b≤c) :
  Calls Tryz.prog 69 #[.agg #[.int .i64 r,.int .i64 c,.slice ao S.length cap],.int .i64 i,.int .i64 k,.int .i64 a,.int .i64 b] w fun e w'=>∃ v,e = .returned (.tuple #[v,.int .i64 0])∧NewM w.heap.size w' a b (paM c S i k a b) v∧Below w.heap.size w w':=by
 have h6:=h.2.2.1
 have c6:=h.2.2.2
 refine mpart_of r c ao S.length cap i k a b a b (paM c S i k a b) w (by have:=h.small;omega) (mx_ok h) (fun w'=>?_) (fun w'=>?_) ?_
 ·have:=lies_any i a r w' (by omega) (by omega)
  rwa [decide_eq_true (by omega)] at this
 ·have:=lies_any k b c w' (by omega) (by omega)
  rwa [decide_eq_true (by omega)] at this
 ·intro w1 hB hA ci ck
  refine build_any 117 _ a b _ w1 cfPart1 (by omega) (by omega) (fun x y _ _=>h.el_lt _ _) ?_
  intro w' x y hb hx hy
  have hb':Below w.heap.size w w':=hB.trans (hb.mono hB.size)
  refine part1_of r c S.length cap x y i k _ w.heap.size (w.heap.size+1) (w.heap.size+1+1) ao w' (by omega) (by omega) (hA.all hb) (cell_keep ci hb) (cell_keep ck hb) ?_
  rw [show (i:Int)+(x:Int) = ((i+x:Nat):Int) by simp,show (k:Int)+(y:Int) = ((k+y:Nat):Int) by simp]
  exact mat_any r c cap (i+x) (k+y) ao S w' (h.below hb') (by omega) (by omega)
theorem mEye_ok (n:Nat) (w:World) (hn:n≤6) :
  Calls Tryz.prog 75 #[.int .i64 n] w fun e w'=>∃ v,e = .returned (.tuple #[v,.int .i64 0])∧NewM w.heap.size w' n n (eyM n) v∧Below w.heap.size w w' :=
 meye_of n n n _ w (decide_eq_true (by omega)) (fun w1 _=>build_any 123 #[] n n _ w1 cfEye1 hn hn (fun i k _ _=>by split <;> decide) (fun w' i k _ _ _=>eye1_any i k w'))
end Go.Proofs.YtnnfjeieennffaaGreatDoor
namespace Go.Proofs.YtnnfjeieennffaaGreatDoor
open Go.RowKit
attribute [local go_sem ↓] Go.wp_at_zero Go.wp_at_succ
theorem rright_any (r c:Int) (ao:Option Addr) (n cap:Nat) (w:World) :
  Calls Tryz.prog 18 #[.agg #[.int .i64 r,.int .i64 c,.slice ao n cap]] w fun e w'=>e = .returned (.bool (okB r c n))∧Below w.heap.size w w':=by
 have hb0:=hide (below_alloc9 w (.cells #[.int .i64 r,.int .i64 c,.slice ao n cap] 24))
 rcases (show (r < 0∧okB r c n = false) ∨ (0≤r∧6 < r∧okB r c n = false) ∨ (0≤r∧r≤6∧c < 0∧okB r c n = false) ∨ (0≤r∧r≤6∧0≤c∧6 < c∧okB r c n = false) ∨ (0≤r∧r≤6∧0≤c∧c≤6) by
  unfold okB
  by_cases h:0≤r∧r≤6∧0≤c∧c≤6
  ·omega
  ·rw [decide_eq_false (fun g=>h g.1)];simp;omega) with ⟨h1,e⟩ | ⟨h1,h2,e⟩ | ⟨h1,h2,h3,e⟩ | ⟨h1,h2,h3,h4,e⟩ | ⟨h1,h2,h3,h4⟩
 ·rw [e]
  clear e
  go_enter Tryz.func18,Tryz.ntmps18
  go_wp2
  go_ret
  exact ⟨rfl,uH hb0⟩
 ·rw [e]
  clear e
  go_enter Tryz.func18,Tryz.ntmps18
  go_wp2
  go_ret
  exact ⟨rfl,uH hb0⟩
 ·rw [e]
  clear e
  go_enter Tryz.func18,Tryz.ntmps18
  go_wp2
  go_ret
  exact ⟨rfl,uH hb0⟩
 ·rw [e]
  clear e
  go_enter Tryz.func18,Tryz.ntmps18
  go_wp2
  go_ret
  exact ⟨rfl,uH hb0⟩
 ·have hm:∃ m:Nat,r * c = (m:Int)∧m≤36:=by
   obtain ⟨a,rfl⟩:=Int.eq_ofNat_of_zero_le h1
   obtain ⟨b,rfl⟩:=Int.eq_ofNat_of_zero_le h3
   refine ⟨a * b,by simp,?_⟩
   have:a * b≤6 * 6:=Nat.mul_le_mul (by omega) (by omega)
   omega
  obtain ⟨m,hm,h36⟩:=hm
  have e2:okB r c n = decide ((n:Int) = (m:Int)):=decide_eq_decide.2 (by rw [hm];exact ⟨fun h=>h.2,fun h=>⟨⟨h1,h2,h3,h4⟩,h⟩⟩)
  rw [e2]
  clear e2
  go_enter Tryz.func18,Tryz.ntmps18
  go_wp2
  go_ret
  refine ⟨?_,uH hb0⟩
  first | rfl | simp
theorem rat_of (r c n cap b off i k q x:Nat) (w:World) (hq:(i:Int) * (c:Int) = (q:Int)) (hlt:q+k < n) (hn:n≤36)
  (hx:w.cell? ⟨b,off+(q+k),none⟩ = some (.int .u64 (x:Nat))) :
  Calls Tryz.prog 50 #[.agg #[.int .i64 r,.int .i64 c,.slice (some ⟨b,off,none⟩) n cap],.int .i64 i,.int .i64 k] w fun e w'=>e = .returned (.int .u64 (x:Nat))∧Below w.heap.size w w':=by
 have hb0:=hide (below_alloc9 w (.cells #[.int .i64 r,.int .i64 c,.slice (some ⟨b,off,none⟩) n cap] 24))
 have cx:=cell_keep hx (uH hb0)
 clear hx
 have hkI:(q:Int)+(k:Int) < (n:Int):=by omega
 go_enter Tryz.func50,Tryz.ntmps50
 go_wp2
 go_ret
 exact ⟨rfl,uH hb0⟩
theorem rat_any (r c cap i k:Nat) (ao:Option Addr) (S:List Nat) (w:World) (h:Mx w ao cap r c S) (hi:i < r) (hk:k < c) :
  Calls Tryz.prog 50 #[.agg #[.int .i64 r,.int .i64 c,.slice ao S.length cap],.int .i64 i,.int .i64 k] w fun e w'=>e = .returned (.int .u64 (elM c S i k:Nat))∧Below w.heap.size w w':=by
 obtain ⟨b,off,rfl,h2,h3,h4⟩:=h.cells hi hk
 exact rat_of r c S.length cap b off i k (i * c) _ w (cast_mul10 i c) h4 h.small h3
end Go.Proofs.YtnnfjeieennffaaGreatDoor
namespace Go.Proofs.YtnnfjeieennffaaGreatDoor
open Go.RowKit
structure Nm where
 neg:Bool
 ao:Option Addr
 cap:Nat
 L:List Nat
structure Rw where
 ao:Option Addr
 cap:Nat
 R:List Nm
def Nm.nil:Nm:=⟨false,none,0,[]⟩
def Rw.nil:Rw:=⟨none,0,[]⟩
def nmAt (R:List Nm) (k:Nat):Nm:=R[k]?.getD Nm.nil
def rwAt (M:List Rw) (i:Nat):Rw:=M[i]?.getD Rw.nil
end Go.Proofs.YtnnfjeieennffaaGreatDoor
namespace Go.Proofs.YtnnfjeieennffaaGreatDoor
open Go.RowKit
def IntsAt (w:World) (ao:Option Addr) (cap:Nat) (I:List Int):Prop :=
 I.length≤cap∧(∀ x ∈ I,-9223372036854775808≤x∧x≤9223372036854775807)∧(I = [] ∨ ∃ b off,ao = some ⟨b,off,none⟩∧b < w.heap.size∧∀ i,i < I.length→w.cell? ⟨b,off+i,none⟩ = some (.int .i64 (I[i]?.getD 0)))
theorem IntsAt.below {w w':World} {ao:Option Addr} {cap:Nat} {I:List Int} (h:IntsAt w ao cap I) (hb:Below w.heap.size w w'):IntsAt w' ao cap I:=by
 refine ⟨h.1,h.2.1,?_⟩
 rcases h.2.2 with h | ⟨b,off,h1,h2,h3⟩
 ·exact .inl h
 ·refine .inr ⟨b,off,h1,Nat.lt_of_lt_of_le h2 hb.size,fun i hi=>?_⟩
  rw [hb.cell (p:=⟨b,off+i,none⟩) h2]
  exact h3 i hi
theorem IntsAt.ne {w:World} {ao:Option Addr} {cap:Nat} {I:List Int} (h:IntsAt w ao cap I) (h0:0 < I.length):∃ b off,ao = some ⟨b,off,none⟩∧b < w.heap.size∧∀ i,i < I.length→w.cell? ⟨b,off+i,none⟩ = some (.int .i64 (I[i]?.getD 0)):=by
 rcases h.2.2 with e | e
 ·rw [e] at h0;simp at h0
 ·exact e
end Go.Proofs.YtnnfjeieennffaaGreatDoor
namespace Go.Proofs.YtnnfjeieennffaaGreatDoor
def sumRows (a:Nat→Nat→Int) (t:Nat→Int):Nat→Nat→Int
 | 0=>fun _=>0
 | k+1=>fun c=>1 * sumRows a t k c+t k * a k c
def factN:Nat→Nat
 | 0=>1
 | n+1=>(n+1) * factN n
end Go.Proofs.YtnnfjeieennffaaGreatDoor
