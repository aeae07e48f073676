/- Part 33 of the texts. -/
import Derived.Test.YtnnfjeieennffaaGreatDoorParte32
import Derived.Deep.RegionLaw
import Derived.Test.YtnnfjeieennffaaGreatDoorParte05
import Derived.Test.YtnnfjeieennffaaGreatDoorParte09
import Derived.Lib.BitFns
import Derived.Test.YtnnfjeieennffaaGreatDoorParte01
import Derived.Test.YtnnfjeieennffaaGreatDoorParte08
import Derived.Test.YtnnfjeieennffaaGreatDoorParte07
import Derived.Test.YtnnfjeieennffaaGreatDoorParte10
set_option maxHeartbeats 2000000
set_option maxRecDepth 20000
namespace Go.Proofs.YtnnfjeieennffaaGreatDoor
open Go.RowKit
attribute [local go_sem ↓] Go.wp_at_zero Go.wp_at_succ
theorem rwith_any (r c cap i k x:Nat) (ao:Option Addr) (S:List Nat) (w:World) (h:Mx w ao cap r c S) (hi:i < r) (hk:k < c) (hx:x < 18446744073709551616) :
  Calls Tryz.prog 52 #[.agg #[.int .i64 r,.int .i64 c,.slice ao S.length cap],.int .i64 i,.int .i64 k,.int .u64 x] w fun e w'=>∃ v,e = .returned v∧NewM w.heap.size w' r c (S.set (i * c+k) x) v∧Below w.heap.size w w':=by
 have hp:i * c+k < S.length:=by rw [h.2.1];exact place_lt hi hk
 have h36:=h.small
 have b0:=below_alloc9 w (.cells #[.int .i64 r,.int .i64 c,.slice ao S.length cap] 24)
 have s0:=size_alloc9 w (.cells #[.int .i64 r,.int .i64 c,.slice ao S.length cap] 24)
 have b1:=below_alloc9 (w.alloc (.cells #[.int .i64 r,.int .i64 c,.slice ao S.length cap] 24)) (.cells #[.int .i64 0,.int .i64 0,.slice none 0 0] 24)
 have s1:=size_alloc9 (w.alloc (.cells #[.int .i64 r,.int .i64 c,.slice ao S.length cap] 24)) (.cells #[.int .i64 0,.int .i64 0,.slice none 0 0] 24)
 have bb:=b0.trans (b1.mono b0.size)
 have b2:=below_alloc9 ((w.alloc (.cells #[.int .i64 r,.int .i64 c,.slice ao S.length cap] 24)).alloc (.cells #[.int .i64 0,.int .i64 0,.slice none 0 0] 24)) (.cells #[] 31)
 have on:=OwnB.nil ((w.alloc (.cells #[.int .i64 r,.int .i64 c,.slice ao S.length cap] 24)).alloc (.cells #[.int .i64 0,.int .i64 0,.slice none 0 0] 24)) (w.heap.size+1+1) (by rw [s1,s0];omega)
 have bits:=(h.1.below bb).below b2
 obtain ⟨po,pc,w1,run,own,gr⟩:=copy_bits _ (w.heap.size+1+1) 22 ao cap (mxL S) _ bits (by rw [mxL_len];omega) on.1 (by simp)
 rw [natL_mxL,mxL_len] at *
 have bel:=(b2.mono (Nat.le_of_eq (by rw [s1,s0]))).grown gr (by simp) (fun g hg=>by cases hg;rw [s1,s0];exact Nat.le_refl _)
 rw [s1,s0] at run
 obtain ⟨g,hg,_⟩:=own.at hp
 exact rwith_of r c S.length cap i k (i * c) x g ao po pc S w w1 rfl (cast_mul10 i c) hp h36 hx run own bel hg
theorem rsame_any (r c:Int) (ao bo:Option Addr) (cap d:Nat) (S:List Nat) (w:World) (h:BitsAt w ao cap (mxL S)) (h2:BitsAt w bo d (mxL S)) (hl:S.length≤1000000) :
  Calls Tryz.prog 12 #[.agg #[.int .i64 r,.int .i64 c,.slice ao S.length cap],.agg #[.int .i64 r,.int .i64 c,.slice bo S.length d]] w fun e w'=>e = .returned (.bool true)∧Below w.heap.size w w':=by
 have b0:=below_alloc9 w (.cells #[.int .i64 r,.int .i64 c,.slice ao S.length cap] 24)
 have b1:=below_alloc9 (w.alloc (.cells #[.int .i64 r,.int .i64 c,.slice ao S.length cap] 24)) (.cells #[.int .i64 r,.int .i64 c,.slice bo S.length d] 24)
 have bb:=b0.trans (b1.mono b0.size)
 have K:=hide (same_any ao bo cap d (mxL S) _ (h.below bb) (h2.below bb) (by rw [mxL_len];omega))
 rw [mxL_len] at K
 have HB:=hide bb
 clear b0 b1 bb h h2
 generalize S.length = n at *
 go_enter Tryz.func12,Tryz.ntmps12
 go_wp2_with fail
 refine Calls.mono (uH K) ?_
 rintro e w1 ⟨rfl,hb1⟩
 clear K
 go_wp2
 go_ret
 exact ⟨rfl,(uH HB).trans (hb1.mono (uH HB).size)⟩
end Go.Proofs.YtnnfjeieennffaaGreatDoor
namespace Go.Proofs.YtnnfjeieennffaaGreatDoor
open Go.RowKit
structure Nm where
 neg:Bool
 ao:Option Addr
 cap:Nat
 L:List Nat
structure Rw where
 ao:Option Addr
 cap:Nat
 R:List Nm
def Nm.nil:Nm:=⟨false,none,0,[]⟩
def Rw.nil:Rw:=⟨none,0,[]⟩
def nmAt (R:List Nm) (k:Nat):Nm:=R[k]?.getD Nm.nil
def rwAt (M:List Rw) (i:Nat):Rw:=M[i]?.getD Rw.nil
end Go.Proofs.YtnnfjeieennffaaGreatDoor
namespace Go.Proofs.YtnnfjeieennffaaGreatDoor
open Go.RowKit
def IntsAt (w:World) (ao:Option Addr) (cap:Nat) (I:List Int):Prop :=
 I.length≤cap∧(∀ x ∈ I,-9223372036854775808≤x∧x≤9223372036854775807)∧(I = [] ∨ ∃ b off,ao = some ⟨b,off,none⟩∧b < w.heap.size∧∀ i,i < I.length→w.cell? ⟨b,off+i,none⟩ = some (.int .i64 (I[i]?.getD 0)))
theorem IntsAt.below {w w':World} {ao:Option Addr} {cap:Nat} {I:List Int} (h:IntsAt w ao cap I) (hb:Below w.heap.size w w'):IntsAt w' ao cap I:=by
 refine ⟨h.1,h.2.1,?_⟩
 rcases h.2.2 with h | ⟨b,off,h1,h2,h3⟩
 ·exact .inl h
 ·refine .inr ⟨b,off,h1,Nat.lt_of_lt_of_le h2 hb.size,fun i hi=>?_⟩
  rw [hb.cell (p:=⟨b,off+i,none⟩) h2]
  exact h3 i hi
theorem IntsAt.ne {w:World} {ao:Option Addr} {cap:Nat} {I:List Int} (h:IntsAt w ao cap I) (h0:0 < I.length):∃ b off,ao = some ⟨b,off,none⟩∧b < w.heap.size∧∀ i,i < I.length→w.cell? ⟨b,off+i,none⟩ = some (.int .i64 (I[i]?.getD 0)):=by
 rcases h.2.2 with e | e
 ·rw [e] at h0;simp at h0
 ·exact e
def atI (I:List Int) (j:Nat):Int:=I[j]?.getD 0
theorem IntsAt.wf {w:World} {ao:Option Addr} {cap:Nat} {I:List Int} (h:IntsAt w ao cap I) (j:Nat):-9223372036854775808≤atI I j∧atI I j≤9223372036854775807:=by
 unfold atI
 by_cases hi:j < I.length
 ·rw [List.getElem?_eq_getElem hi];exact h.2.1 _ (List.getElem_mem hi)
 ·rw [List.getElem?_eq_none (by omega)];simp
end Go.Proofs.YtnnfjeieennffaaGreatDoor
namespace Go.Proofs.YtnnfjeieennffaaGreatDoor
def sumRows (a:Nat→Nat→Int) (t:Nat→Int):Nat→Nat→Int
 | 0=>fun _=>0
 | k+1=>fun c=>1 * sumRows a t k c+t k * a k c
def factN:Nat→Nat
 | 0=>1
 | n+1=>(n+1) * factN n
end Go.Proofs.YtnnfjeieennffaaGreatDoor
namespace Go.Proofs.YtnnfjeieennffaaGreatDoor
def N80:Nat:=80
def B80:Nat:=4294967296 ^ N80
def NB (k:Nat):Nat:=factN k * B80 ^ k
end Go.Proofs.YtnnfjeieennffaaGreatDoor
