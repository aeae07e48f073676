/- Part 27 of the texts. -/
import Derived.Test.YtlnphkioddknfaaGreatDoorPartq22
import Derived.Test.YtlnphkioddknfaaGreatDoorPartq17
import Derived.Test.YtlnphkioddknfaaGreatDoorPartq18
import Derived.Deep.Cut
import Derived.BigQuiet
import Derived.Test.YtlnphkioddknfaaGreatDoorPartq16
import Derived.Test.YtlnphkioddknfaaGreatDoorPartq25
import Derived.Test.YtlnphkioddknfaaGreatDoorPartq26
import Derived.Test.YtlnphkioddknfaaGreatDoorPartq21
import Derived.Test.YtlnphkioddknfaaGreatDoorPartq04
import Derived.Test.YtlnphkioddknfaaGreatDoorPartq01
import Derived.Deep.OwnRows
import Derived.Deep.RegionHeld3
import Derived.Test.YtlnphkioddknfaaGreatDoorPartq23
set_option maxHeartbeats 4000000
set_option maxRecDepth 20000
namespace Go.Proofs.YtlnphkioddknfaaGreatDoor
open Go.RowKit
def BitsAt (w:World) (ao:Option Addr) (cap:Nat) (I:List Int):Prop :=
 I.length≤cap∧(∀ x ∈ I,0≤x∧x≤18446744073709551615)∧(I = [] ∨ ∃ b off,ao = some ⟨b,off,none⟩∧b < w.heap.size∧∀ i,i < I.length→w.cell? ⟨b,off+i,none⟩ = some (.int .u64 (I[i]?.getD 0)))
theorem BitsAt.below {w w':World} {ao:Option Addr} {cap:Nat} {I:List Int} (h:BitsAt w ao cap I) (hb:Below w.heap.size w w'):BitsAt w' ao cap I:=by
 refine ⟨h.1,h.2.1,?_⟩
 rcases h.2.2 with h | ⟨b,off,h1,h2,h3⟩
 ·exact .inl h
 ·refine .inr ⟨b,off,h1,Nat.lt_of_lt_of_le h2 hb.size,fun i hi=>?_⟩
  rw [hb.cell (p:=⟨b,off+i,none⟩) h2]
  exact h3 i hi
def atB (I:List Int) (j:Nat):Nat:=(I[j]?.getD 0).toNat
theorem BitsAt.wf {w:World} {ao:Option Addr} {cap:Nat} {I:List Int} (h:BitsAt w ao cap I) (j:Nat):I[j]?.getD 0 = (atB I j:Int)∧atB I j < 18446744073709551616:=by
 unfold atB
 by_cases hi:j < I.length
 ·have:=h.2.1 _ (List.getElem_mem hi)
  rw [List.getElem?_eq_getElem hi]
  simp only [Option.getD_some]
  omega
 ·rw [List.getElem?_eq_none (by omega)];simp
theorem BitsAt.ne {w:World} {ao:Option Addr} {cap:Nat} {I:List Int} (h:BitsAt w ao cap I) (h0:0 < I.length):∃ b off,ao = some ⟨b,off,none⟩∧b < w.heap.size∧∀ i,i < I.length→w.cell? ⟨b,off+i,none⟩ = some (.int .u64 (atB I i:Int)):=by
 rcases h.2.2 with e | ⟨b,off,e1,e2,e3⟩
 ·rw [e] at h0;simp at h0
 ·exact ⟨b,off,e1,e2,fun i hi=>by rw [e3 i hi,(h.wf i).1]⟩
end Go.Proofs.YtlnphkioddknfaaGreatDoor
namespace Go.Proofs.YtlnphkioddknfaaGreatDoor
open Go.RowKit
theorem vadd_any (a b:Nat) (w:World) (ha:a < 18446744073709551616) (hb:b < 18446744073709551616) (hT:Tab w) :
  Calls Tryz.prog 239 #[.int .u64 a,.int .u64 b] w fun r w'=>r = .returned (.int .u64 (aV a b:Nat))∧Below w.heap.size w w':=by
 have K:=hide (sadd_any a b w ha hb hT)
 clear ha hb hT
 generalize aV a b = o at *
 generalize aF a b = f at *
 go_enter Tryz.func239,Tryz.ntmps239
 go_wp2_with fail
 refine Calls.mono (uH K) ?_
 rintro e w1 ⟨rfl,hb1⟩
 clear K
 go_wp2
 go_ret
 exact ⟨rfl,hb1⟩
theorem vmul_any (a b:Nat) (w:World) (ha:a < 18446744073709551616) (hb:b < 18446744073709551616) (hT:Tab w) :
  Calls Tryz.prog 165 #[.int .u64 a,.int .u64 b] w fun r w'=>r = .returned (.int .u64 (mV a b:Nat))∧Below w.heap.size w w':=by
 have K:=hide (tmul_any a b w ha hb hT)
 clear ha hb hT
 generalize mV a b = o at *
 generalize mF a b = f at *
 go_enter Tryz.func165,Tryz.ntmps165
 go_wp2_with fail
 refine Calls.mono (uH K) ?_
 rintro e w1 ⟨rfl,hb1⟩
 clear K
 go_wp2
 go_ret
 exact ⟨rfl,hb1⟩
theorem vscale_any (a:Nat) (n:Int) (w:World) (ha:a < 18446744073709551616) (hT:Tab w) :
  Calls Tryz.prog 58 #[.int .u64 a,.int .i64 n] w fun r w'=>r = .returned (.int .u64 (xV a n:Nat))∧Below w.heap.size w w':=by
 have K:=hide (cscale_any a n w ha hT)
 clear ha hT
 generalize xV a n = o at *
 generalize xF a n = f at *
 go_enter Tryz.func58,Tryz.ntmps58
 go_wp2_with fail
 refine Calls.mono (uH K) ?_
 rintro e w1 ⟨rfl,hb1⟩
 clear K
 go_wp2
 go_ret
 exact ⟨rfl,hb1⟩
theorem vfit_any (ao bo:Option Addr) (n m c d:Nat) (w:World) :
  Calls Tryz.prog 215 #[.slice ao n c,.slice bo m d] w fun r w'=>r = .returned (.bool (decide (n≤64∧n = m)))∧w = w':=by
 by_cases h1:n≤64
 ·have h1I:(n:Int)≤64:=by omega
  by_cases h2:n = m
  ·rw [decide_eq_true (And.intro h1 h2)]
   subst h2
   go_enter Tryz.func215,Tryz.ntmps215
   go_wp2
   go_ret
   exact ⟨rfl,rfl⟩
  ·rw [decide_eq_false (fun h=>h2 h.2)]
   have h2I:decide ((n:Int) = (m:Int)) = false:=decide_eq_false (by omega)
   go_enter Tryz.func215,Tryz.ntmps215
   go_wp2
   go_ret
   exact ⟨by simp;omega,rfl⟩
 ·rw [decide_eq_false (fun h=>h1 h.1)]
  have h1I:(64:Int) < (n:Int):=by omega
  go_enter Tryz.func215,Tryz.ntmps215
  go_wp2
  go_ret
  exact ⟨by simp,rfl⟩
theorem f9_any (b:Nat) (w:World) (_h:b < 18446744073709551616) :
  Calls Tryz.prog 109 #[.int .u64 b] w fun r w'=>r = .returned (.float .f64 b)∧w = w':=by
 have hF:=fun W=>frombits5 b W
 have hw:IntKind.u64.wrap (b:Int) = (b:Int):=by simp only [IntKind.wrap_u64];omega
 go_enter Tryz.func109,Tryz.ntmps109
 go_wp2
 go_ret
 exact ⟨rfl,rfl⟩
theorem b9_of (R v:Nat) (w:World) (C:∀ w',Calls Tryz.prog 129 #[.int .u64 (R:Nat)] w' fun r w''=>r = .returned (.int .u64 (v:Nat))∧w' = w'') :
  Calls Tryz.prog 75 #[.float .f64 R] w fun r w'=>r = .returned (.int .u64 (v:Nat))∧w = w':=by
 have K:=hide C
 have hB:=fun R W=>tobits5 R W
 clear C
 go_enter Tryz.func75,Tryz.ntmps75
 go_wp2_with fail
 refine (uH K _).mono ?_
 rintro e w2 ⟨rfl,rfl⟩
 clear K
 go_wp2
 go_ret
 exact ⟨rfl,rfl⟩
theorem r9add_of (a b v:Nat) (o:Option Nat) (w:World)
  (hA:∀ i w',(binOp .add i (.float .f64 a) (.float .f64 b)).run Tryz.prog w' = .ok (.float .f64 (fres o a b w')) (fwld o w'))
  (F1:∀ w',Calls Tryz.prog 109 #[.int .u64 a] w' fun r w''=>r = .returned (.float .f64 a)∧w' = w'')
  (F2:∀ w',Calls Tryz.prog 109 #[.int .u64 b] w' fun r w''=>r = .returned (.float .f64 b)∧w' = w'')
  (N1:∀ u w',Calls Tryz.prog 75 #[.float .f64 (fres o a b u)] w' fun r w''=>r = .returned (.int .u64 v)∧w' = w'') :
  Calls Tryz.prog 144 #[.int .u64 a,.int .u64 b] w fun r w'=>r = .returned (.int .u64 (v:Nat))∧Below w.heap.size w w':=by
 have L1:=hide F1;have L2:=hide F2;have M1:=hide N1
 have B:=hide (below_fwld o w)
 clear F1 F2 N1
 go_enter Tryz.func144,Tryz.ntmps144
 go_wp2_with fail
 refine (uH L1 _).mono ?_
 rintro e w2 ⟨rfl,rfl⟩
 go_wp2_with fail
 refine (uH L2 _).mono ?_
 rintro e w2 ⟨rfl,rfl⟩
 go_wp2_with fail
 refine (uH M1 _ _).mono ?_
 rintro e w2 ⟨rfl,rfl⟩
 clear L1 L2 M1
 go_wp2
 go_ret
 exact ⟨rfl,uH B⟩
theorem r9add_any (a b:Nat) (w:World) (ha:a < 18446744073709551616) (hb:b < 18446744073709551616) :
  Calls Tryz.prog 144 #[.int .u64 a,.int .u64 b] w fun r w'=>r = .returned (.int .u64 (aV a b:Nat))∧Below w.heap.size w w' :=
 r9add_of a b (aV a b) (Ieee.double.add a b) w (fun i w'=>fadd_run i a b w') (fun w'=>f9_any a w' ha) (fun w'=>f9_any b w' hb) (fun u w'=>b9_of _ _ w' (fun w''=>canon_add a b u w'' ha hb))
theorem r9mul_of (a b v:Nat) (o:Option Nat) (w:World)
  (hA:∀ i w',(binOp .mul i (.float .f64 a) (.float .f64 b)).run Tryz.prog w' = .ok (.float .f64 (fres o a b w')) (fwld o w'))
  (F1:∀ w',Calls Tryz.prog 109 #[.int .u64 a] w' fun r w''=>r = .returned (.float .f64 a)∧w' = w'')
  (F2:∀ w',Calls Tryz.prog 109 #[.int .u64 b] w' fun r w''=>r = .returned (.float .f64 b)∧w' = w'')
  (N1:∀ u w',Calls Tryz.prog 75 #[.float .f64 (fres o a b u)] w' fun r w''=>r = .returned (.int .u64 v)∧w' = w'') :
  Calls Tryz.prog 50 #[.int .u64 a,.int .u64 b] w fun r w'=>r = .returned (.int .u64 (v:Nat))∧Below w.heap.size w w':=by
 have L1:=hide F1;have L2:=hide F2;have M1:=hide N1
 have B:=hide (below_fwld o w)
 clear F1 F2 N1
 go_enter Tryz.func50,Tryz.ntmps50
 go_wp2_with fail
 refine (uH L1 _).mono ?_
 rintro e w2 ⟨rfl,rfl⟩
 go_wp2_with fail
 refine (uH L2 _).mono ?_
 rintro e w2 ⟨rfl,rfl⟩
 go_wp2_with fail
 refine (uH M1 _ _).mono ?_
 rintro e w2 ⟨rfl,rfl⟩
 clear L1 L2 M1
 go_wp2
 go_ret
 exact ⟨rfl,uH B⟩
theorem r9mul_any (a b:Nat) (w:World) (ha:a < 18446744073709551616) (hb:b < 18446744073709551616) :
  Calls Tryz.prog 50 #[.int .u64 a,.int .u64 b] w fun r w'=>r = .returned (.int .u64 (mV a b:Nat))∧Below w.heap.size w w' :=
 r9mul_of a b (mV a b) (Ieee.double.mul a b) w (fun i w'=>fmul_run i a b w') (fun w'=>f9_any a w' ha) (fun w'=>f9_any b w' hb) (fun u w'=>b9_of _ _ w' (fun w''=>canon_mul a b u w'' ha hb))
theorem r9sqrt_of (a v:Nat) (o:Option Nat) (w:World)
  (F1:∀ w',Calls Tryz.prog 109 #[.int .u64 a] w' fun r w''=>r = .returned (.float .f64 a)∧w' = w'')
  (S1:∀ w',Calls Tryz.prog 223 #[.float .f64 a] w' fun r w''=>r = .returned (.float .f64 (fres o a a w'))∧w'' = fwld o w')
  (N1:∀ u w',Calls Tryz.prog 75 #[.float .f64 (fres o a a u)] w' fun r w''=>r = .returned (.int .u64 v)∧w' = w'') :
  Calls Tryz.prog 198 #[.int .u64 a] w fun r w'=>r = .returned (.int .u64 (v:Nat))∧Below w.heap.size w w':=by
 have L1:=hide F1;have L2:=hide S1;have M1:=hide N1
 have B:=hide (below_fwld o w)
 clear F1 S1 N1
 go_enter Tryz.func198,Tryz.ntmps198
 go_wp2_with fail
 refine (uH L1 _).mono ?_
 rintro e w2 ⟨rfl,rfl⟩
 go_wp2_with fail
 refine (uH L2 _).mono ?_
 rintro e w2 ⟨rfl,rfl⟩
 go_wp2_with fail
 refine (uH M1 _ _).mono ?_
 rintro e w2 ⟨rfl,rfl⟩
 clear L1 L2 M1
 go_wp2
 go_ret
 exact ⟨rfl,uH B⟩
theorem r9sqrt_any (a:Nat) (w:World) (ha:a < 18446744073709551616) :
  Calls Tryz.prog 198 #[.int .u64 a] w fun r w'=>r = .returned (.int .u64 (sV a:Nat))∧Below w.heap.size w w' :=
 r9sqrt_of a (sV a) (Ieee.double.sqrt a) w (fun w'=>f9_any a w' ha) (fun w'=>msqrt_any a _ w' (fun W=>msqrt_run a W)) (fun u w'=>b9_of _ _ w' (fun w''=>canon_sqrt a u w'' ha))
theorem r9shift_of (a l v:Nat) (n:Int) (w:World)
  (F1:∀ w',Calls Tryz.prog 109 #[.int .u64 a] w' fun r w''=>r = .returned (.float .f64 a)∧w' = w'')
  (S1:∀ w',Calls Tryz.prog 123 #[.float .f64 a,.int .i64 n] w' fun r w''=>r = .returned (.float .f64 l)∧w' = w'')
  (N1:∀ w',Calls Tryz.prog 75 #[.float .f64 l] w' fun r w''=>r = .returned (.int .u64 v)∧w' = w'') :
  Calls Tryz.prog 69 #[.int .u64 a,.int .i64 n] w fun r w'=>r = .returned (.int .u64 (v:Nat))∧Below w.heap.size w w':=by
 have L1:=hide F1;have L2:=hide S1;have M1:=hide N1
 clear F1 S1 N1
 go_enter Tryz.func69,Tryz.ntmps69
 go_wp2_with fail
 refine (uH L1 _).mono ?_
 rintro e w2 ⟨rfl,rfl⟩
 go_wp2_with fail
 refine (uH L2 _).mono ?_
 rintro e w2 ⟨rfl,rfl⟩
 go_wp2_with fail
 refine (uH M1 _).mono ?_
 rintro e w2 ⟨rfl,rfl⟩
 clear L1 L2 M1
 go_wp2
 go_ret
 exact ⟨rfl,Below.refl _ _⟩
theorem r9shift_any (a:Nat) (n:Int) (w:World) (ha:a < 18446744073709551616) (hn:-5000≤n∧n≤5000) :
  Calls Tryz.prog 69 #[.int .u64 a,.int .i64 n] w fun r w'=>r = .returned (.int .u64 (xV a n:Nat))∧Below w.heap.size w w' :=
 r9shift_of a (lV a n) (xV a n) n w (fun w'=>f9_any a w' ha) (fun w'=>Ldexp_any a n w' ha hn) (fun w'=>b9_of _ _ w' (fun w''=>canon_lV a n w'' ha))
end Go.Proofs.YtlnphkioddknfaaGreatDoor
namespace Go.Proofs.YtlnphkioddknfaaGreatDoor
open Go.RowKit
theorem gatherB_any (fn:Nat) (caps:Array Value) (n:Nat) (f:Nat→Nat) (w:World)
  (hcf:∀ args w,(callFunc fn args).run Tryz.prog w = .ok (.enter fn args) w) (hn:n≤35184372088830)
  (hstep:∀ w' k,Below w.heap.size w w'→k < n→Calls Tryz.prog fn (#[.int .u64 (f k:Nat),.int .i64 (k:Nat)] ++ caps) w' fun e w''=>e = .returned (.int .u64 (f (k+1):Nat))∧Below w'.heap.size w' w'') :
  Calls Tryz.prog 113 #[.int .i64 n,.int .u64 (f 0:Nat),.func (.func fn) #[] caps] w fun e w'=>e = .returned (.int .u64 (f n:Nat))∧Below w.heap.size w w':=by
 have HS:=hide hstep
 clear hstep
 go_enter Tryz.func113,Tryz.ntmps113
 go_wp2_with fail
 go_loopw [7,11] (fun t i wr=>∃ k:Nat,k≤n∧i = .int .i64 k∧t = .int .u64 (f k:Nat)∧Hid (Below w.heap.size w wr)) (fun _ i _=>n - (intOf i).toNat)
 case atStart=>exact ⟨0,Nat.zero_le _,rfl,rfl,Below.refl _ _⟩
 case round =>
  obtain ⟨k,hk,rfl,rfl,hB⟩:=hrel
  by_cases hlt:k < n
  ·have hkI:(k:Int) < (n:Int):=by omega
   have C:=hide (fun w' h=>uH HS w' k h hlt)
   obtain ⟨o,eo⟩:∃ o,f (k+1) = o:=⟨_,rfl⟩
   rw [eo] at C
   have eV:=hide eo
   clear eo
   go_wp2_with fail
   refine (uH C _ hB.out).mono ?_
   rintro e w2 ⟨rfl,hb2⟩
   have B2:Hid (Below w.heap.size w w2):=hB.out.trans (hb2.mono hB.out.size)
   clear hb2 C
   go_wp2_with fail
   go_round
   case rel=>exact ⟨k+1,by omega,by go_num,by rw [uH eV],B2⟩
   case measure=>simp [intOf];omega
  ·have hkk:k = n:=by omega
   subst hkk
   go_wp2_with fail
   exact bodyPost_ret (v:=.int .u64 (f k:Nat)) (by simp [results,Tryz.results113,go_sem]) rfl ⟨rfl,hB.out⟩
theorem gatherb_any (fn:Nat) (caps:Array Value) (n:Nat) (f:Nat→Bool) (w:World)
  (hcf:∀ args w,(callFunc fn args).run Tryz.prog w = .ok (.enter fn args) w) (hn:n≤35184372088830)
  (hstep:∀ w' k,Below w.heap.size w w'→k < n→Calls Tryz.prog fn (#[.bool (f k),.int .i64 (k:Nat)] ++ caps) w' fun e w''=>e = .returned (.bool (f (k+1)))∧Below w'.heap.size w' w'') :
  Calls Tryz.prog 193 #[.int .i64 n,.bool (f 0),.func (.func fn) #[] caps] w fun e w'=>e = .returned (.bool (f n))∧Below w.heap.size w w':=by
 have HS:=hide hstep
 clear hstep
 go_enter Tryz.func193,Tryz.ntmps193
 go_wp2_with fail
 go_loopw [7,11] (fun t i wr=>∃ k:Nat,k≤n∧i = .int .i64 k∧t = .bool (f k)∧Hid (Below w.heap.size w wr)) (fun _ i _=>n - (intOf i).toNat)
 case atStart=>exact ⟨0,Nat.zero_le _,rfl,rfl,Below.refl _ _⟩
 case round =>
  obtain ⟨k,hk,rfl,rfl,hB⟩:=hrel
  by_cases hlt:k < n
  ·have hkI:(k:Int) < (n:Int):=by omega
   have C:=hide (fun w' h=>uH HS w' k h hlt)
   obtain ⟨o,eo⟩:∃ o,f (k+1) = o:=⟨_,rfl⟩
   rw [eo] at C
   have eV:=hide eo
   clear eo
   go_wp2_with fail
   refine (uH C _ hB.out).mono ?_
   rintro e w2 ⟨rfl,hb2⟩
   have B2:Hid (Below w.heap.size w w2):=hB.out.trans (hb2.mono hB.out.size)
   clear hb2 C
   go_wp2_with fail
   go_round
   case rel=>exact ⟨k+1,by omega,by go_num,by rw [uH eV],B2⟩
   case measure=>simp [intOf];omega
  ·have hkk:k = n:=by omega
   subst hkk
   go_wp2_with fail
   exact bodyPost_ret (v:=.bool (f k)) (by simp [results,Tryz.results193,go_sem]) rfl ⟨rfl,hB.out⟩
def bitV (x:Nat):Value:=.int .u64 (x:Int)
def RowB (w:World) (g:Nat) (S:List Nat):Prop:=w.heap[g]? = some (.cells (S.map bitV).toArray 37 (0,0))
theorem RowB.cell {w:World} {g:Nat} {S:List Nat} (h:RowB w g S) (j:Nat) (hj:j < S.length):w.cell? ⟨g,j,none⟩ = some (.int .u64 ((S[j]?.getD 0:Nat):Int)):=by
 rw [cell_of_row w g j _ _ _ h]
 simp [bitV,hj]
theorem RowB.free {w:World} {g:Nat} {S:List Nat} (h:RowB w g S) (j:Nat):w.frozen? ⟨g,j,none⟩ = false:=frozen_of_row w g j _ _ h
theorem RowB.set {w:World} {g:Nat} {S:List Nat} (h:RowB w g S) (j x:Nat):RowB (w.setCell ⟨g,j,none⟩ (.int .u64 (x:Int))) g (S.set j x):=by
 unfold RowB
 rw [heap_setCell_same w g j _ _ _ h]
 simp [bitV,List.map_set]
theorem RowB.lt {w:World} {g:Nat} {S:List Nat} (h:RowB w g S):g < w.heap.size:=(Array.getElem?_eq_some_iff.1 h).1
theorem RowB.below {w w':World} {g:Nat} {S:List Nat} (h:RowB w g S) {B:Nat} (hb:Below B w w') (hg:g < B):RowB w' g S:=by
 unfold RowB;rw [hb.block g hg];exact h
theorem RowB.made (w:World) (n:Nat):RowB (w.alloc (.cells (madeCells #[.int .u64 0] n) 37)) w.heap.size (List.replicate n 0):=by
 unfold RowB
 rw [heap_alloc_new w _]
 have:madeCells #[Value.int .u64 0] n = ((List.replicate n 0).map bitV).toArray:=by
  apply Array.toList_inj.1
  refine List.ext_getElem (by simp [madeCells]) fun i h1 h2=>?_
  simp [madeCells,bitV,Nat.mod_one]
 rw [this]
def eaL (f:Nat→Nat) (n k:Nat):List Nat:=(List.range n).map (fun j=>if j < k then f j else 0)
theorem eaL_0 (f:Nat→Nat) (n:Nat):eaL f n 0 = List.replicate n 0:=by
 unfold eaL
 refine List.ext_getElem (by simp) fun i h1 h2=>?_
 simp
theorem eaL_len (f:Nat→Nat) (n k:Nat):(eaL f n k).length = n:=by simp [eaL]
theorem eaL_set (f:Nat→Nat) (n k:Nat):(eaL f n k).set k (f k) = eaL f n (k+1):=by
 unfold eaL
 refine List.ext_getElem (by simp) fun i h1 h2=>?_
 rw [List.getElem_set]
 simp only [List.getElem_map,List.getElem_range]
 by_cases h:k = i
 ·subst h;simp
 ·rw [if_neg h]
  by_cases h3:i < k
  ·rw [if_pos h3,if_pos (by omega)]
  ·rw [if_neg h3,if_neg (by omega)]
theorem eaL_full (f:Nat→Nat) (n:Nat):eaL f n n = (List.range n).map f:=by
 unfold eaL
 refine List.ext_getElem (by simp) fun i h1 h2=>?_
 simp only [List.getElem_map,List.getElem_range]
 rw [if_pos (by simpa using h2)]
theorem each_any (fn:Nat) (caps:Array Value) (n:Nat) (f:Nat→Nat) (w:World)
  (hcf:∀ args w,(callFunc fn args).run Tryz.prog w = .ok (.enter fn args) w) (hn:n≤35184372088830)
  (hstep:∀ w' k,Below w.heap.size w w'→k < n→Calls Tryz.prog fn (#[.int .i64 (k:Nat)] ++ caps) w' fun e w''=>e = .returned (.int .u64 (f k:Nat))∧Below w'.heap.size w' w'') :
  Calls Tryz.prog 286 #[.int .i64 n,.func (.func fn) #[] caps] w fun e w'=>∃ g,e = .returned (.slice (some ⟨g,0,none⟩) n n)∧w.heap.size≤g∧RowB w' g ((List.range n).map f)∧Below w.heap.size w w':=by
 have HS:=hide hstep
 have hmk:=run_make_row' (P:=Tryz.prog) 22 37 (.int .u64 0) 8 Tryz.underlying22 (by kernel_rfl) rfl .i64 .i64 n (by omega) (by omega)
 have HM:=hide (RowB.made w n)
 have HB:=hide ((Below.refl w.heap.size w).alloc (Nat.le_refl _) (.cells (madeCells #[.int .u64 0] n) 37))
 clear hstep
 go_enter Tryz.func286,Tryz.ntmps286
 go_wp2_with fail
 clear hmk
 go_loopw [10] (fun i wr=>∃ k:Nat,k≤n∧i = .int .i64 k∧Hid (RowB wr w.heap.size (eaL f n k))∧Hid (Below w.heap.size w wr)) (fun i _=>n - (intOf i).toNat)
 case atStart=>exact ⟨0,Nat.zero_le _,rfl,by rw [eaL_0];exact HM,HB⟩
 case round =>
  clear HM HB
  obtain ⟨k,hk,rfl,hR,hB⟩:=hrel
  by_cases hlt:k < n
  ·have hkI:(k:Int) < (n:Int):=by omega
   have C:=hide (fun w' h=>uH HS w' k h hlt)
   obtain ⟨o,eo⟩:∃ o,f k = o:=⟨_,rfl⟩
   rw [eo] at C
   have eV:=hide eo
   clear eo
   go_wp2_with fail
   refine (uH C _ hB.out).mono ?_
   rintro e w2 ⟨rfl,hb2⟩
   have hR2:=(uH hR).below hb2 (uH hR).lt
   have c0:=hR2.cell k (by rw [eaL_len];exact hlt)
   have f0:=hR2.free k
   have R3:=hide (hR2.set k o)
   have B2:Below w.heap.size w w2:=hB.out.trans (hb2.mono hB.out.size)
   have B3:=hide (B2.setCell (p:=⟨w.heap.size,k,none⟩) (Nat.le_refl _) (.int .u64 (o:Int)))
   clear hb2 C hR hB B2 hR2
   go_wp2_with fail
   go_round
   case rel=>exact ⟨k+1,by omega,by go_num,by rw [← eaL_set,uH eV];exact R3,B3⟩
   case measure=>simp [intOf];omega
  ·have hkk:k = n:=by omega
   subst hkk
   go_wp2_with fail
   exact bodyPost_ret (v:=.slice (some ⟨w.heap.size,0,none⟩) k k) (by simp [results,Tryz.results286,go_sem]) rfl ⟨_,rfl,Nat.le_refl _,by rw [← eaL_full];exact uH hR,hB.out⟩
end Go.Proofs.YtlnphkioddknfaaGreatDoor
namespace Go.Proofs.YtlnphkioddknfaaGreatDoor
open Go.RowKit
attribute [local go_sem ↓] Go.wp_at_zero Go.wp_at_succ
theorem cell_keep {w w':World} {p:Addr} {v:Value} (h:w.cell? p = some v) (hb:Below w.heap.size w w'):w'.cell? p = some v:=by
 rw [hb.cell (World.block_lt_of_cell? w _ h)];exact h
theorem dot1_of (s x y p o k n m c d bx by':Nat) (b1 o1 b2 o2:Nat) (w:World) (hk:k < n) (hm:k < m)
  (h1:w.cell? ⟨bx,0,none⟩ = some (.slice (some ⟨b1,o1,none⟩) n c)) (h2:w.cell? ⟨by',0,none⟩ = some (.slice (some ⟨b2,o2,none⟩) m d))
  (h3:w.cell? ⟨b1,o1+k,none⟩ = some (.int .u64 (x:Nat))) (h4:w.cell? ⟨b2,o2+k,none⟩ = some (.int .u64 (y:Nat)))
  (C1:∀ w',Below w.heap.size w w'→Calls Tryz.prog 165 #[.int .u64 x,.int .u64 y] w' fun r w''=>r = .returned (.int .u64 (p:Nat))∧Below w'.heap.size w' w'')
  (C2:∀ w',Below w.heap.size w w'→Calls Tryz.prog 239 #[.int .u64 s,.int .u64 p] w' fun r w''=>r = .returned (.int .u64 (o:Nat))∧Below w'.heap.size w' w'') :
  Calls Tryz.prog 238 #[.int .u64 s,.int .i64 k,.pointer (some ⟨bx,0,none⟩),.pointer (some ⟨by',0,none⟩)] w fun e w'=>e = .returned (.int .u64 (o:Nat))∧Below w.heap.size w w':=by
 have K1:=hide C1;have K2:=hide C2
 have hkI:(k:Int) < (n:Int):=by omega
 have hkJ:(k:Int) < (m:Int):=by omega
 have HK:=hide (fun w' (h:Below w.heap.size w w')=>(show Below w.heap.size w w'∧w'.cell? ⟨bx,0,none⟩ = some (.slice (some ⟨b1,o1,none⟩) n c)∧w'.cell? ⟨by',0,none⟩ = some (.slice (some ⟨b2,o2,none⟩) m d)∧w'.cell? ⟨b1,o1+k,none⟩ = some (.int .u64 (x:Nat))∧w'.cell? ⟨b2,o2+k,none⟩ = some (.int .u64 (y:Nat)) from
  ⟨h,cell_keep h1 h,cell_keep h2 h,cell_keep h3 h,cell_keep h4 h⟩))
 clear C1 C2 h1 h2 h3 h4
 go_enter Tryz.func238,Tryz.ntmps238
 go_wp2_with fail
 go_region_held3 (fun w'=>Below w.heap.size w w'∧w'.cell? ⟨bx,0,none⟩ = some (.slice (some ⟨b1,o1,none⟩) n c)∧w'.cell? ⟨by',0,none⟩ = some (.slice (some ⟨b2,o2,none⟩) m d)∧w'.cell? ⟨b1,o1+k,none⟩ = some (.int .u64 (x:Nat))∧w'.cell? ⟨b2,o2+k,none⟩ = some (.int .u64 (y:Nat)))
  (first | exact uH HK _ (Below.refl _ _).drew | exact uH HK _ (by assumption) | fail "KK")
  (first | (go_at_call 165;refine (uH K1 _ (And.left (by assumption))).mono ?_;rintro e w1 ⟨rfl,hb1⟩;have hB1:Below w.heap.size w w1:=Below.trans (And.left (by assumption)) (hb1.mono (Below.size (And.left (by assumption))));clear hb1) | (go_at_call 239;refine (uH K2 _ (And.left (by assumption))).mono ?_;rintro e w2 ⟨rfl,hb2⟩;have hB2:Below w.heap.size w w2:=Below.trans (And.left (by assumption)) (hb2.mono (Below.size (And.left (by assumption))));clear hb2) | fail "NO ARM")
 go_wp2
 go_ret
 exact ⟨rfl,And.left (by assumption)⟩
theorem norm1_of (x o k n c bx bk:Nat) (j:Int) (b1 o1:Nat) (w:World) (hk:k < n) (hj:-5000≤j∧j≤5000)
  (h1:w.cell? ⟨bx,0,none⟩ = some (.slice (some ⟨b1,o1,none⟩) n c)) (h5:w.cell? ⟨bk,0,none⟩ = some (.int .i64 j))
  (h3:w.cell? ⟨b1,o1+k,none⟩ = some (.int .u64 (x:Nat)))
  (C1:∀ w',Below w.heap.size w w'→Calls Tryz.prog 58 #[.int .u64 x,.int .i64 (-j)] w' fun r w''=>r = .returned (.int .u64 (o:Nat))∧Below w'.heap.size w' w'') :
  Calls Tryz.prog 287 #[.int .i64 k,.pointer (some ⟨bx,0,none⟩),.pointer (some ⟨bk,0,none⟩)] w fun e w'=>e = .returned (.int .u64 (o:Nat))∧Below w.heap.size w w':=by
 have K1:=hide C1
 have hkI:(k:Int) < (n:Int):=by omega
 have hw:IntKind.i64.wrap (-j) = -j:=by simp only [IntKind.wrap_i64];omega
 have HK:=hide (fun w' (h:Below w.heap.size w w')=>(show Below w.heap.size w w'∧w'.cell? ⟨bx,0,none⟩ = some (.slice (some ⟨b1,o1,none⟩) n c)∧w'.cell? ⟨b1,o1+k,none⟩ = some (.int .u64 (x:Nat))∧w'.cell? ⟨bk,0,none⟩ = some (.int .i64 j) from
  ⟨h,cell_keep h1 h,cell_keep h3 h,cell_keep h5 h⟩))
 clear C1 h1 h3 h5
 go_enter Tryz.func287,Tryz.ntmps287
 go_wp2_with fail
 go_region_held3 (fun w'=>Below w.heap.size w w'∧w'.cell? ⟨bx,0,none⟩ = some (.slice (some ⟨b1,o1,none⟩) n c)∧w'.cell? ⟨b1,o1+k,none⟩ = some (.int .u64 (x:Nat))∧w'.cell? ⟨bk,0,none⟩ = some (.int .i64 j))
  (first | exact uH HK _ (Below.refl _ _).drew | exact uH HK _ (by assumption) | fail "KK")
  (first | (go_at_call 58;refine (uH K1 _ (And.left (by assumption))).mono ?_;rintro e w1 ⟨rfl,hb1⟩;have hB1:Below w.heap.size w w1:=Below.trans (And.left (by assumption)) (hb1.mono (Below.size (And.left (by assumption))));clear hb1) | fail "NO ARM")
 go_wp2
 go_ret
 exact ⟨rfl,And.left (by assumption)⟩
theorem biggest1_of (m x r o k n c bx:Nat) (b1 o1:Nat) (w:World) (hk:k < n)
  (h1:w.cell? ⟨bx,0,none⟩ = some (.slice (some ⟨b1,o1,none⟩) n c))
  (h3:w.cell? ⟨b1,o1+k,none⟩ = some (.int .u64 (x:Nat)))
  (C1:∀ w',Below w.heap.size w w'→Calls Tryz.prog 63 #[.int .u64 x] w' fun e w''=>e = .returned (.int .u64 (r:Nat))∧Below w'.heap.size w' w'')
  (C2:∀ w',Below w.heap.size w w'→Calls Tryz.prog 115 #[.int .u64 m,.int .u64 r] w' fun e w''=>e = .returned (.int .u64 (o:Nat))∧Below w'.heap.size w' w'') :
  Calls Tryz.prog 114 #[.int .u64 m,.int .i64 k,.pointer (some ⟨bx,0,none⟩)] w fun e w'=>e = .returned (.int .u64 (o:Nat))∧Below w.heap.size w w':=by
 have K1:=hide C1;have K2:=hide C2
 have hkI:(k:Int) < (n:Int):=by omega
 clear C1 C2
 go_enter Tryz.func114,Tryz.ntmps114
 go_wp2_with fail
 refine (uH K1 _ (Below.refl _ _)).mono ?_
 rintro e w1 ⟨rfl,hb1⟩
 have B1:=hide hb1
 clear K1 hb1
 go_wp2_with fail
 refine (uH K2 _ (uH B1)).mono ?_
 rintro e w2 ⟨rfl,hb2⟩
 clear K2
 go_wp2
 go_ret
 exact ⟨rfl,(uH B1).trans (hb2.mono (uH B1).size)⟩
theorem finite1_of (q r:Bool) (x k n c bx:Nat) (b1 o1:Nat) (w:World) (hk:k < n)
  (h1:w.cell? ⟨bx,0,none⟩ = some (.slice (some ⟨b1,o1,none⟩) n c))
  (h3:w.cell? ⟨b1,o1+k,none⟩ = some (.int .u64 (x:Nat)))
  (C1:∀ w',Below w.heap.size w w'→Calls Tryz.prog 111 #[.int .u64 x] w' fun e w''=>e = .returned (.bool r)∧Below w'.heap.size w' w'') :
  Calls Tryz.prog 194 #[.bool q,.int .i64 k,.pointer (some ⟨bx,0,none⟩)] w fun e w'=>e = .returned (.bool (q && r))∧Below w.heap.size w w':=by
 have K1:=hide C1
 have hkI:(k:Int) < (n:Int):=by omega
 clear C1
 cases q
 ·go_enter Tryz.func194,Tryz.ntmps194
  go_wp2
  go_ret
  exact ⟨rfl,Below.refl _ _⟩
 ·go_enter Tryz.func194,Tryz.ntmps194
  go_wp2_with fail
  refine (uH K1 _ (Below.refl _ _)).mono ?_
  rintro e w1 ⟨rfl,hb1⟩
  clear K1
  go_wp2
  go_ret
  exact ⟨rfl,hb1⟩
end Go.Proofs.YtlnphkioddknfaaGreatDoor
namespace Go.Proofs.YtlnphkioddknfaaGreatDoor
open Go.RowKit
attribute [local go_sem ↓] Go.wp_at_zero Go.wp_at_succ
theorem new_cell (w:World) (x:Value) (t:TypeId):(w.alloc (.cells #[x] t)).cell? ⟨w.heap.size,0,none⟩ = some x:=by
 rw [cell_of_row _ _ 0 _ _ _ (heap_alloc_new w _)];rfl
theorem size_alloc9 (w:World) (o:Obj):(w.alloc o).heap.size = w.heap.size+1:=by simp
theorem below_alloc9 (w:World) (o:Obj):Below w.heap.size w (w.alloc o):=(Below.refl _ _).alloc (Nat.le_refl _) o
theorem BitsAt.lt {w:World} {ao:Option Addr} {cap:Nat} {I:List Int} (h:BitsAt w ao cap I) (j:Nat):atB I j < 18446744073709551616:=(h.wf j).2
def dtK (I J:List Int):Nat→Nat
 | 0=>0
 | k+1=>aV (dtK I J k) (mV (atB I k) (atB J k))
def bgK (I:List Int):Nat→Nat
 | 0=>0
 | k+1=>mx (bgK I k) (fR (atB I k))
def fnK (I:List Int):Nat→Bool
 | 0=>true
 | k+1=>fnK I k && fFin (atB I k)
theorem dtK_lt (I J:List Int) (k:Nat):dtK I J k < 18446744073709551616:=by
 induction k with
 | zero=>show 0 < 18446744073709551616;omega
 | succ k ih=>exact aV_lt _ _ ih (mV_lt _ _)
theorem mx_lt (a b:Nat) (ha:a < 18446744073709551616) (hb:b < 18446744073709551616):mx a b < 18446744073709551616:=by
 unfold mx
 repeat' split
 all_goals omega
theorem bgK_lt (I:List Int) (k:Nat):bgK I k < 18446744073709551616:=by
 induction k with
 | zero=>show 0 < 18446744073709551616;omega
 | succ k ih=>exact mx_lt _ _ ih (by have:=fR_lt (atB I k);omega)
theorem dot_of (ao bo:Option Addr) (n m c d r:Nat) (w:World)
  (C:Calls Tryz.prog 113 #[.int .i64 n,.int .u64 0,.func (.func 238) #[] #[.pointer (some ⟨w.heap.size,0,none⟩),.pointer (some ⟨w.heap.size+1,0,none⟩)]] ((w.alloc (.cells #[.slice ao n c] 22)).alloc (.cells #[.slice bo m d] 22)) fun e w''=>e = .returned (.int .u64 (r:Nat))∧Below w.heap.size w w'') :
  Calls Tryz.prog 216 #[.slice ao n c,.slice bo m d] w fun e w'=>e = .returned (.int .u64 (r:Nat))∧Below w.heap.size w w':=by
 have K:=hide C
 clear C
 go_enter Tryz.func216,Tryz.ntmps216
 go_wp2_with fail
 refine Calls.mono (uH K) ?_
 rintro e w1 ⟨rfl,hb1⟩
 clear K
 go_wp2
 go_ret
 exact ⟨rfl,hb1⟩
theorem cfDot1 (args:Array Value) (w:World):(callFunc 238 args).run Tryz.prog w = .ok (.enter 238 args) w:=by
 simp only [callFunc,go_sem]
 rfl
theorem dot_any (ao bo:Option Addr) (c d:Nat) (I J:List Int) (w:World) (hI:BitsAt w ao c I) (hJ:BitsAt w bo d J) (hl:I.length = J.length) (hn:I.length≤35184372088830) (hT:Tab w) :
  Calls Tryz.prog 216 #[.slice ao I.length c,.slice bo J.length d] w fun e w'=>e = .returned (.int .u64 (dtK I J I.length:Nat))∧Below w.heap.size w w':=by
 refine dot_of _ _ _ _ _ _ _ w ?_
 have b1:=below_alloc9 w (.cells #[.slice ao I.length c] 22)
 have x1:=new_cell w (.slice ao I.length c) 22
 have s1:=size_alloc9 w (.cells #[.slice ao I.length c] 22)
 generalize w.alloc (.cells #[.slice ao I.length c] 22) = w1 at *
 have b2:=below_alloc9 w1 (.cells #[.slice bo J.length d] 22)
 have x2:=new_cell w1 (.slice bo J.length d) 22
 have y1:=cell_keep x1 b2
 generalize w1.alloc (.cells #[.slice bo J.length d] 22) = w2 at *
 have bb:Below w.heap.size w w2:=b1.trans (b2.mono b1.size)
 rw [s1] at x2
 refine Calls.mono (gatherB_any 238 #[.pointer (some ⟨w.heap.size,0,none⟩),.pointer (some ⟨w.heap.size+1,0,none⟩)] I.length (dtK I J) w2 cfDot1 hn ?_) ?_
 ·intro w' k hb hk
  have hb':Below w.heap.size w w':=bb.trans (hb.mono bb.size)
  obtain ⟨g1,o1,e1,_,z1⟩:=(hI.below hb').ne (by omega)
  obtain ⟨g2,o2,e2,_,z2⟩:=(hJ.below hb').ne (by omega)
  have u1:=cell_keep y1 hb
  have u2:=cell_keep x2 hb
  rw [e1] at u1
  rw [e2] at u2
  have T':=hT.all hb'
  exact dot1_of (dtK I J k) (atB I k) (atB J k) (mV (atB I k) (atB J k)) (dtK I J (k+1)) k I.length J.length c d w.heap.size (w.heap.size+1) g1 o1 g2 o2 w' hk (by omega) u1 u2 (z1 k hk) (z2 k (by omega))
   (fun w'' h=>vmul_any _ _ w'' (hI.lt k) (hJ.lt k) (T'.all h)) (fun w'' h=>vadd_any _ _ w'' (dtK_lt I J k) (mV_lt _ _) (T'.all h))
 ·rintro e w' ⟨rfl,hb⟩
  exact ⟨rfl,bb.trans (hb.mono bb.size)⟩
theorem dotF_ok (ao bo:Option Addr) (n m c d r:Nat) (w:World)
  (F:∀ w',Calls Tryz.prog 215 #[.slice ao n c,.slice bo m d] w' fun e w''=>e = .returned (.bool true)∧w' = w'')
  (C:Calls Tryz.prog 216 #[.slice ao n c,.slice bo m d] w fun e w''=>e = .returned (.int .u64 (r:Nat))∧Below w.heap.size w w'') :
  Calls Tryz.prog 183 #[.slice ao n c,.slice bo m d] w fun e w'=>e = .returned (.tuple #[.int .u64 (r:Nat),.int .i64 0])∧Below w.heap.size w w':=by
 have K:=hide C;have L:=hide F
 clear C F
 go_enter Tryz.func183,Tryz.ntmps183
 go_wp2_with fail
 refine (uH L _).mono ?_
 rintro e w1 ⟨rfl,rfl⟩
 go_wp2_with fail
 refine Calls.mono (uH K) ?_
 rintro e w1 ⟨rfl,hb1⟩
 clear K L
 go_wp2
 exact bodyPost_ret (v:=.tuple #[.int .u64 (r:Nat),.int .i64 0]) (by simp [results,Tryz.results183,go_sem]) rfl ⟨rfl,hb1⟩
theorem dotF_no (ao bo:Option Addr) (n m c d:Nat) (w:World)
  (F:∀ w',Calls Tryz.prog 215 #[.slice ao n c,.slice bo m d] w' fun e w''=>e = .returned (.bool false)∧w' = w'') :
  Calls Tryz.prog 183 #[.slice ao n c,.slice bo m d] w fun e w'=>e = .returned (.tuple #[.int .u64 0,.int .i64 3])∧Below w.heap.size w w':=by
 have L:=hide F
 clear F
 go_enter Tryz.func183,Tryz.ntmps183
 go_wp2_with fail
 refine (uH L _).mono ?_
 rintro e w1 ⟨rfl,rfl⟩
 clear L
 go_wp2
 exact bodyPost_ret (v:=.tuple #[.int .u64 0,.int .i64 3]) (by simp [results,Tryz.results183,go_sem]) rfl ⟨rfl,Below.refl _ _⟩
def goB (I J:List Int):Bool:=decide (I.length≤64∧I.length = J.length)
theorem vDot_any (ao bo:Option Addr) (c d:Nat) (I J:List Int) (w:World) (hI:BitsAt w ao c I) (hJ:BitsAt w bo d J) (hT:Tab w) :
  Calls Tryz.prog 183 #[.slice ao I.length c,.slice bo J.length d] w fun e w'=>e = .returned (.tuple #[.int .u64 (if goB I J = true then dtK I J I.length else 0:Nat),.int .i64 (if goB I J = true then 0 else 3)])∧Below w.heap.size w w':=by
 have F:=fun w'=>vfit_any ao bo I.length J.length c d w'
 cases h:goB I J
 ·unfold goB at h
  rw [h] at F
  exact dotF_no ao bo _ _ c d w F
 ·unfold goB at h
  rw [h] at F
  have h':=of_decide_eq_true h
  exact dotF_ok ao bo _ _ c d _ w F (dot_any ao bo c d I J w hI hJ h'.2 (by omega) hT)
theorem RowB.bits {w:World} {g:Nat} {S:List Nat} (h:RowB w g S) (hf:∀ x ∈ S,x < 18446744073709551616):BitsAt w (some ⟨g,0,none⟩) S.length (S.map (fun x:Nat=>(x:Int))):=by
 refine ⟨by simp,?_,.inr ⟨g,0,rfl,h.lt,fun i hi=>?_⟩⟩
 ·intro x hx
  obtain ⟨y,hy,rfl⟩:=List.mem_map.1 hx
  have:=hf y hy
  omega
 ·have hi':i < S.length:=by simpa using hi
  rw [Nat.zero_add,h.cell i hi']
  simp [hi']
def mkL (n:Nat) (f:Nat→Nat):List Int:=((List.range n).map f).map (fun x:Nat=>(x:Int))
theorem mkL_len (n:Nat) (f:Nat→Nat):(mkL n f).length = n:=by simp [mkL]
theorem mkL_at (n:Nat) (f:Nat→Nat) (j:Nat) (hj:j < n):atB (mkL n f) j = f j:=by simp [mkL,atB,hj]
theorem cfBiggest1 (args:Array Value) (w:World):(callFunc 114 args).run Tryz.prog w = .ok (.enter 114 args) w:=by
 simp only [callFunc,go_sem]
 rfl
theorem cfFinite1 (args:Array Value) (w:World):(callFunc 194 args).run Tryz.prog w = .ok (.enter 194 args) w:=by
 simp only [callFunc,go_sem]
 rfl
theorem cfNorm1 (args:Array Value) (w:World):(callFunc 287 args).run Tryz.prog w = .ok (.enter 287 args) w:=by
 simp only [callFunc,go_sem]
 rfl
end Go.Proofs.YtlnphkioddknfaaGreatDoor
