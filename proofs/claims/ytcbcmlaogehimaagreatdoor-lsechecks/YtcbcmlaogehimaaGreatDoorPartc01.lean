/- Part 1 of the texts. -/
import Derived.WalkKit
import Derived.WalkSpells
import Derived.WalkLawsBesides
import Derived.Deep.RegionHeld3
import Derived.Deep.DrawnRows
import Derived.Deep.RegionWith
import Derived.BigQuiet
import Derived.Outline
import Derived.Test.YtcbcmlaogehimaaGreatDoorProg
import Derived.Deep.QuietTactic
set_option maxHeartbeats 400000
namespace Go.Proofs.YtcbcmlaogehimaaGreatDoor
open Go.RowKit
def LimbsAt (w:World) (ao:Option Addr) (cap:Nat) (L:List Nat):Prop :=
 L.length≤cap∧(∀ x ∈ L,x < 4294967296)∧(L = [] ∨ ∃ b off,ao = some ⟨b,off,none⟩∧b < w.heap.size∧∀ i,i < L.length→w.cell? ⟨b,off+i,none⟩ = some (.int .u32 ((L[i]?.getD 0:Nat):Int)))
def NewAt (B:Nat) (ao:Option Addr) (L:List Nat):Prop:=L = [] ∨ ∃ b off,ao = some ⟨b,off,none⟩∧B≤b
theorem LimbsAt.below {w w':World} {ao:Option Addr} {cap:Nat} {L:List Nat} (h:LimbsAt w ao cap L) (hb:Below w.heap.size w w'):LimbsAt w' ao cap L:=by
 refine ⟨h.1,h.2.1,?_⟩
 rcases h.2.2 with h | ⟨b,off,h1,h2,h3⟩
 ·exact .inl h
 ·refine .inr ⟨b,off,h1,Nat.lt_of_lt_of_le h2 hb.size,fun i hi=>?_⟩
  rw [hb.cell (p:=⟨b,off+i,none⟩) h2]
  exact h3 i hi
theorem LimbsAt.nil (w:World) (ao:Option Addr) (cap:Nat):LimbsAt w ao cap []:=⟨Nat.zero_le _,by simp,.inl rfl⟩
theorem LimbsAt.take {w:World} {ao:Option Addr} {cap:Nat} {L:List Nat} (h:LimbsAt w ao cap L) (n:Nat):LimbsAt w ao cap (L.take n):=by
 refine ⟨Nat.le_trans (List.length_take_le' n L) h.1,fun x hx=>h.2.1 x (List.mem_of_mem_take hx),?_⟩
 rcases h.2.2 with h0 | ⟨b,off,h1,h2,h3⟩
 ·left;simp [h0]
 ·refine .inr ⟨b,off,h1,h2,fun i hi=>?_⟩
  have hi':=hi
  rw [List.length_take] at hi'
  rw [h3 i (by omega),List.getElem?_take,if_pos (by omega)]
theorem LimbsAt.lt {w:World} {ao:Option Addr} {cap:Nat} {L:List Nat} (h:LimbsAt w ao cap L) (i:Nat):L[i]?.getD 0 < 4294967296:=by
 by_cases hi:i < L.length
 ·rw [List.getElem?_eq_getElem hi];exact h.2.1 _ (List.getElem_mem hi)
 ·rw [List.getElem?_eq_none (by omega)];decide
theorem ret_int {k:IntKind} {a b:Int} (h:a = b):Ending.returned (.int k a) = .returned (.int k b):=by rw [h]
theorem ret_bool {a b:Bool} (h:a = b):Ending.returned (.bool a) = .returned (.bool b):=by rw [h]
theorem hide {p:Prop} (h:p):Hid p:=h
theorem uH {p:Prop} (h:Hid p):p:=h
end Go.Proofs.YtcbcmlaogehimaaGreatDoor
namespace Go.Proofs.YtcbcmlaogehimaaGreatDoor
open Go.RowKit
theorem at_world {P:Program} {c:Code} {Q:Exit→Act→World→Prop} {a:Act} {w:World} (F:World→Prop) (h:F w) (k:∀ W,F W→Code.wp P c Q a W):Code.wp P c Q a w:=k w h
def Box2 (w:World) (b:Nat) (x y:Value):Prop:=w.heap[b]? = some (.cells #[x,y] 33 (0,0))
theorem Box2.c0 {w:World} {b:Nat} {x y:Value} (h:Box2 w b x y):w.cell? ⟨b,0,none⟩ = some x:=by rw [cell_of_row w b 0 _ _ _ h];rfl
theorem Box2.c1 {w:World} {b:Nat} {x y:Value} (h:Box2 w b x y):w.cell? ⟨b,1,none⟩ = some y:=by rw [cell_of_row w b 1 _ _ _ h];rfl
theorem Box2.free {w:World} {b:Nat} {x y:Value} (h:Box2 w b x y) (j:Nat):w.frozen? ⟨b,j,none⟩ = false:=frozen_of_row w b j _ _ h
theorem Box2.lt {w:World} {b:Nat} {x y:Value} (h:Box2 w b x y):b < w.heap.size:=(Array.getElem?_eq_some_iff.1 h).1
theorem Box2.below {w w':World} {b:Nat} {x y:Value} (h:Box2 w b x y) {B:Nat} (hb:Below B w w') (hlt:b < B):Box2 w' b x y:=(hb.block b hlt).trans h
theorem Box2.new (w:World) (x y:Value):Box2 (w.alloc (.cells #[x,y] 33)) w.heap.size x y:=heap_alloc_new w _
theorem Box2.old {w:World} {b:Nat} {x y:Value} (h:Box2 w b x y) (o:Obj):Box2 (w.alloc o) b x y:=by
 unfold Box2;rw [Below.heap_alloc w o b h.lt];exact h
theorem Box2.drew {w:World} {b:Nat} {x y:Value} (h:Box2 w b x y):Box2 w.drew b x y:=h
theorem Box2.drewN {w:World} {b:Nat} {x y:Value} (h:Box2 w b x y) (n:Nat):Box2 (w.drewN n) b x y:=h
end Go.Proofs.YtcbcmlaogehimaaGreatDoor
namespace Go.Proofs.YtcbcmlaogehimaaGreatDoor
def val:List Nat→Nat
 | []=>0
 | x :: r=>x+4294967296 * val r
def Canon (L:List Nat):Prop:=L = [] ∨ L[L.length - 1]?.getD 0 ≠ 0
def Fits (L:List Nat):Prop:=∀ x ∈ L,x < 4294967296
theorem val_append (A B:List Nat):val (A ++ B) = val A+4294967296 ^ A.length * val B:=by
 induction A with
 | nil=>simp [val]
 | cons x r ih=>simp only [List.cons_append,val,ih,List.length_cons,Nat.pow_succ];rw [Nat.mul_add,← Nat.mul_assoc,Nat.mul_comm 4294967296 (4294967296 ^ r.length)];omega
theorem val_take_succ (L:List Nat) (k:Nat):val (L.take (k+1)) = val (L.take k)+4294967296 ^ k * (L[k]?.getD 0):=by
 by_cases h:k < L.length
 ·rw [List.take_succ_eq_append_getElem h,val_append,List.getElem?_eq_getElem h]
  simp [val,Nat.min_eq_left (Nat.le_of_lt h)]
 ·rw [List.take_of_length_le (by omega),List.take_of_length_le (by omega),List.getElem?_eq_none (by omega)];simp
theorem val_take_all (L:List Nat) (k:Nat) (h:L.length≤k):val (L.take k) = val L:=by rw [List.take_of_length_le h]
theorem val_lt (L:List Nat) (h:Fits L):val L < 4294967296 ^ L.length:=by
 induction L with
 | nil=>simp [val]
 | cons x r ih =>
  have h1:=ih (fun y hy=>h y (by simp [hy]))
  have h2:=h x (by simp)
  simp only [val,List.length_cons,Nat.pow_succ]
  have h3:val r+1≤4294967296 ^ r.length:=h1
  have h4:=Nat.mul_le_mul_right 4294967296 h3
  omega
theorem Fits.take {L:List Nat} (h:Fits L) (n:Nat):Fits (L.take n):=fun x hx=>h x (List.mem_of_mem_take hx)
theorem Fits.tail {x:Nat} {r:List Nat} (h:Fits (x :: r)):Fits r:=fun y hy=>h y (by simp [hy])
theorem val_take_lt (L:List Nat) (h:Fits L) (k:Nat):val (L.take k) < 4294967296 ^ k:=by
 have h1:=val_lt _ (h.take k)
 refine Nat.lt_of_lt_of_le h1 (Nat.pow_le_pow_right (by decide) ?_)
 simp;omega
theorem val_ge (L:List Nat) (h:L[L.length - 1]?.getD 0 ≠ 0):4294967296 ^ (L.length - 1)≤val L:=by
 have hp:0 < L.length:=by
  rcases Nat.eq_zero_or_pos L.length with e | e
  ·have:L = []:=List.length_eq_zero_iff.1 e
   subst this;simp at h
  ·exact e
 have h1:=val_take_succ L (L.length - 1)
 rw [show L.length - 1+1 = L.length by omega,List.take_length] at h1
 rw [h1]
 have h2:=Nat.mul_le_mul_left (4294967296 ^ (L.length - 1)) (show 1≤L[L.length - 1]?.getD 0 by omega)
 omega
theorem eq_of_val:∀ (A B:List Nat),Fits A→Fits B→A.length = B.length→val A = val B→A = B
 | [],[],_,_,_,_=>rfl
 | [],_ :: _,_,_,h,_=>by simp at h
 | _ :: _,[],_,_,h,_=>by simp at h
 | x :: r,y :: s,hA,hB,hl,hv=>by
  have hx:=hA x (by simp)
  have hy:=hB y (by simp)
  simp only [val] at hv
  have e1:x = y:=by omega
  have e2:val r = val s:=by omega
  rw [e1,eq_of_val r s hA.tail hB.tail (by simpa using hl) e2]
theorem length_le_of_val (A B:List Nat) (hB:Fits B) (cA:Canon A) (h:val A≤val B):A.length≤B.length:=by
 rcases cA with rfl | hA
 ·simp
 ·have h1:=val_ge A hA
  have h2:=val_lt B hB
  have h3:4294967296 ^ (A.length - 1) < 4294967296 ^ B.length:=by omega
  have h4:=(Nat.pow_lt_pow_iff_right (show 1 < 4294967296 by decide)).1 h3
  omega
theorem eq_of_canon (A B:List Nat) (hA:Fits A) (hB:Fits B) (cA:Canon A) (cB:Canon B) (h:val A = val B):A = B :=
 eq_of_val A B hA hB (Nat.le_antisymm (length_le_of_val A B hB cA (by omega)) (length_le_of_val B A hA cB (by omega))) h
theorem val_zero_of_canon (A:List Nat) (cA:Canon A):val A = 0 ↔ A = []:=by
 constructor
 ·intro h
  rcases cA with rfl | hA
  ·rfl
  ·have h1:=val_ge A hA
   have h2:0 < 4294967296 ^ (A.length - 1):=Nat.pow_pos (by decide)
   omega
 ·rintro rfl;rfl
theorem length_le_iff (A:List Nat) (hA:Fits A) (cA:Canon A) (k:Nat):A.length≤k ↔ val A < 4294967296 ^ k:=by
 constructor
 ·intro h
  exact Nat.lt_of_lt_of_le (val_lt A hA) (Nat.pow_le_pow_right (by decide) h)
 ·intro h
  rcases cA with rfl | c
  ·simp
  ·have h1:=val_ge A c
   have h3:4294967296 ^ (A.length - 1) < 4294967296 ^ k:=by omega
   have h4:=(Nat.pow_lt_pow_iff_right (show 1 < 4294967296 by decide)).1 h3
   omega
theorem val_take_pred (L:List Nat) (n:Nat) (h:L[n - 1]?.getD 0 = 0):val (L.take (n - 1)) = val (L.take n):=by
 rcases Nat.eq_zero_or_pos n with rfl | hp
 ·rfl
 ·have h1:=val_take_succ L (n - 1)
  rw [h,show n - 1+1 = n by omega] at h1
  omega
theorem val_ext:∀ (A B:List Nat),(∀ i:Nat,A[i]?.getD 0 = B[i]?.getD 0)→val A = val B
 | [],[],_=>rfl
 | [],y :: s,h=>by
  have h0:=h 0
  have hr:=val_ext [] s (fun i=>by have:=h (i+1);simpa using this)
  simp at h0;simp only [val] at hr ⊢;omega
 | x :: r,[],h=>by
  have h0:=h 0
  have hr:=val_ext r [] (fun i=>by have:=h (i+1);simpa using this)
  simp at h0;simp only [val] at hr ⊢;omega
 | x :: r,y :: s,h=>by
  have h0:=h 0
  have hr:=val_ext r s (fun i=>by have:=h (i+1);simpa using this)
  simp at h0;simp only [val];omega
theorem val_split (L:List Nat) (k:Nat):val L = val (L.take k)+4294967296 ^ k * val (L.drop k):=by
 by_cases h:k≤L.length
 ·have h1:=val_append (L.take k) (L.drop k)
  rw [List.take_append_drop,List.length_take,Nat.min_eq_left h] at h1
  exact h1
 ·rw [List.take_of_length_le (by omega),List.drop_of_length_le (by omega)];simp [val]
theorem lt_of_top (A B:List Nat) (hA:Fits A) (t:Nat) (heq:∀ i,t < i→A[i]?.getD 0 = B[i]?.getD 0) (hlt:A[t]?.getD 0 < B[t]?.getD 0):val A < val B:=by
 have a1:=val_split A (t+1)
 have b1:=val_split B (t+1)
 have a2:=val_take_succ A t
 have b2:=val_take_succ B t
 have a3:=val_take_lt A hA t
 have e:val (A.drop (t+1)) = val (B.drop (t+1)):=val_ext _ _ (fun i=>by
  have:=heq (t+1+i) (by omega)
  simpa [List.getElem?_drop] using this)
 rw [e] at a1
 have m:=Nat.mul_le_mul_left (4294967296 ^ t) (show A[t]?.getD 0+1≤B[t]?.getD 0 by omega)
 rw [Nat.mul_add,Nat.mul_one] at m
 omega
theorem set_take (S:List Nat) (k x:Nat):(S.set k x).take k = S.take k:=by
 rw [List.take_set]
 exact List.set_eq_of_length_le (by simp;omega)
theorem val_set_take (S:List Nat) (k x:Nat) (h:k < S.length):val ((S.set k x).take (k+1)) = val (S.take k)+4294967296 ^ k * x:=by
 rw [val_take_succ,set_take,List.getElem?_set_self h];rfl
theorem pow_step (P b t:Nat):P * (t % b)+P * b * (t / b) = P * t:=by
 rw [Nat.mul_assoc,← Nat.mul_add,Nat.mod_add_div]
theorem Fits.set {S:List Nat} (h:Fits S) (k x:Nat) (hx:x < 4294967296):Fits (S.set k x):=fun y hy=>by
 rcases List.mem_or_eq_of_mem_set hy with h1 | h1
 ·exact h y h1
 ·omega
theorem Fits.zeros (n:Nat):Fits (List.replicate n 0):=fun y hy=>by simp at hy;omega
theorem add_step (A B S:List Nat) (k c x y:Nat) (hk:k < S.length) (hx:A[k]?.getD 0 = x) (hy:B[k]?.getD 0 = y) (h:val (S.take k)+4294967296 ^ k * c = val (A.take k)+val (B.take k)) :
  val ((S.set k ((c+(x+y)) % 4294967296)).take (k+1))+4294967296 ^ (k+1) * ((c+(x+y)) / 4294967296) = val (A.take (k+1))+val (B.take (k+1)):=by
 rw [val_set_take S k _ hk,val_take_succ A k,val_take_succ B k,hx,hy]
 have e:=pow_step (4294967296 ^ k) 4294967296 (c+(x+y))
 rw [Nat.pow_succ]
 rw [Nat.mul_add,Nat.mul_add] at e
 omega
theorem add_end (A B S:List Nat) (n c:Nat) (hA:Fits A) (hB:Fits B) (ha:A.length+1≤n) (hb:B.length+1≤n) (hn:S.length = n) (h:val (S.take n)+4294967296 ^ n * c = val (A.take n)+val (B.take n)) :
  val S = val A+val B:=by
 rw [val_take_all S n (by omega),val_take_all A n (by omega),val_take_all B n (by omega)] at h
 have h1:val A < 4294967296 ^ (n - 1):=Nat.lt_of_lt_of_le (val_lt A hA) (Nat.pow_le_pow_right (by decide) (by omega))
 have h2:val B < 4294967296 ^ (n - 1):=Nat.lt_of_lt_of_le (val_lt B hB) (Nat.pow_le_pow_right (by decide) (by omega))
 have h3:4294967296 ^ n = 4294967296 ^ (n - 1) * 4294967296:=by rw [← Nat.pow_succ];congr 1;omega
 rcases Nat.eq_zero_or_pos c with hc | hc
 ·subst hc;omega
 ·have h4:=Nat.mul_le_mul_left (4294967296 ^ n) hc
  omega
end Go.Proofs.YtcbcmlaogehimaaGreatDoor
namespace Go.Proofs.YtcbcmlaogehimaaGreatDoor
open Go.RowKit
def limbV (x:Nat):Value:=.int .u32 (x:Int)
def RowAt (w:World) (g:Nat) (S:List Nat):Prop:=w.heap[g]? = some (.cells (S.map limbV).toArray 84 (0,0))
theorem RowAt.cell {w:World} {g:Nat} {S:List Nat} (h:RowAt w g S) (j:Nat) (hj:j < S.length):w.cell? ⟨g,j,none⟩ = some (.int .u32 ((S[j]?.getD 0:Nat):Int)):=by
 rw [cell_of_row w g j _ _ _ h]
 simp [limbV,hj]
theorem RowAt.free {w:World} {g:Nat} {S:List Nat} (h:RowAt w g S) (j:Nat):w.frozen? ⟨g,j,none⟩ = false:=frozen_of_row w g j _ _ h
theorem RowAt.set {w:World} {g:Nat} {S:List Nat} (h:RowAt w g S) (j x:Nat):RowAt (w.setCell ⟨g,j,none⟩ (.int .u32 (x:Int))) g (S.set j x):=by
 unfold RowAt
 rw [heap_setCell_same w g j _ _ _ h]
 simp [List.map_set,limbV]
theorem RowAt.lt {w:World} {g:Nat} {S:List Nat} (h:RowAt w g S):g < w.heap.size:=(Array.getElem?_eq_some_iff.1 h).1
theorem RowAt.limbs {w:World} {g:Nat} {S:List Nat} (h:RowAt w g S) (hf:Fits S) (cap:Nat) (hc:S.length≤cap):LimbsAt w (some ⟨g,0,none⟩) cap S :=
 ⟨hc,hf,.inr ⟨g,0,rfl,h.lt,fun i hi=>by rw [Nat.zero_add];exact h.cell i hi⟩⟩
theorem RowAt.drewN {w:World} {g:Nat} {S:List Nat} (h:RowAt w g S) (n:Nat):RowAt (w.drewN n) g S:=h
theorem RowAt.made {w:World} {base g n:Nat} (h:w.ownsRow base 84 1 (.slice (some ⟨g,0,none⟩) n n) n (madeCells (Value.int .u32 0).cells (n * 1)).toList):RowAt w g (List.replicate n 0):=by
 rcases h.2 with ⟨h',_⟩ | ⟨g',cap',cur,h',_,hg,_,_,hs,htake⟩
 ·simp at h'
 ·simp only [Value.slice.injEq,Option.some.injEq,Addr.mk.injEq,and_true,true_and] at h'
  obtain ⟨rfl,rfl⟩:=h'
  unfold RowAt
  rw [hg]
  rw [List.take_of_length_le (by simp [hs])] at htake
  have:cur = ((List.replicate n 0).map limbV).toArray:=by
   apply Array.toList_inj.1
   rw [htake]
   refine List.ext_getElem (by simp [madeCells]) fun i h1 h2=>?_
   simp [madeCells,Value.cells,limbV,Nat.mod_one]
  rw [this]
end Go.Proofs.YtcbcmlaogehimaaGreatDoor
namespace Go.Proofs.YtcbcmlaogehimaaGreatDoor
open Go.RowKit
def rightB (neg:Bool) (L:List Nat):Bool:=decide (L.length≤512) && !(decide (L.length = 0) && neg) && (decide (L.length = 0) || !decide (L[L.length - 1]?.getD 0 = 0))
def chkE (neg:Bool) (L:List Nat):Int:=if rightB neg L then 0 else 1
theorem check_any (neg:Bool) (ao:Option Addr) (cap:Nat) (L:List Nat) (w:World) (h:LimbsAt w ao cap L) (hl:L.length≤35184372088830) :
  Calls Tryz.prog 234 #[.agg #[.bool neg,.slice ao L.length cap]] w fun e w'=>e = .returned (.int .i64 (chkE neg L))∧Below w.heap.size w w':=by
 rcases h.2.2 with h0 | ⟨b,off,rfl,hb,hc⟩
 ·subst h0
  cases neg
  all_goals
   go_enter Tryz.func234,Tryz.ntmps234
   go_wp2
   go_ret
   exact ⟨ret_int (by simp [chkE,rightB]),(Below.refl _ _).alloc (Nat.le_refl _) _⟩
 ·by_cases h0:L = []
  ·subst h0
   cases neg
   all_goals
    go_enter Tryz.func234,Tryz.ntmps234
    go_wp2
    go_ret
    exact ⟨ret_int (by simp [chkE,rightB]),(Below.refl _ _).alloc (Nat.le_refl _) _⟩
  ·have hp:0 < L.length:=List.length_pos_iff.2 h0
   have hc1:=hc (L.length - 1) (by omega)
   have hx:=h.2.1
   clear h h0 hc
   have HE:Hid (chkE neg L = if L.length≤512∧(L[L.length - 1]?.getD 0) ≠ 0 then 0 else 1):=by
    have e0:L ≠ []:=by intro e;simp [e] at hp
    unfold Hid;simp [chkE,rightB,e0]
   generalize hn:L.length = n at *
   generalize L[n - 1]?.getD 0 = x at *
   generalize chkE neg L = ce at *
   clear hn hx
   have hne:((n:Int) == 0) = false:=by simp;omega
   have hgt:(0:Int) < (n:Int):=by omega
   by_cases h5:n≤512
   ·by_cases hx0:x = 0
    ·subst hx0
     go_enter Tryz.func234,Tryz.ntmps234
     go_wp2
     go_ret
     exact ⟨ret_int (by rw [HE.out];simp),(Below.refl _ _).alloc (Nat.le_refl _) _⟩
    ·have hx1:((x:Int) == 0) = false:=by simp;omega
     go_enter Tryz.func234,Tryz.ntmps234
     go_wp2
     go_ret
     exact ⟨ret_int (by rw [HE.out];simp [h5,hx0]),(Below.refl _ _).alloc (Nat.le_refl _) _⟩
   ·go_enter Tryz.func234,Tryz.ntmps234
    go_wp2
    go_ret
    exact ⟨ret_int (by rw [HE.out];simp [h5]),(Below.refl _ _).alloc (Nat.le_refl _) _⟩
theorem limbAt_any (ao:Option Addr) (cap:Nat) (L:List Nat) (i:Int) (k:Nat) (w:World) (h:LimbsAt w ao cap L) (hl:L.length≤35184372088830) (hk:i = (k:Int)) :
  Calls Tryz.prog 285 #[.slice ao L.length cap,.int .i64 i] w fun e w'=>e = .returned (.int .u64 ((L[k]?.getD 0:Nat):Int))∧w = w':=by
 subst hk
 by_cases hlt:k < L.length
 ·rcases h.2.2 with h0 | ⟨b,off,rfl,hb,hc⟩
  ·subst h0;simp at hlt
  ·have hc1:=hc k hlt
   have hx:L[k]?.getD 0 < 4294967296:=by rw [List.getElem?_eq_getElem hlt];exact h.2.1 _ (List.getElem_mem hlt)
   clear h hc
   generalize L[k]?.getD 0 = x at *
   generalize L.length = n at *
   go_enter Tryz.func285,Tryz.ntmps285
   go_wp2
   go_ret
   exact ⟨rfl,rfl⟩
 ·have hx:L[k]?.getD 0 = 0:=by rw [List.getElem?_eq_none (by omega)];rfl
  rw [hx]
  clear h hx
  generalize L.length = n at *
  go_enter Tryz.func285,Tryz.ntmps285
  go_wp2
  go_ret
  exact ⟨rfl,rfl⟩
def cmpI (a b:Int):Int:=if a < b then -1 else if b < a then 1 else 0
theorem isNaNi_any (a:Int) (w:World):Calls Tryz.prog 306 #[.int .i64 a] w fun e w'=>e = .returned (.bool false)∧w = w':=by
 go_enter Tryz.func306,Tryz.ntmps306
 go_wp2
 go_ret
 exact ⟨rfl,rfl⟩
theorem isNaNu_any (a:Int) (w:World):Calls Tryz.prog 307 #[.int .u32 a] w fun e w'=>e = .returned (.bool false)∧w = w':=by
 go_enter Tryz.func307,Tryz.ntmps307
 go_wp2
 go_ret
 exact ⟨rfl,rfl⟩
theorem cmpi_any (a b:Int) (w:World):Calls Tryz.prog 304 #[.int .i64 a,.int .i64 b] w fun e w'=>e = .returned (.int .i64 (cmpI a b))∧w = w':=by
 have HE:Hid (cmpI a b = if a < b then -1 else if b < a then 1 else 0):=rfl
 generalize cmpI a b = c at *
 rcases (show a < b ∨ b < a ∨ a = b by omega) with h | h | h
 ·go_enter Tryz.func304,Tryz.ntmps304
  go_wp2_with (go_at_call 306;refine (isNaNi_any _ _).mono ?_;rintro e w' ⟨rfl,rfl⟩)
  go_ret
  exact ⟨ret_int (by rw [HE.out];simp [h]),rfl⟩
 ·have h':¬ a < b:=by omega
  go_enter Tryz.func304,Tryz.ntmps304
  go_wp2_with (go_at_call 306;refine (isNaNi_any _ _).mono ?_;rintro e w' ⟨rfl,rfl⟩)
  go_ret
  exact ⟨ret_int (by rw [HE.out];simp [h,h']),rfl⟩
 ·subst h
  go_enter Tryz.func304,Tryz.ntmps304
  go_wp2_with (go_at_call 306;refine (isNaNi_any _ _).mono ?_;rintro e w' ⟨rfl,rfl⟩)
  go_ret
  exact ⟨ret_int (by rw [HE.out];simp),rfl⟩
theorem cmpu_any (a b:Int) (w:World):Calls Tryz.prog 305 #[.int .u32 a,.int .u32 b] w fun e w'=>e = .returned (.int .i64 (cmpI a b))∧w = w':=by
 have HE:Hid (cmpI a b = if a < b then -1 else if b < a then 1 else 0):=rfl
 generalize cmpI a b = c at *
 rcases (show a < b ∨ b < a ∨ a = b by omega) with h | h | h
 ·go_enter Tryz.func305,Tryz.ntmps305
  go_wp2_with (go_at_call 307;refine (isNaNu_any _ _).mono ?_;rintro e w' ⟨rfl,rfl⟩)
  go_ret
  exact ⟨ret_int (by rw [HE.out];simp [h]),rfl⟩
 ·have h':¬ a < b:=by omega
  go_enter Tryz.func305,Tryz.ntmps305
  go_wp2_with (go_at_call 307;refine (isNaNu_any _ _).mono ?_;rintro e w' ⟨rfl,rfl⟩)
  go_ret
  exact ⟨ret_int (by rw [HE.out];simp [h,h']),rfl⟩
 ·subst h
  go_enter Tryz.func305,Tryz.ntmps305
  go_wp2_with (go_at_call 307;refine (isNaNu_any _ _).mono ?_;rintro e w' ⟨rfl,rfl⟩)
  go_ret
  exact ⟨ret_int (by rw [HE.out];simp),rfl⟩
end Go.Proofs.YtcbcmlaogehimaaGreatDoor
namespace Go.Proofs.YtcbcmlaogehimaaGreatDoor
open Go.RowKit
def sval (neg:Bool) (L:List Nat):Int:=if neg then -(val L:Int) else (val L:Int)
def IsNum (B:Nat) (w:World) (v:Value) (x:Int):Prop :=
 ∃ neg ao cap L,v = .agg #[.bool neg,.slice ao L.length cap]∧LimbsAt w ao cap L∧NewAt B ao L∧Canon L∧neg = decide (x < 0)∧val L = x.natAbs∧L.length≤35184372088832
def TOPN:Nat:=512
def TOP:Nat:=4294967296 ^ TOPN
def errOf (x:Int):Int:=if x.natAbs < TOP then 0 else 2
def numOf (x:Int):Int:=if x.natAbs < TOP then x else 0
theorem NewAt.mono {B B':Nat} {ao:Option Addr} {L:List Nat} (h:NewAt B ao L) (hb:B'≤B):NewAt B' ao L:=by
 rcases h with h | ⟨b,off,h1,h2⟩
 ·exact .inl h
 ·exact .inr ⟨b,off,h1,Nat.le_trans hb h2⟩
theorem NewAt.zero {w:World} {ao:Option Addr} {cap:Nat} {L:List Nat} (h:LimbsAt w ao cap L):NewAt 0 ao L:=by
 rcases h.2.2 with h | ⟨b,off,h1,_⟩
 ·exact .inl h
 ·exact .inr ⟨b,off,h1,Nat.zero_le _⟩
theorem IsNum.below {B:Nat} {w w':World} {v:Value} {x:Int} (h:IsNum B w v x) (hb:Below w.heap.size w w'):IsNum B w' v x:=by
 obtain ⟨neg,ao,cap,L,h1,h2,h3⟩:=h
 exact ⟨neg,ao,cap,L,h1,h2.below hb,h3⟩
theorem IsNum.mono {B B':Nat} {w:World} {v:Value} {x:Int} (h:IsNum B w v x) (hb:B'≤B):IsNum B' w v x:=by
 obtain ⟨neg,ao,cap,L,h1,h2,h3,h4⟩:=h
 exact ⟨neg,ao,cap,L,h1,h2,h3.mono hb,h4⟩
theorem IsNum.zero (B:Nat) (w:World) (ao:Option Addr) (cap:Nat):IsNum B w (.agg #[.bool false,.slice ao 0 cap]) 0 :=
 ⟨false,ao,cap,[],rfl,LimbsAt.nil _ _ _,.inl rfl,.inl rfl,rfl,rfl,by simp⟩
theorem natAbs_sval (neg:Bool) (L:List Nat):(sval neg L).natAbs = val L:=by
 unfold sval;cases neg <;> simp
theorem IsNum.mk {B:Nat} {w:World} {neg:Bool} {ao:Option Addr} {cap:Nat} {L:List Nat} (h:LimbsAt w ao cap L) (hn:NewAt B ao L) (c:Canon L) (h0:L ≠ []) (hl:L.length≤35184372088832):IsNum B w (.agg #[.bool neg,.slice ao L.length cap]) (sval neg L):=by
 refine ⟨neg,ao,cap,L,rfl,h,hn,c,?_,(natAbs_sval neg L).symm,hl⟩
 have hv:val L ≠ 0:=fun e=>h0 ((val_zero_of_canon L c).1 e)
 unfold sval;cases neg <;> simp <;> omega
theorem sval_congr {neg:Bool} {L L':List Nat} (h:val L = val L'):sval neg L = sval neg L':=by unfold sval;rw [h]
theorem sval_nil (neg:Bool):sval neg [] = 0:=by unfold sval;cases neg <;> simp [val]
theorem val_lt_TOP (L:List Nat) (h:Fits L) (c:Canon L):val L < TOP ↔ L.length≤512:=(length_le_iff L h c TOPN).symm
end Go.Proofs.YtcbcmlaogehimaaGreatDoor
namespace Go.Proofs.YtcbcmlaogehimaaGreatDoor
theorem sub_step (A B S:List Nat) (k c x y t c':Nat) (hk:k < S.length) (hx:A[k]?.getD 0 = x) (hy:B[k]?.getD 0 = y) (ht:t+y+c = x+4294967296 * c') (h:val (S.take k)+val (B.take k) = val (A.take k)+4294967296 ^ k * c) :
  val ((S.set k t).take (k+1))+val (B.take (k+1)) = val (A.take (k+1))+4294967296 ^ (k+1) * c':=by
 rw [val_set_take S k _ hk,val_take_succ A k,val_take_succ B k,hx,hy,Nat.pow_succ]
 have e:4294967296 ^ k * (t+y+c) = 4294967296 ^ k * (x+4294967296 * c'):=by rw [ht]
 rw [Nat.mul_add,Nat.mul_add,Nat.mul_add,← Nat.mul_assoc] at e
 omega
theorem sub_end (A B S:List Nat) (n c:Nat) (hS:Fits S) (hn:S.length = n) (ha:A.length = n) (hv:val B≤val A) (hB:val (B.take n) = val B) (h:val (S.take n)+val (B.take n) = val (A.take n)+4294967296 ^ n * c) :
  val S = val A - val B:=by
 rw [val_take_all S n (by omega),val_take_all A n (by omega),hB] at h
 have h1:=val_lt S hS
 rw [hn] at h1
 rcases Nat.eq_zero_or_pos c with hc | hc
 ·subst hc;omega
 ·have h4:=Nat.mul_le_mul_left (4294967296 ^ n) hc
  omega
theorem take_le (A B:List Nat) (hA:Fits A) (hv:val B≤val A):val (B.take A.length) = val B:=by
 have h1:=val_split B A.length
 have h2:=val_lt A hA
 rcases Nat.eq_zero_or_pos (val (B.drop A.length)) with e | e
 ·rw [e] at h1;omega
 ·have h4:=Nat.mul_le_mul_left (4294967296 ^ A.length) e
  omega
end Go.Proofs.YtcbcmlaogehimaaGreatDoor
