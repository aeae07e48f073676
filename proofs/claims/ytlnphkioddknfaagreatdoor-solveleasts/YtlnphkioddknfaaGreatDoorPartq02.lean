/- Part 2 of the texts. -/
import Derived.Test.YtlnphkioddknfaaGreatDoorPartq01
namespace Go.Proofs.YtlnphkioddknfaaGreatDoor
open Go.RowKit
def sval (neg:Bool) (L:List Nat):Int:=if neg then -(val L:Int) else (val L:Int)
def IsNum (B:Nat) (w:World) (v:Value) (x:Int):Prop :=
 ∃ neg ao cap L,v = .agg #[.bool neg,.slice ao L.length cap]∧LimbsAt w ao cap L∧NewAt B ao L∧Canon L∧neg = decide (x < 0)∧val L = x.natAbs∧L.length≤35184372088832
def TOPN:Nat:=512
def TOP:Nat:=4294967296 ^ TOPN
def errOf (x:Int):Int:=if x.natAbs < TOP then 0 else 2
def numOf (x:Int):Int:=if x.natAbs < TOP then x else 0
theorem NewAt.mono {B B':Nat} {ao:Option Addr} {L:List Nat} (h:NewAt B ao L) (hb:B'≤B):NewAt B' ao L:=by
 rcases h with h | ⟨b,off,h1,h2⟩
 ·exact .inl h
 ·exact .inr ⟨b,off,h1,Nat.le_trans hb h2⟩
theorem NewAt.zero {w:World} {ao:Option Addr} {cap:Nat} {L:List Nat} (h:LimbsAt w ao cap L):NewAt 0 ao L:=by
 rcases h.2.2 with h | ⟨b,off,h1,_⟩
 ·exact .inl h
 ·exact .inr ⟨b,off,h1,Nat.zero_le _⟩
theorem IsNum.below {B:Nat} {w w':World} {v:Value} {x:Int} (h:IsNum B w v x) (hb:Below w.heap.size w w'):IsNum B w' v x:=by
 obtain ⟨neg,ao,cap,L,h1,h2,h3⟩:=h
 exact ⟨neg,ao,cap,L,h1,h2.below hb,h3⟩
theorem IsNum.mono {B B':Nat} {w:World} {v:Value} {x:Int} (h:IsNum B w v x) (hb:B'≤B):IsNum B' w v x:=by
 obtain ⟨neg,ao,cap,L,h1,h2,h3,h4⟩:=h
 exact ⟨neg,ao,cap,L,h1,h2,h3.mono hb,h4⟩
theorem IsNum.zero (B:Nat) (w:World) (ao:Option Addr) (cap:Nat):IsNum B w (.agg #[.bool false,.slice ao 0 cap]) 0 :=
 ⟨false,ao,cap,[],rfl,LimbsAt.nil _ _ _,.inl rfl,.inl rfl,rfl,rfl,by simp⟩
theorem natAbs_sval (neg:Bool) (L:List Nat):(sval neg L).natAbs = val L:=by
 unfold sval;cases neg <;> simp
theorem IsNum.mk {B:Nat} {w:World} {neg:Bool} {ao:Option Addr} {cap:Nat} {L:List Nat} (h:LimbsAt w ao cap L) (hn:NewAt B ao L) (c:Canon L) (h0:L ≠ []) (hl:L.length≤35184372088832):IsNum B w (.agg #[.bool neg,.slice ao L.length cap]) (sval neg L):=by
 refine ⟨neg,ao,cap,L,rfl,h,hn,c,?_,(natAbs_sval neg L).symm,hl⟩
 have hv:val L ≠ 0:=fun e=>h0 ((val_zero_of_canon L c).1 e)
 unfold sval;cases neg <;> simp <;> omega
theorem sval_congr {neg:Bool} {L L':List Nat} (h:val L = val L'):sval neg L = sval neg L':=by unfold sval;rw [h]
theorem sval_nil (neg:Bool):sval neg [] = 0:=by unfold sval;cases neg <;> simp [val]
theorem val_lt_TOP (L:List Nat) (h:Fits L) (c:Canon L):val L < TOP ↔ L.length≤512:=(length_le_iff L h c TOPN).symm
end Go.Proofs.YtlnphkioddknfaaGreatDoor
namespace Go.Proofs.YtlnphkioddknfaaGreatDoor
theorem sub_step (A B S:List Nat) (k c x y t c':Nat) (hk:k < S.length) (hx:A[k]?.getD 0 = x) (hy:B[k]?.getD 0 = y) (ht:t+y+c = x+4294967296 * c') (h:val (S.take k)+val (B.take k) = val (A.take k)+4294967296 ^ k * c) :
  val ((S.set k t).take (k+1))+val (B.take (k+1)) = val (A.take (k+1))+4294967296 ^ (k+1) * c':=by
 rw [val_set_take S k _ hk,val_take_succ A k,val_take_succ B k,hx,hy,Nat.pow_succ]
 have e:4294967296 ^ k * (t+y+c) = 4294967296 ^ k * (x+4294967296 * c'):=by rw [ht]
 rw [Nat.mul_add,Nat.mul_add,Nat.mul_add,← Nat.mul_assoc] at e
 omega
theorem sub_end (A B S:List Nat) (n c:Nat) (hS:Fits S) (hn:S.length = n) (ha:A.length = n) (hv:val B≤val A) (hB:val (B.take n) = val B) (h:val (S.take n)+val (B.take n) = val (A.take n)+4294967296 ^ n * c) :
  val S = val A - val B:=by
 rw [val_take_all S n (by omega),val_take_all A n (by omega),hB] at h
 have h1:=val_lt S hS
 rw [hn] at h1
 rcases Nat.eq_zero_or_pos c with hc | hc
 ·subst hc;omega
 ·have h4:=Nat.mul_le_mul_left (4294967296 ^ n) hc
  omega
theorem take_le (A B:List Nat) (hA:Fits A) (hv:val B≤val A):val (B.take A.length) = val B:=by
 have h1:=val_split B A.length
 have h2:=val_lt A hA
 rcases Nat.eq_zero_or_pos (val (B.drop A.length)) with e | e
 ·rw [e] at h1;omega
 ·have h4:=Nat.mul_le_mul_left (4294967296 ^ A.length) e
  omega
end Go.Proofs.YtlnphkioddknfaaGreatDoor
namespace Go.Proofs.YtlnphkioddknfaaGreatDoor
theorem val_snoc (S:List Nat) (x:Nat):val (S ++ [x]) = val S+4294967296 ^ S.length * x:=by rw [val_append];simp [val]
theorem Fits.snoc {S:List Nat} (h:Fits S) {x:Nat} (hx:x < 4294967296):Fits (S ++ [x]):=fun y hy=>by
 rcases List.mem_append.1 hy with h1 | h1
 ·exact h y h1
 ·simp at h1;omega
theorem plus_step (A B S:List Nat) (c x y:Nat) (hx:A[S.length]?.getD 0 = x) (hy:B[S.length]?.getD 0 = y) (h:val S+4294967296 ^ S.length * c = val (A.take S.length)+val (B.take S.length)) :
  val (S ++ [(x+y+c) % 4294967296])+4294967296 ^ (S.length+1) * ((x+y+c) / 4294967296) = val (A.take (S.length+1))+val (B.take (S.length+1)):=by
 rw [val_snoc,val_take_succ A,val_take_succ B,hx,hy]
 have e:=pow_step (4294967296 ^ S.length) 4294967296 (x+y+c)
 rw [Nat.pow_succ]
 rw [Nat.mul_add,Nat.mul_add] at e
 omega
theorem minus_step (A B S:List Nat) (c x y t c':Nat) (hx:A[S.length]?.getD 0 = x) (hy:B[S.length]?.getD 0 = y) (ht:t+y+c = x+4294967296 * c') (h:val S+val (B.take S.length) = val (A.take S.length)+4294967296 ^ S.length * c) :
  val (S ++ [t])+val (B.take (S.length+1)) = val (A.take (S.length+1))+4294967296 ^ (S.length+1) * c':=by
 rw [val_snoc,val_take_succ A,val_take_succ B,hx,hy,Nat.pow_succ]
 have e:4294967296 ^ S.length * (t+y+c) = 4294967296 ^ S.length * (x+4294967296 * c'):=by rw [ht]
 rw [Nat.mul_add,Nat.mul_add,Nat.mul_add,← Nat.mul_assoc] at e
 omega
end Go.Proofs.YtlnphkioddknfaaGreatDoor
namespace Go.Proofs.YtlnphkioddknfaaGreatDoor
theorem val_set:∀ (S:List Nat) (j t:Nat),j < S.length→val (S.set j t)+4294967296 ^ j * (S[j]?.getD 0) = val S+4294967296 ^ j * t
 | [],_,_,h=>by simp at h
 | x :: r,0,t,_=>by simp [val];omega
 | x :: r,j+1,t,h=>by
  have ih:=val_set r j t (by simpa using h)
  simp only [List.set_cons_succ,val,List.getElem?_cons_succ,Nat.pow_succ]
  have e1:4294967296 ^ j * 4294967296 * (r[j]?.getD 0) = 4294967296 * (4294967296 ^ j * (r[j]?.getD 0)):=by rw [Nat.mul_comm (4294967296 ^ j),Nat.mul_assoc]
  have e2:4294967296 ^ j * 4294967296 * t = 4294967296 * (4294967296 ^ j * t):=by rw [Nat.mul_comm (4294967296 ^ j),Nat.mul_assoc]
  rw [e1,e2]
  omega
theorem getD_set_ne (S:List Nat) (j k t:Nat) (h:k ≠ j):(S.set j t)[k]?.getD 0 = S[k]?.getD 0:=by
 rw [List.getElem?_set_ne (by omega)]
theorem mul_lt (x y:Nat) (hx:x < 4294967296) (hy:y < 4294967296):x * y≤18446744065119617025:=by
 have:=Nat.mul_le_mul (show x≤4294967295 by omega) (show y≤4294967295 by omega)
 simpa using this
theorem mul_ltI (x y:Nat) (hx:x < 4294967296) (hy:y < 4294967296):(x:Int) * (y:Int)≤18446744065119617025∧(0:Int)≤(x:Int) * (y:Int):=by
 have h:=mul_lt x y hx hy
 have e:((x * y:Nat):Int) = (x:Int) * (y:Int):=Int.natCast_mul x y
 rw [← e]
 omega
theorem mul_casts (x y z q:Nat):(((y+(x * z+q)) % 4294967296:Nat):Int) = ((y:Int)+((x:Int) * (z:Int)+(q:Int))) % 4294967296∧(((y+(x * z+q)) / 4294967296:Nat):Int) = ((y:Int)+((x:Int) * (z:Int)+(q:Int))) / 4294967296:=by
 have e:((x * z:Nat):Int) = (x:Int) * (z:Int):=Int.natCast_mul x z
 rw [← e]
 omega
theorem mul_step (B Q:List Nat) (V x i k c y q:Nat) (hk:i+k < Q.length) (hy:B[k]?.getD 0 = y) (hq:Q[i+k]?.getD 0 = q) (h:val Q+4294967296 ^ (i+k) * c = V+4294967296 ^ i * x * val (B.take k)) :
  val (Q.set (i+k) ((c+(x * y+q)) % 4294967296))+4294967296 ^ (i+(k+1)) * ((c+(x * y+q)) / 4294967296) = V+4294967296 ^ i * x * val (B.take (k+1)):=by
 have h1:=val_set Q (i+k) ((c+(x * y+q)) % 4294967296) hk
 rw [hq] at h1
 have e:=pow_step (4294967296 ^ (i+k)) 4294967296 (c+(x * y+q))
 rw [show 4294967296 ^ (i+(k+1)) = 4294967296 ^ (i+k) * 4294967296 by rw [← Nat.add_assoc,Nat.pow_succ],val_take_succ B k,hy]
 have e2:4294967296 ^ i * x * (val (B.take k)+4294967296 ^ k * y) = 4294967296 ^ i * x * val (B.take k)+4294967296 ^ (i+k) * (x * y):=by
  rw [Nat.mul_add,Nat.pow_add]
  congr 1
  rw [Nat.mul_assoc,Nat.mul_assoc,← Nat.mul_assoc x,Nat.mul_comm x,Nat.mul_assoc]
 rw [e2]
 have e3:4294967296 ^ (i+k) * (c+(x * y+q)) = 4294967296 ^ (i+k) * c+4294967296 ^ (i+k) * (x * y)+4294967296 ^ (i+k) * q:=by rw [Nat.mul_add,Nat.mul_add];omega
 omega
theorem mul_top (A B Q:List Nat) (x i c:Nat) (hk:i+B.length < Q.length) (hx:A[i]?.getD 0 = x) (hq:Q[i+B.length]?.getD 0 = 0) (h:val Q+4294967296 ^ (i+B.length) * c = val (A.take i) * val B+4294967296 ^ i * x * val (B.take B.length)) :
  val (Q.set (i+B.length) c) = val (A.take (i+1)) * val B:=by
 have h1:=val_set Q (i+B.length) c hk
 rw [hq,Nat.mul_zero] at h1
 rw [List.take_length] at h
 rw [val_take_succ A i,hx,Nat.add_mul]
 omega
end Go.Proofs.YtlnphkioddknfaaGreatDoor
namespace Go.Proofs.YtlnphkioddknfaaGreatDoor
theorem or_disj (s y p:Nat) (hs:s < 2 ^ p) (hy:y % 2 ^ p = 0):s ||| y = s+y:=by
 have h:=Nat.two_pow_add_eq_or_of_lt hs (y / 2 ^ p)
 have e:2 ^ p * (y / 2 ^ p) = y:=by have:=Nat.div_add_mod y (2 ^ p);omega
 rw [e] at h
 rw [Nat.or_comm,← h];omega
theorem wide_low (x p:Nat) (hp:p≤32):(x * 2 ^ p) % 4294967296 % 2 ^ p = 0:=by
 have e:(4294967296:Nat) = 2 ^ p * 2 ^ (32 - p):=by rw [← Nat.pow_add,show p+(32 - p) = 32 by omega]
 rw [e,Nat.mod_mul_right_mod]
 exact Nat.mul_mod_left _ _
theorem wide_high (x p:Nat) (hx:x < 4294967296) (_hp:p≤31):(x * 2 ^ p) / 4294967296 < 2 ^ p:=by
 rw [Nat.div_lt_iff_lt_mul (by decide),Nat.mul_comm]
 exact Nat.mul_lt_mul_of_pos_left hx (Nat.pow_pos (by decide))
theorem wide_lt (x p:Nat) (hx:x < 4294967296) (hp:p≤31):x * 2 ^ p < 9223372036854775808:=by
 have h1:2 ^ p≤2 ^ 31:=Nat.pow_le_pow_right (by decide) hp
 have h2:=Nat.mul_le_mul (show x≤4294967295 by omega) h1
 omega
theorem up_step (A S:List Nat) (i l p x s:Nat) (hlen:i+l+1 < S.length) (hx:A[i]?.getD 0 = x) (hs:S[i+l]?.getD 0 = s) (h0:S[i+l+1]?.getD 0 = 0) (h:val S = 4294967296 ^ l * 2 ^ p * val (A.take i)) :
  val ((S.set (i+l) (s+(x * 2 ^ p) % 4294967296)).set (i+l+1) ((x * 2 ^ p) / 4294967296)) = 4294967296 ^ l * 2 ^ p * val (A.take (i+1)):=by
 have h1:=val_set S (i+l) (s+(x * 2 ^ p) % 4294967296) (by omega)
 have h2:=val_set (S.set (i+l) (s+(x * 2 ^ p) % 4294967296)) (i+l+1) ((x * 2 ^ p) / 4294967296) (by simpa using hlen)
 rw [getD_set_ne _ _ _ _ (by omega),h0,Nat.mul_zero] at h2
 rw [hs,Nat.mul_add] at h1
 have e:=pow_step (4294967296 ^ (i+l)) 4294967296 (x * 2 ^ p)
 rw [Nat.pow_succ] at h2
 rw [val_take_succ A i,hx,Nat.mul_add]
 have e2:4294967296 ^ l * 2 ^ p * (4294967296 ^ i * x) = 4294967296 ^ (i+l) * (x * 2 ^ p):=by
  rw [Nat.pow_add]
  rw [Nat.mul_assoc,Nat.mul_comm (4294967296 ^ i) (4294967296 ^ l),Nat.mul_assoc]
  congr 1
  rw [Nat.mul_comm (2 ^ p),Nat.mul_assoc]
 rw [e2]
 omega
theorem val_drop (L:List Nat) (h:Fits L) (k:Nat):val (L.drop k) = val L / 4294967296 ^ k:=by
 have h1:=val_split L k
 have h2:=val_take_lt L h k
 rw [h1,Nat.add_comm,Nat.mul_comm,Nat.add_comm]
 rw [Nat.add_mul_div_right _ _ (Nat.pow_pos (by decide)),Nat.div_eq_of_lt h2,Nat.zero_add]
theorem val_two_more (D:List Nat):val D = D[0]?.getD 0+4294967296 * (D[1]?.getD 0)+4294967296 * 4294967296 * val (D.drop 2):=by
 match D with
 | []=>simp [val]
 | [x]=>simp [val]
 | x :: y :: r=>simp only [val,List.getElem?_cons_zero,List.getElem?_cons_succ,Option.getD_some,List.drop_succ_cons,List.drop_zero];rw [Nat.mul_add,← Nat.mul_assoc];omega
theorem limb_of (d0 d1 r p:Nat) (hp:p≤31):((d0+4294967296 * d1+4294967296 * 4294967296 * r) / 2 ^ p) % 4294967296 = ((d0+4294967296 * d1) / 2 ^ p) % 4294967296:=by
 have e:(4294967296 * 4294967296 * r:Nat) = 2 ^ p * (2 ^ (32 - p) * (4294967296 * r)):=by
  rw [← Nat.mul_assoc (2 ^ p),← Nat.pow_add,show p+(32 - p) = 32 by omega]
  rw [Nat.mul_assoc]
 rw [e,Nat.add_mul_div_left _ _ (Nat.pow_pos (by decide)),← Nat.mul_assoc,Nat.mul_comm (2 ^ (32 - p)),Nat.mul_assoc,Nat.add_mul_mod_self_left]
theorem down_step (A S:List Nat) (hA:Fits A) (k l p d0 d1:Nat) (hp:p≤31) (hk:k < S.length) (h0:A[k+l]?.getD 0 = d0) (h1:A[k+l+1]?.getD 0 = d1) (h:val (S.take k) = (val A / (4294967296 ^ l * 2 ^ p)) % 4294967296 ^ k) :
  val ((S.set k (((d0+4294967296 * d1) / 2 ^ p) % 4294967296)).take (k+1)) = (val A / (4294967296 ^ l * 2 ^ p)) % 4294967296 ^ (k+1):=by
 rw [val_set_take S k _ hk,h,Nat.pow_succ,Nat.mod_mul]
 congr 2
 have e1:val A / (4294967296 ^ l * 2 ^ p) / 4294967296 ^ k = val (A.drop (k+l)) / 2 ^ p:=by
  rw [val_drop A hA,Nat.div_div_eq_div_mul,Nat.div_div_eq_div_mul,Nat.pow_add]
  congr 1
  rw [Nat.mul_comm (4294967296 ^ k),Nat.mul_assoc,Nat.mul_assoc,Nat.mul_comm (2 ^ p)]
 rw [e1,val_two_more (A.drop (k+l)),List.getElem?_drop,List.getElem?_drop,Nat.add_zero,h0,h1,limb_of _ _ _ _ hp]
theorem down_end (A S:List Nat) (hA:Fits A) (l p:Nat) (hl:S.length = A.length - l) (h:val (S.take S.length) = (val A / (4294967296 ^ l * 2 ^ p)) % 4294967296 ^ S.length):val S = val A / (4294967296 ^ l * 2 ^ p):=by
 rw [List.take_length] at h
 rw [h]
 apply Nat.mod_eq_of_lt
 have h1:=val_lt A hA
 have h2:val A / (4294967296 ^ l * 2 ^ p)≤val A / 4294967296 ^ l:=by
  rw [← Nat.div_div_eq_div_mul];exact Nat.div_le_self _ _
 refine Nat.lt_of_le_of_lt h2 ?_
 rw [Nat.div_lt_iff_lt_mul (Nat.pow_pos (by decide)),← Nat.pow_add,hl]
 exact Nat.lt_of_lt_of_le h1 (Nat.pow_le_pow_right (by decide) (by omega))
theorem two_pow_32 (l p:Nat):4294967296 ^ l * 2 ^ p = 2 ^ (32 * l+p):=by
 rw [Nat.pow_add,Nat.pow_mul]
end Go.Proofs.YtlnphkioddknfaaGreatDoor
