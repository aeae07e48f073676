/- Part 2 of the texts. -/
import Derived.Test.YtcbcmlaogehimaaGreatDoorPartc01
import Derived.Lib.TrailingZeros
import Ieee.Arith
import Derived.Laws.Bits64b
import Derived.Laws.Bits64
import Derived.Laws.StructEq
set_option maxHeartbeats 1000000
namespace Go.Proofs.YtcbcmlaogehimaaGreatDoor
theorem val_snoc (S:List Nat) (x:Nat):val (S ++ [x]) = val S+4294967296 ^ S.length * x:=by rw [val_append];simp [val]
theorem Fits.snoc {S:List Nat} (h:Fits S) {x:Nat} (hx:x < 4294967296):Fits (S ++ [x]):=fun y hy=>by
 rcases List.mem_append.1 hy with h1 | h1
 ·exact h y h1
 ·simp at h1;omega
theorem plus_step (A B S:List Nat) (c x y:Nat) (hx:A[S.length]?.getD 0 = x) (hy:B[S.length]?.getD 0 = y) (h:val S+4294967296 ^ S.length * c = val (A.take S.length)+val (B.take S.length)) :
  val (S ++ [(x+y+c) % 4294967296])+4294967296 ^ (S.length+1) * ((x+y+c) / 4294967296) = val (A.take (S.length+1))+val (B.take (S.length+1)):=by
 rw [val_snoc,val_take_succ A,val_take_succ B,hx,hy]
 have e:=pow_step (4294967296 ^ S.length) 4294967296 (x+y+c)
 rw [Nat.pow_succ]
 rw [Nat.mul_add,Nat.mul_add] at e
 omega
theorem minus_step (A B S:List Nat) (c x y t c':Nat) (hx:A[S.length]?.getD 0 = x) (hy:B[S.length]?.getD 0 = y) (ht:t+y+c = x+4294967296 * c') (h:val S+val (B.take S.length) = val (A.take S.length)+4294967296 ^ S.length * c) :
  val (S ++ [t])+val (B.take (S.length+1)) = val (A.take (S.length+1))+4294967296 ^ (S.length+1) * c':=by
 rw [val_snoc,val_take_succ A,val_take_succ B,hx,hy,Nat.pow_succ]
 have e:4294967296 ^ S.length * (t+y+c) = 4294967296 ^ S.length * (x+4294967296 * c'):=by rw [ht]
 rw [Nat.mul_add,Nat.mul_add,Nat.mul_add,← Nat.mul_assoc] at e
 omega
end Go.Proofs.YtcbcmlaogehimaaGreatDoor
namespace Go.Proofs.YtcbcmlaogehimaaGreatDoor
theorem val_set:∀ (S:List Nat) (j t:Nat),j < S.length→val (S.set j t)+4294967296 ^ j * (S[j]?.getD 0) = val S+4294967296 ^ j * t
 | [],_,_,h=>by simp at h
 | x :: r,0,t,_=>by simp [val];omega
 | x :: r,j+1,t,h=>by
  have ih:=val_set r j t (by simpa using h)
  simp only [List.set_cons_succ,val,List.getElem?_cons_succ,Nat.pow_succ]
  have e1:4294967296 ^ j * 4294967296 * (r[j]?.getD 0) = 4294967296 * (4294967296 ^ j * (r[j]?.getD 0)):=by rw [Nat.mul_comm (4294967296 ^ j),Nat.mul_assoc]
  have e2:4294967296 ^ j * 4294967296 * t = 4294967296 * (4294967296 ^ j * t):=by rw [Nat.mul_comm (4294967296 ^ j),Nat.mul_assoc]
  rw [e1,e2]
  omega
theorem getD_set_ne (S:List Nat) (j k t:Nat) (h:k ≠ j):(S.set j t)[k]?.getD 0 = S[k]?.getD 0:=by
 rw [List.getElem?_set_ne (by omega)]
theorem mul_lt (x y:Nat) (hx:x < 4294967296) (hy:y < 4294967296):x * y≤18446744065119617025:=by
 have:=Nat.mul_le_mul (show x≤4294967295 by omega) (show y≤4294967295 by omega)
 simpa using this
theorem mul_ltI (x y:Nat) (hx:x < 4294967296) (hy:y < 4294967296):(x:Int) * (y:Int)≤18446744065119617025∧(0:Int)≤(x:Int) * (y:Int):=by
 have h:=mul_lt x y hx hy
 have e:((x * y:Nat):Int) = (x:Int) * (y:Int):=Int.natCast_mul x y
 rw [← e]
 omega
theorem mul_casts (x y z q:Nat):(((y+(x * z+q)) % 4294967296:Nat):Int) = ((y:Int)+((x:Int) * (z:Int)+(q:Int))) % 4294967296∧(((y+(x * z+q)) / 4294967296:Nat):Int) = ((y:Int)+((x:Int) * (z:Int)+(q:Int))) / 4294967296:=by
 have e:((x * z:Nat):Int) = (x:Int) * (z:Int):=Int.natCast_mul x z
 rw [← e]
 omega
theorem mul_step (B Q:List Nat) (V x i k c y q:Nat) (hk:i+k < Q.length) (hy:B[k]?.getD 0 = y) (hq:Q[i+k]?.getD 0 = q) (h:val Q+4294967296 ^ (i+k) * c = V+4294967296 ^ i * x * val (B.take k)) :
  val (Q.set (i+k) ((c+(x * y+q)) % 4294967296))+4294967296 ^ (i+(k+1)) * ((c+(x * y+q)) / 4294967296) = V+4294967296 ^ i * x * val (B.take (k+1)):=by
 have h1:=val_set Q (i+k) ((c+(x * y+q)) % 4294967296) hk
 rw [hq] at h1
 have e:=pow_step (4294967296 ^ (i+k)) 4294967296 (c+(x * y+q))
 rw [show 4294967296 ^ (i+(k+1)) = 4294967296 ^ (i+k) * 4294967296 by rw [← Nat.add_assoc,Nat.pow_succ],val_take_succ B k,hy]
 have e2:4294967296 ^ i * x * (val (B.take k)+4294967296 ^ k * y) = 4294967296 ^ i * x * val (B.take k)+4294967296 ^ (i+k) * (x * y):=by
  rw [Nat.mul_add,Nat.pow_add]
  congr 1
  rw [Nat.mul_assoc,Nat.mul_assoc,← Nat.mul_assoc x,Nat.mul_comm x,Nat.mul_assoc]
 rw [e2]
 have e3:4294967296 ^ (i+k) * (c+(x * y+q)) = 4294967296 ^ (i+k) * c+4294967296 ^ (i+k) * (x * y)+4294967296 ^ (i+k) * q:=by rw [Nat.mul_add,Nat.mul_add];omega
 omega
theorem mul_top (A B Q:List Nat) (x i c:Nat) (hk:i+B.length < Q.length) (hx:A[i]?.getD 0 = x) (hq:Q[i+B.length]?.getD 0 = 0) (h:val Q+4294967296 ^ (i+B.length) * c = val (A.take i) * val B+4294967296 ^ i * x * val (B.take B.length)) :
  val (Q.set (i+B.length) c) = val (A.take (i+1)) * val B:=by
 have h1:=val_set Q (i+B.length) c hk
 rw [hq,Nat.mul_zero] at h1
 rw [List.take_length] at h
 rw [val_take_succ A i,hx,Nat.add_mul]
 omega
end Go.Proofs.YtcbcmlaogehimaaGreatDoor
namespace Go.Proofs.YtcbcmlaogehimaaGreatDoor
theorem or_disj (s y p:Nat) (hs:s < 2 ^ p) (hy:y % 2 ^ p = 0):s ||| y = s+y:=by
 have h:=Nat.two_pow_add_eq_or_of_lt hs (y / 2 ^ p)
 have e:2 ^ p * (y / 2 ^ p) = y:=by have:=Nat.div_add_mod y (2 ^ p);omega
 rw [e] at h
 rw [Nat.or_comm,← h];omega
theorem wide_low (x p:Nat) (hp:p≤32):(x * 2 ^ p) % 4294967296 % 2 ^ p = 0:=by
 have e:(4294967296:Nat) = 2 ^ p * 2 ^ (32 - p):=by rw [← Nat.pow_add,show p+(32 - p) = 32 by omega]
 rw [e,Nat.mod_mul_right_mod]
 exact Nat.mul_mod_left _ _
theorem wide_high (x p:Nat) (hx:x < 4294967296) (_hp:p≤31):(x * 2 ^ p) / 4294967296 < 2 ^ p:=by
 rw [Nat.div_lt_iff_lt_mul (by decide),Nat.mul_comm]
 exact Nat.mul_lt_mul_of_pos_left hx (Nat.pow_pos (by decide))
theorem wide_lt (x p:Nat) (hx:x < 4294967296) (hp:p≤31):x * 2 ^ p < 9223372036854775808:=by
 have h1:2 ^ p≤2 ^ 31:=Nat.pow_le_pow_right (by decide) hp
 have h2:=Nat.mul_le_mul (show x≤4294967295 by omega) h1
 omega
theorem up_step (A S:List Nat) (i l p x s:Nat) (hlen:i+l+1 < S.length) (hx:A[i]?.getD 0 = x) (hs:S[i+l]?.getD 0 = s) (h0:S[i+l+1]?.getD 0 = 0) (h:val S = 4294967296 ^ l * 2 ^ p * val (A.take i)) :
  val ((S.set (i+l) (s+(x * 2 ^ p) % 4294967296)).set (i+l+1) ((x * 2 ^ p) / 4294967296)) = 4294967296 ^ l * 2 ^ p * val (A.take (i+1)):=by
 have h1:=val_set S (i+l) (s+(x * 2 ^ p) % 4294967296) (by omega)
 have h2:=val_set (S.set (i+l) (s+(x * 2 ^ p) % 4294967296)) (i+l+1) ((x * 2 ^ p) / 4294967296) (by simpa using hlen)
 rw [getD_set_ne _ _ _ _ (by omega),h0,Nat.mul_zero] at h2
 rw [hs,Nat.mul_add] at h1
 have e:=pow_step (4294967296 ^ (i+l)) 4294967296 (x * 2 ^ p)
 rw [Nat.pow_succ] at h2
 rw [val_take_succ A i,hx,Nat.mul_add]
 have e2:4294967296 ^ l * 2 ^ p * (4294967296 ^ i * x) = 4294967296 ^ (i+l) * (x * 2 ^ p):=by
  rw [Nat.pow_add]
  rw [Nat.mul_assoc,Nat.mul_comm (4294967296 ^ i) (4294967296 ^ l),Nat.mul_assoc]
  congr 1
  rw [Nat.mul_comm (2 ^ p),Nat.mul_assoc]
 rw [e2]
 omega
theorem val_drop (L:List Nat) (h:Fits L) (k:Nat):val (L.drop k) = val L / 4294967296 ^ k:=by
 have h1:=val_split L k
 have h2:=val_take_lt L h k
 rw [h1,Nat.add_comm,Nat.mul_comm,Nat.add_comm]
 rw [Nat.add_mul_div_right _ _ (Nat.pow_pos (by decide)),Nat.div_eq_of_lt h2,Nat.zero_add]
theorem val_two_more (D:List Nat):val D = D[0]?.getD 0+4294967296 * (D[1]?.getD 0)+4294967296 * 4294967296 * val (D.drop 2):=by
 match D with
 | []=>simp [val]
 | [x]=>simp [val]
 | x :: y :: r=>simp only [val,List.getElem?_cons_zero,List.getElem?_cons_succ,Option.getD_some,List.drop_succ_cons,List.drop_zero];rw [Nat.mul_add,← Nat.mul_assoc];omega
theorem limb_of (d0 d1 r p:Nat) (hp:p≤31):((d0+4294967296 * d1+4294967296 * 4294967296 * r) / 2 ^ p) % 4294967296 = ((d0+4294967296 * d1) / 2 ^ p) % 4294967296:=by
 have e:(4294967296 * 4294967296 * r:Nat) = 2 ^ p * (2 ^ (32 - p) * (4294967296 * r)):=by
  rw [← Nat.mul_assoc (2 ^ p),← Nat.pow_add,show p+(32 - p) = 32 by omega]
  rw [Nat.mul_assoc]
 rw [e,Nat.add_mul_div_left _ _ (Nat.pow_pos (by decide)),← Nat.mul_assoc,Nat.mul_comm (2 ^ (32 - p)),Nat.mul_assoc,Nat.add_mul_mod_self_left]
theorem down_step (A S:List Nat) (hA:Fits A) (k l p d0 d1:Nat) (hp:p≤31) (hk:k < S.length) (h0:A[k+l]?.getD 0 = d0) (h1:A[k+l+1]?.getD 0 = d1) (h:val (S.take k) = (val A / (4294967296 ^ l * 2 ^ p)) % 4294967296 ^ k) :
  val ((S.set k (((d0+4294967296 * d1) / 2 ^ p) % 4294967296)).take (k+1)) = (val A / (4294967296 ^ l * 2 ^ p)) % 4294967296 ^ (k+1):=by
 rw [val_set_take S k _ hk,h,Nat.pow_succ,Nat.mod_mul]
 congr 2
 have e1:val A / (4294967296 ^ l * 2 ^ p) / 4294967296 ^ k = val (A.drop (k+l)) / 2 ^ p:=by
  rw [val_drop A hA,Nat.div_div_eq_div_mul,Nat.div_div_eq_div_mul,Nat.pow_add]
  congr 1
  rw [Nat.mul_comm (4294967296 ^ k),Nat.mul_assoc,Nat.mul_assoc,Nat.mul_comm (2 ^ p)]
 rw [e1,val_two_more (A.drop (k+l)),List.getElem?_drop,List.getElem?_drop,Nat.add_zero,h0,h1,limb_of _ _ _ _ hp]
theorem down_end (A S:List Nat) (hA:Fits A) (l p:Nat) (hl:S.length = A.length - l) (h:val (S.take S.length) = (val A / (4294967296 ^ l * 2 ^ p)) % 4294967296 ^ S.length):val S = val A / (4294967296 ^ l * 2 ^ p):=by
 rw [List.take_length] at h
 rw [h]
 apply Nat.mod_eq_of_lt
 have h1:=val_lt A hA
 have h2:val A / (4294967296 ^ l * 2 ^ p)≤val A / 4294967296 ^ l:=by
  rw [← Nat.div_div_eq_div_mul];exact Nat.div_le_self _ _
 refine Nat.lt_of_le_of_lt h2 ?_
 rw [Nat.div_lt_iff_lt_mul (Nat.pow_pos (by decide)),← Nat.pow_add,hl]
 exact Nat.lt_of_lt_of_le h1 (Nat.pow_le_pow_right (by decide) (by omega))
theorem two_pow_32 (l p:Nat):4294967296 ^ l * 2 ^ p = 2 ^ (32 * l+p):=by
 rw [Nat.pow_add,Nat.pow_mul]
end Go.Proofs.YtcbcmlaogehimaaGreatDoor
namespace Go.Proofs.YtcbcmlaogehimaaGreatDoor
def tz (v:Nat):Nat:=Lib.ctzFrom v v
theorem tz_spec (v:Nat) (h:0 < v):∃ m,v = 2 ^ tz v * (2 * m+1):=by
 obtain ⟨m,hm,_⟩:=Lib.ctzFrom_spec v v h Nat.lt_two_pow_self
 exact ⟨m,hm⟩
theorem two_part (k j m n:Nat) (h:2 ^ k * (2 * m+1) = 2 ^ j * (2 * n+1)):k = j∧m = n:=by
 rcases Nat.lt_trichotomy k j with hlt | rfl | hlt
 ·exfalso
  obtain ⟨d,rfl⟩:∃ d,j = k+(d+1):=⟨j - k - 1,by omega⟩
  rw [Nat.pow_add,Nat.mul_assoc] at h
  have:=Nat.eq_of_mul_eq_mul_left (Nat.pow_pos (by decide)) h
  rw [Nat.pow_succ,Nat.mul_assoc,Nat.mul_left_comm] at this
  omega
 ·have:=Nat.eq_of_mul_eq_mul_left (Nat.pow_pos (by decide)) h
  exact ⟨rfl,by omega⟩
 ·exfalso
  obtain ⟨d,rfl⟩:∃ d,k = j+(d+1):=⟨k - j - 1,by omega⟩
  rw [Nat.pow_add,Nat.mul_assoc] at h
  have:=Nat.eq_of_mul_eq_mul_left (Nat.pow_pos (by decide)) h
  rw [Nat.pow_succ,Nat.mul_assoc,Nat.mul_left_comm] at this
  omega
theorem tz_of (v k m:Nat) (h:v = 2 ^ k * (2 * m+1)):tz v = k:=by
 have hp:0 < v:=by rw [h];exact Nat.mul_pos (Nat.pow_pos (by decide)) (by omega)
 obtain ⟨m',hm⟩:=tz_spec v hp
 exact (two_part _ _ m' m (by rw [← hm,← h])).1
theorem tz_mul (v k:Nat) (h:0 < v):tz (2 ^ k * v) = k+tz v:=by
 obtain ⟨m,hm⟩:=tz_spec v h
 exact tz_of _ _ m (by rw [Nat.pow_add,Nat.mul_assoc,← hm])
theorem tz_ctz (x:Nat) (h0:x ≠ 0) (h:x < 4294967296):tz x = Lib.ctz 32 x:=by
 obtain ⟨m,hm,_⟩:=Lib.ctzFrom_spec 32 x (by omega) (by omega)
 have e:Lib.ctz 32 x = Lib.ctzFrom 32 x:=by simp [Lib.ctz,h0]
 rw [e]
 exact tz_of _ _ m hm
theorem tz_lt (v k:Nat) (h0:0 < v) (h:v < 2 ^ k):tz v < k:=by
 obtain ⟨m,hm⟩:=tz_spec v h0
 apply Nat.lt_of_not_le
 intro hle
 have h1:2 ^ k≤2 ^ tz v:=Nat.pow_le_pow_right (by decide) hle
 have h2:2 ^ tz v≤2 ^ tz v * (2 * m+1):=Nat.le_mul_of_pos_right _ (by omega)
 omega
theorem tz_limbs (L:List Nat) (k x:Nat) (hv:val (L.take k) = 0) (hx:L[k]?.getD 0 = x) (h0:x ≠ 0) (hlt:x < 4294967296):val L ≠ 0∧tz (val L) = 32 * k+tz x:=by
 obtain ⟨m,hm⟩:=tz_spec x (by omega)
 have e:val L = 4294967296 ^ k * (x+4294967296 * val (L.drop (k+1))):=by
  rw [val_split L (k+1),val_take_succ,hv,hx,Nat.zero_add,Nat.pow_succ,Nat.mul_add,Nat.mul_assoc]
 have ht:tz x < 32:=tz_lt x 32 (by omega) (by omega)
 have e2:x+4294967296 * val (L.drop (k+1)) = 2 ^ tz x * (2 * (m+2 ^ (31 - tz x) * val (L.drop (k+1)))+1):=by
  have e3:4294967296 = 2 ^ tz x * (2 * 2 ^ (31 - tz x)):=by
   rw [← Nat.pow_succ',← Nat.pow_add,show tz x+(31 - tz x).succ = 32 by omega]
  rw [Nat.mul_add 2,Nat.add_right_comm,Nat.mul_add (2 ^ tz x),← hm,← Nat.mul_assoc 2,← Nat.mul_assoc,← e3]
 have e4:val L = 2 ^ (32 * k+tz x) * (2 * (m+2 ^ (31 - tz x) * val (L.drop (k+1)))+1):=by
  rw [e,e2,← Nat.mul_assoc,two_pow_32]
 refine ⟨?_,tz_of _ _ _ e4⟩
 have:0 < val L:=by rw [e4];exact Nat.mul_pos (Nat.pow_pos (by decide)) (by omega)
 omega
def oM (z:Int):Int:=z / 2 ^ tz z.natAbs
def oE (z e:Int):Int:=if z = 0 then 0 else e+tz z.natAbs
def OddOf (z m:Int) (k:Nat):Prop:=z = m * 2 ^ k∧m % 2 = 1
theorem OddOf.unique {z m m':Int} {k k':Nat} (h:OddOf z m k) (h':OddOf z m' k'):m = m'∧k = k':=by
 obtain ⟨h1,h2⟩:=h
 obtain ⟨h3,h4⟩:=h'
 have a1:z.natAbs = 2 ^ k * (2 * (m.natAbs / 2)+1):=by
  rw [h1,Int.natAbs_mul,Int.natAbs_pow,Nat.mul_comm,show (2:Int).natAbs = 2 from rfl,show 2 * (m.natAbs / 2)+1 = m.natAbs by omega]
 have a2:z.natAbs = 2 ^ k' * (2 * (m'.natAbs / 2)+1):=by
  rw [h3,Int.natAbs_mul,Int.natAbs_pow,Nat.mul_comm,show (2:Int).natAbs = 2 from rfl,show 2 * (m'.natAbs / 2)+1 = m'.natAbs by omega]
 obtain ⟨rfl,_⟩:=two_part _ _ _ _ (a1.symm.trans a2)
 have hp:(2:Int) ^ k ≠ 0:=Int.pow_ne_zero (by decide)
 exact ⟨Int.eq_of_mul_eq_mul_right hp (h1.symm.trans h3),rfl⟩
theorem oddOf (z:Int) (h:z ≠ 0):OddOf z (oM z) (tz z.natAbs):=by
 obtain ⟨m,hm⟩:=tz_spec z.natAbs (by omega)
 unfold oM
 generalize tz z.natAbs = k at *
 have hp:(2:Int) ^ k ≠ 0:=Int.pow_ne_zero (by decide)
 have hz:z = 2 ^ k * (2 * (m:Int)+1) ∨ z = 2 ^ k * (2 * (-(m:Int) - 1)+1):=by
  have e:(z.natAbs:Int) = 2 ^ k * (2 * (m:Int)+1):=by rw [hm];push_cast;rfl
  rcases Int.natAbs_eq z with h1 | h1
  ·left;rw [h1,e]
  ·right;rw [h1,e,← Int.mul_neg];congr 1;omega
 rcases hz with hz | hz
 ·have hd:z / 2 ^ k = 2 * (m:Int)+1:=by rw [hz];exact Int.mul_ediv_cancel_left _ hp
  rw [hd]
  exact ⟨by rw [Int.mul_comm];exact hz,by omega⟩
 ·have hd:z / 2 ^ k = 2 * (-(m:Int) - 1)+1:=by rw [hz];exact Int.mul_ediv_cancel_left _ hp
  rw [hd]
  exact ⟨by rw [Int.mul_comm];exact hz,by omega⟩
theorem OddOf.eq {z m:Int} {k:Nat} (h:OddOf z m k):z ≠ 0∧m = oM z∧k = tz z.natAbs:=by
 have hz:z ≠ 0:=by
  rw [h.1]
  intro e
  rcases Int.mul_eq_zero.1 e with e | e
  ·have:=h.2;rw [e] at this;simp at this
  ·exact Int.pow_ne_zero (by decide) e
 obtain ⟨a,b⟩:=h.unique (oddOf z hz)
 exact ⟨hz,a,b⟩
end Go.Proofs.YtcbcmlaogehimaaGreatDoor
namespace Go.Proofs.YtcbcmlaogehimaaGreatDoor
def bl (v:Nat):Nat:=if v = 0 then 0 else Nat.log2 v+1
theorem bl_spec (v:Nat) (h:v ≠ 0):1≤bl v∧2 ^ (bl v - 1)≤v∧v < 2 ^ bl v:=by
 unfold bl
 rw [if_neg h]
 exact ⟨by omega,by simpa using Nat.log2_self_le h,Nat.lt_log2_self⟩
theorem pow_lt_of {a b:Nat} (h:(2:Nat) ^ a < 2 ^ b):a < b:=(Nat.pow_lt_pow_iff_right (by decide)).1 h
theorem pow_le2 {a b:Nat} (h:a≤b):(2:Nat) ^ a≤2 ^ b:=Nat.pow_le_pow_right (by decide) h
theorem bl_of {v n:Nat} (h1:1≤n) (h2:2 ^ (n - 1)≤v) (h3:v < 2 ^ n):bl v = n:=by
 have hp:0 < 2 ^ (n - 1):=Nat.two_pow_pos _
 obtain ⟨a1,a2,a3⟩:=bl_spec v (by omega)
 have b1:=pow_lt_of (Nat.lt_of_le_of_lt a2 h3)
 have b2:=pow_lt_of (Nat.lt_of_le_of_lt h2 a3)
 omega
theorem bl_scale (v k:Nat) (h:v ≠ 0):bl (v * 2 ^ k) = bl v+k:=by
 obtain ⟨a1,a2,a3⟩:=bl_spec v h
 have hp:0 < 2 ^ k:=Nat.two_pow_pos _
 refine bl_of (by omega) ?_ ?_
 ·rw [show bl v+k - 1 = (bl v - 1)+k by omega,Nat.pow_add]
  exact Nat.mul_le_mul_right _ a2
 ·rw [Nat.pow_add]
  exact Nat.mul_lt_mul_of_pos_right a3 hp
def cutE (v k:Nat):Nat:=v / 2 ^ k+(if 2 ^ k < 2 * (v % 2 ^ k) ∨ (2 ^ k = 2 * (v % 2 ^ k)∧v / 2 ^ k % 2 = 1) then 1 else 0)
theorem cutE_le (v k:Nat):v / 2 ^ k≤cutE v k∧cutE v k≤v / 2 ^ k+1:=by
 unfold cutE;split <;> omega
theorem cutE_mono {v u:Nat} (k:Nat) (h:v≤u):cutE v k≤cutE u k:=by
 have hq:v / 2 ^ k≤u / 2 ^ k:=Nat.div_le_div_right h
 by_cases he:v / 2 ^ k = u / 2 ^ k
 ·have h1:=Nat.div_add_mod v (2 ^ k)
  have h2:=Nat.div_add_mod u (2 ^ k)
  rw [he] at h1
  have hr:v % 2 ^ k≤u % 2 ^ k:=by omega
  unfold cutE
  rw [he]
  generalize v % 2 ^ k = r at *
  generalize u % 2 ^ k = s at *
  generalize u / 2 ^ k = q at *
  generalize 2 ^ k = p at *
  split <;> split <;> omega
 ·have:=(cutE_le v k).2
  have:=(cutE_le u k).1
  omega
theorem cutE_whole (a k:Nat):cutE (a * 2 ^ k) k = a:=by
 have hp:0 < 2 ^ k:=Nat.two_pow_pos _
 unfold cutE
 rw [Nat.mul_mod_left,Nat.mul_div_cancel _ hp,if_neg (by omega)]
 omega
theorem cutE_ge {a v k:Nat} (h:a * 2 ^ k≤v):a≤cutE v k:=by
 have:=cutE_mono k h;rwa [cutE_whole] at this
theorem cutE_upto {a v k:Nat} (h:v≤a * 2 ^ k):cutE v k≤a:=by
 have:=cutE_mono k h;rwa [cutE_whole] at this
theorem cutE_scale (v i k:Nat):cutE (v * 2 ^ i) (k+i) = cutE v k:=by
 have hp:0 < 2 ^ i:=Nat.two_pow_pos _
 have h1:v * 2 ^ i / 2 ^ (k+i) = v / 2 ^ k:=by
  rw [Nat.pow_add,Nat.mul_div_mul_right _ _ hp]
 have h2:v * 2 ^ i % 2 ^ (k+i) = v % 2 ^ k * 2 ^ i:=by
  rw [Nat.pow_add,Nat.mul_mod_mul_right]
 unfold cutE
 rw [h1,h2,Nat.pow_add,← Nat.mul_assoc]
 have e1:(2 ^ k * 2 ^ i < 2 * (v % 2 ^ k) * 2 ^ i) ↔ 2 ^ k < 2 * (v % 2 ^ k):=Nat.mul_lt_mul_right hp
 have e2:(2 ^ k * 2 ^ i = 2 * (v % 2 ^ k) * 2 ^ i) ↔ 2 ^ k = 2 * (v % 2 ^ k):=Nat.mul_left_inj (by omega)
 simp only [e1,e2]
def mS (v:Nat) (j:Int):Nat:=if 0≤j then v * 2 ^ j.toNat else cutE v (-j).toNat
theorem mS_up (v k:Nat):mS v (k:Int) = v * 2 ^ k:=by unfold mS;rw [if_pos (by omega)];simp
theorem mS_down (v k:Nat) (h:1≤k):mS v (-(k:Int)) = cutE v k:=by unfold mS;rw [if_neg (by omega)];simp
theorem mS_scale (v i:Nat) (j:Int):mS (v * 2 ^ i) j = mS v (j+i):=by
 rcases Int.eq_ofNat_of_zero_le (a:=if 0≤j then j else -j) (by split <;> omega) with ⟨k,hk⟩
 by_cases h0:0≤j
 ·rw [if_pos h0] at hk
  subst hk
  rw [mS_up,show ((k:Int)+(i:Int)) = ((i+k:Nat):Int) by omega,mS_up,Nat.pow_add,Nat.mul_assoc]
 ·rw [if_neg h0] at hk
  obtain rfl:j = -(k:Int):=by omega
  rw [mS_down _ _ (by omega)]
  by_cases h1:k≤i
  ·obtain ⟨d,rfl⟩:=Nat.exists_eq_add_of_le h1
   rw [show (-(k:Int)+((k+d:Nat):Int)) = (d:Int) by omega,mS_up,Nat.add_comm k d,Nat.pow_add,← Nat.mul_assoc,cutE_whole]
  ·obtain ⟨d,rfl⟩:=Nat.exists_eq_add_of_le (show i≤k by omega)
   rw [show (-((i+d:Nat):Int)+(i:Int)) = -(d:Int) by omega,mS_down _ _ (by omega),Nat.add_comm i d,cutE_scale]
def pN (v:Nat) (j:Int):Nat:=if 0≤j+1 then v * 2 ^ (j+1).toNat else v / 2 ^ (-(j+1)).toNat
def pUp (v:Nat) (j:Int):Bool:=decide (pN v j % 2 = 1) && (!decide (j = -1) || decide (pN v j / 2 % 2 = 1))
def pM (v:Nat) (j:Int):Nat:=(pN v j+(pUp v j).toNat) / 2
theorem pM_mS (v:Nat) (j:Int) (h:v % 2 = 1):pM v j = mS v j:=by
 by_cases h0:0≤j
 ·obtain ⟨k,rfl⟩:=Int.eq_ofNat_of_zero_le h0
  have hn:pN v k = v * 2 ^ k * 2:=by
   unfold pN
   rw [if_pos (by omega),show ((k:Int)+1).toNat = k+1 by omega,Nat.pow_succ,Nat.mul_assoc]
  have hu:pUp v k = false:=by
   unfold pUp
   rw [hn,decide_eq_false (by omega)];rfl
  rw [mS_up]
  unfold pM
  rw [hu,hn]
  simp
 ·obtain ⟨k,hk⟩:=Int.eq_ofNat_of_zero_le (show 0≤-j by omega)
  obtain rfl:j = -(k:Int):=by omega
  obtain ⟨i,rfl⟩:∃ i,k = i+1:=⟨k - 1,by omega⟩
  rw [mS_down _ _ (by omega)]
  have hn:pN v (-((i+1:Nat):Int)) = v / 2 ^ i:=by
   unfold pN
   by_cases hi:i = 0
   ·subst hi;simp
   ·rw [if_neg (by omega),show (-(-((i+1:Nat):Int)+1)).toNat = i by omega]
  have hj:decide (-((i+1:Nat):Int) = -1) = decide (i = 0):=by
   by_cases hi:i = 0
   ·subst hi;simp
   ·rw [decide_eq_false hi,decide_eq_false (by omega)]
  have hq:v / 2 ^ (i+1) = v / 2 ^ i / 2:=by rw [Nat.pow_succ,Nat.div_div_eq_div_mul]
  have hr:v % 2 ^ (i+1) = v % 2 ^ i+2 ^ i * (v / 2 ^ i % 2):=by rw [Nat.pow_succ,Nat.mod_mul]
  have hs:i ≠ 0→0 < v % 2 ^ i:=by
   intro hi
   have:v % 2 ^ i % 2 = v % 2:=Nat.mod_mod_of_dvd _ (by obtain ⟨m,rfl⟩:∃ m,i = m+1:=⟨i - 1,by omega⟩;rw [Nat.pow_succ];exact Nat.dvd_mul_left _ _)
   omega
  have hl:=Nat.mod_lt v (Nat.two_pow_pos i)
  unfold pM pUp cutE
  rw [hn,hj,hq,hr,Nat.pow_succ]
  by_cases hi:i = 0
  ·subst hi
   simp only [Nat.pow_zero,Nat.div_one,Nat.mod_one,Nat.zero_add,Nat.one_mul,h]
   by_cases h2:v / 2 % 2 = 1
   ·simp [h2] <;> omega
   ·simp [h2] <;> omega
  ·have hs':=hs hi
   simp only [decide_eq_false hi,Bool.not_false,Bool.true_or,Bool.and_true]
   generalize v / 2 ^ i = n at *
   generalize v % 2 ^ i = s at *
   generalize 2 ^ i = p at *
   by_cases h2:n % 2 = 1
   ·rw [h2,if_pos (by left;omega)]
    simp;omega
   ·have h3:n % 2 = 0:=by omega
    rw [h3,if_neg (by omega)]
    simp
end Go.Proofs.YtcbcmlaogehimaaGreatDoor
namespace Go.Proofs.YtcbcmlaogehimaaGreatDoor
def lastE (v:Nat) (E:Int):Int:=max ((bl v:Int)+E - 53) (-1074)
def rndM (v:Nat) (E:Int):Nat:=mS v (E - lastE v E)
def rnd (v:Nat) (E:Int):Nat:=if v = 0 then 0 else if 1024 < (bl v:Int)+E then 9218868437227405312 else rndM v E+(lastE v E+1074).toNat * 4503599627370496
def rflag (v:Nat) (E:Int):Int:=if v = 0 then 0 else if 1024 < (bl v:Int)+E then 5 else if lastE v E≤E then 0 else if rnd v E = 9218868437227405312 then 5 else if rnd v E < 4503599627370496 then 3 else 1
theorem lastE_ge (v:Nat) (E:Int):-1074≤lastE v E∧(bl v:Int)+E - 53≤lastE v E∧(lastE v E = -1074 ∨ lastE v E = (bl v:Int)+E - 53):=by
 unfold lastE;omega
theorem p53:(2:Nat) ^ 53 = 9007199254740992:=by decide
theorem p52:(2:Nat) ^ 52 = 4503599627370496:=by decide
theorem rndM_bounds (v:Nat) (E:Int) (h:v ≠ 0):rndM v E≤9007199254740992∧(-1074 < lastE v E→4503599627370496≤rndM v E)∧(lastE v E≤E→rndM v E < 9007199254740992):=by
 obtain ⟨l1,l2,l3⟩:=lastE_ge v E
 obtain ⟨a1,a2,a3⟩:=bl_spec v h
 unfold rndM
 generalize lastE v E = l at *
 rcases Int.le_total l E with hle | hle
 ·obtain ⟨k,hk⟩:=Int.eq_ofNat_of_zero_le (show 0≤E - l by omega)
  rw [hk,mS_up]
  have hp:0 < 2 ^ k:=Nat.two_pow_pos _
  have hu:v * 2 ^ k < 2 ^ 53:=by
   have h1:v * 2 ^ k < 2 ^ bl v * 2 ^ k:=Nat.mul_lt_mul_of_pos_right a3 hp
   rw [← Nat.pow_add] at h1
   exact Nat.lt_of_lt_of_le h1 (pow_le2 (by omega))
  rw [p53] at hu
  refine ⟨by omega,fun hl=>?_,fun _=>hu⟩
  have h1:2 ^ (bl v - 1) * 2 ^ k≤v * 2 ^ k:=Nat.mul_le_mul_right _ a2
  rw [← Nat.pow_add,show bl v - 1+k = 52 by omega,p52] at h1
  exact h1
 ·obtain ⟨k,hk⟩:=Int.eq_ofNat_of_zero_le (show 0≤l - E by omega)
  by_cases hk0:k = 0
  ·subst hk0
   rw [show E - l = ((0:Nat):Int) by omega,mS_up]
   have hu:v < 2 ^ 53:=Nat.lt_of_lt_of_le a3 (pow_le2 (by omega))
   rw [p53] at hu
   refine ⟨by omega,fun hl=>?_,fun _=>by omega⟩
   rw [show bl v - 1 = 52 by omega,p52] at a2
   omega
  ·rw [show E - l = -(k:Int) by omega,mS_down _ _ (by omega)]
   refine ⟨?_,fun hl=>?_,fun hl=>by omega⟩
   ·rw [← p53]
    refine cutE_upto ?_
    rw [← Nat.pow_add]
    exact Nat.le_trans (Nat.le_of_lt a3) (pow_le2 (by omega))
   ·rw [← p52]
    refine cutE_ge ?_
    rw [← Nat.pow_add,show 52+k = bl v - 1 by omega]
    exact a2
theorem rnd_fin (v:Nat) (E:Int) (h:v ≠ 0) (ht:(bl v:Int)+E≤1024):rnd v E = rndM v E+(lastE v E+1074).toNat * 4503599627370496:=by
 unfold rnd;rw [if_neg h,if_neg (by omega)]
theorem rnd_le (v:Nat) (E:Int):rnd v E≤9218868437227405312:=by
 by_cases h:v = 0
 ·subst h;simp [rnd]
 ·by_cases ht:1024 < (bl v:Int)+E
  ·unfold rnd;rw [if_neg h,if_pos ht];exact Nat.le_refl _
  ·rw [rnd_fin v E h (by omega)]
   obtain ⟨l1,l2,l3⟩:=lastE_ge v E
   have:=(rndM_bounds v E h).1
   omega
theorem rnd_scale (v i:Nat) (E:Int):rnd (v * 2 ^ i) E = rnd v (E+i):=by
 by_cases h:v = 0
 ·subst h;simp [rnd]
 ·have hp:0 < 2 ^ i:=Nat.two_pow_pos _
  have h':v * 2 ^ i ≠ 0:=Nat.mul_ne_zero h (by omega)
  have hb:=bl_scale v i h
  have hl:lastE (v * 2 ^ i) E = lastE v (E+i):=by unfold lastE;rw [hb];congr 1;omega
  unfold rnd rndM
  rw [if_neg h,if_neg h',hl,hb,mS_scale,show E - lastE v (E+i)+i = E+i - lastE v (E+i) by omega,show ((bl v+i:Nat):Int)+E = (bl v:Int)+(E+i) by omega]
def rv (r:Nat):Nat:=if r < 4503599627370496 then r else (4503599627370496+r % 4503599627370496) * 2 ^ (r / 4503599627370496 - 1)
theorem rv_of (m k:Nat) (h1:m≤9007199254740992) (h2:k ≠ 0→4503599627370496≤m):rv (m+k * 4503599627370496) = m * 2 ^ k:=by
 unfold rv
 by_cases h:m+k * 4503599627370496 < 4503599627370496
 ·rw [if_pos h]
  obtain rfl:k = 0:=by omega
  simp
 ·rw [if_neg h]
  by_cases h3:m < 9007199254740992
  ·have hm:4503599627370496≤m:=by
    by_cases hk:k = 0
    ·omega
    ·exact h2 hk
   rw [show (m+k * 4503599627370496) / 4503599627370496 = k+1 by omega,show (m+k * 4503599627370496) % 4503599627370496 = m - 4503599627370496 by omega,show 4503599627370496+(m - 4503599627370496) = m by omega]
   rfl
  ·obtain rfl:m = 9007199254740992:=by omega
   rw [show (9007199254740992+k * 4503599627370496) / 4503599627370496 = k+2 by omega,show (9007199254740992+k * 4503599627370496) % 4503599627370496 = 0 by omega,show k+2 - 1 = k+1 by omega,Nat.pow_succ]
   omega
theorem rv_succ (r:Nat):rv r < rv (r+1):=by
 by_cases h:r < 4503599627370496
 ·have e1:=rv_of r 0 (by omega) (by simp)
  have e2:=rv_of (r+1) 0 (by omega) (by simp)
  simp at e1 e2
  rw [e1,e2];omega
 ·obtain ⟨k,hk⟩:∃ k,r / 4503599627370496 = k+1:=⟨r / 4503599627370496 - 1,by omega⟩
  have hr:r = (4503599627370496+r % 4503599627370496)+k * 4503599627370496:=by omega
  generalize hm:4503599627370496+r % 4503599627370496 = m at *
  have hm1:m < 9007199254740992:=by omega
  have e1:=rv_of m k (by omega) (fun _=>by omega)
  have e2:=rv_of (m+1) k (by omega) (fun _=>by omega)
  rw [← hr] at e1
  rw [show m+1+k * 4503599627370496 = r+1 by omega] at e2
  rw [e1,e2]
  exact Nat.mul_lt_mul_of_pos_right (by omega) (Nat.two_pow_pos _)
theorem rv_mono {r s:Nat} (h:r≤s):rv r≤rv s:=by
 obtain ⟨d,rfl⟩:=Nat.exists_eq_add_of_le h
 induction d with
 | zero=>exact Nat.le_refl _
 | succ d ih=>exact Nat.le_trans (ih (by omega)) (Nat.le_of_lt (rv_succ (r+d)))
theorem rv_zero:rv 0 = 0:=by decide
end Go.Proofs.YtcbcmlaogehimaaGreatDoor
namespace Go.Proofs.YtcbcmlaogehimaaGreatDoor
open Go.RowKit
def fS (b:Nat):Bool:=decide (9223372036854775808≤b)
def fP (b:Nat):Nat:=b % 9223372036854775808 / 4503599627370496
def fF (b:Nat):Nat:=b % 4503599627370496
def fN (b:Nat):Nat:=if 9223372036854775808≤b then b - 9223372036854775808 else b+9223372036854775808
def fK (b:Nat):Int:=if fP b = 2047 then (if fF b = 0 then 3 else 4) else if fP b = 0 then (if fF b = 0 then 0 else 1) else 2
theorem and_top (b:Nat) (h:b < 18446744073709551616):bits .and .u64 (b:Int) 9223372036854775808 = if fS b then 9223372036854775808 else 0:=by
 have h1:=bits_and_u64_nat b 9223372036854775808 h (by decide)
 refine h1.trans ?_
 have h2:(b &&& 2 ^ 63) % 2 ^ 63 = 0:=by rw [Nat.and_mod_two_pow];simp
 have h3:(b &&& 2 ^ 63) / 2 ^ 63 = (b / 2 ^ 63) &&& 1:=by rw [Nat.and_div_two_pow]
 rw [show (9223372036854775808:Nat) = 2 ^ 63 by decide]
 have h4:=Nat.div_add_mod (b &&& 2 ^ 63) (2 ^ 63)
 rw [h2,h3] at h4
 unfold fS
 by_cases hb:9223372036854775808≤b
 ·rw [decide_eq_true hb,if_pos rfl]
  rw [show b / 2 ^ 63 = 1 by omega] at h4
  simp only [Nat.and_self] at h4
  omega
 ·rw [decide_eq_false hb,if_neg (by simp)]
  rw [show b / 2 ^ 63 = 0 by omega] at h4
  simp only [Nat.zero_and] at h4
  omega
theorem and_low (b:Nat) (h:b < 18446744073709551616):bits .and .u64 (b:Int) 4503599627370495 = (fF b:Int):=by
 have h1:=bits_and_u64_nat b 4503599627370495 h (by decide)
 refine h1.trans ?_
 have h2:b &&& 2 ^ 52 - 1 = b % 2 ^ 52:=Nat.and_two_pow_sub_one_eq_mod b 52
 rw [show (4503599627370495:Nat) = 2 ^ 52 - 1 by decide,h2]
 rfl
theorem and_mid (b:Nat) (h:b < 18446744073709551616):bits .and .u64 ((b:Int) / 4503599627370496) 2047 = (fP b:Int):=by
 have h1:=bits_and_u64_nat (b / 4503599627370496) 2047 (by omega) (by decide)
 refine h1.trans ?_
 have h2:(b / 4503599627370496) &&& 2 ^ 11 - 1 = (b / 4503599627370496) % 2 ^ 11:=Nat.and_two_pow_sub_one_eq_mod _ 11
 rw [show (2047:Nat) = 2 ^ 11 - 1 by decide,h2]
 unfold fP
 omega
theorem xor_top (b:Nat) (h:b < 18446744073709551616):bits .xor .u64 (b:Int) 9223372036854775808 = (fN b:Int):=by
 have h1:=bits_xor_u64_nat b 9223372036854775808 h (by decide)
 refine h1.trans ?_
 have h2:(b ^^^ 2 ^ 63) % 2 ^ 63 = b % 2 ^ 63:=by rw [Nat.xor_mod_two_pow];simp
 have h3:(b ^^^ 2 ^ 63) / 2 ^ 63 = (b / 2 ^ 63) ^^^ 1:=by rw [Nat.xor_div_two_pow]
 rw [show (9223372036854775808:Nat) = 2 ^ 63 by decide]
 unfold fN
 have h4:=Nat.div_add_mod (b ^^^ 2 ^ 63) (2 ^ 63)
 rw [h2,h3] at h4
 by_cases hb:9223372036854775808≤b
 ·rw [if_pos hb]
  rw [show b / 2 ^ 63 = 1 by omega] at h4
  simp only [Nat.xor_self] at h4
  omega
 ·rw [if_neg hb]
  rw [show b / 2 ^ 63 = 0 by omega] at h4
  simp only [Nat.zero_xor] at h4
  omega
theorem fP_lt (b:Nat):fP b < 2048:=by unfold fP;omega
theorem fF_lt (b:Nat):fF b < 4503599627370496:=by unfold fF;omega
theorem fN_lt (b:Nat) (h:b < 18446744073709551616):fN b < 18446744073709551616:=by unfold fN;split <;> omega
def BoxF (w:World) (b:Nat) (x y z:Value):Prop:=w.heap[b]? = some (.cells #[x,y,z] 183 (0,0))
theorem BoxF.c0 {w:World} {b:Nat} {x y z:Value} (h:BoxF w b x y z):w.cell? ⟨b,0,none⟩ = some x:=by rw [cell_of_row w b 0 _ _ _ h];rfl
theorem BoxF.c1 {w:World} {b:Nat} {x y z:Value} (h:BoxF w b x y z):w.cell? ⟨b,1,none⟩ = some y:=by rw [cell_of_row w b 1 _ _ _ h];rfl
theorem BoxF.c2 {w:World} {b:Nat} {x y z:Value} (h:BoxF w b x y z):w.cell? ⟨b,2,none⟩ = some z:=by rw [cell_of_row w b 2 _ _ _ h];rfl
theorem BoxF.lt {w:World} {b:Nat} {x y z:Value} (h:BoxF w b x y z):b < w.heap.size:=(Array.getElem?_eq_some_iff.1 h).1
theorem BoxF.below {w w':World} {b:Nat} {x y z:Value} (h:BoxF w b x y z) {B:Nat} (hb:Below B w w') (hlt:b < B):BoxF w' b x y z:=(hb.block b hlt).trans h
theorem BoxF.new (w:World) (x y z:Value):BoxF (w.alloc (.cells #[x,y,z] 183)) w.heap.size x y z:=heap_alloc_new w _
theorem BoxF.all {w w':World} {b:Nat} {x y z:Value} (h:BoxF w b x y z) (hb:Below w.heap.size w w'):BoxF w' b x y z:=h.below hb h.lt
def fV (b:Nat):Value:=.agg #[.bool (fS b),.int .u64 (fP b),.int .u64 (fF b)]
theorem split_any (b:Nat) (w:World) (h:b < 18446744073709551616) :
  Calls Tryz.prog 200 #[.int .u64 b] w fun e w'=>e = .returned (fV b)∧Below w.heap.size w w':=by
 have k1:=and_top b h
 have k2:=and_low b h
 have k3:=and_mid b h
 unfold fV
 generalize fF b = f at *
 generalize fP b = p at *
 generalize fS b = s at *
 have hb:(0:Int)≤b:=by omega
 have hb2:(b:Int) < 18446744073709551616:=by omega
 clear h
 cases s
 ·simp only [Bool.false_eq_true,if_false] at k1
  go_enter Tryz.func200,Tryz.ntmps200
  go_wp2_with (simp only [k1,k2,k3])
  refine bodyPost_ret (v:=.agg #[.bool false,.int .u64 p,.int .u64 f]) (by simp [results,Tryz.results200,go_sem]) rfl ⟨rfl,(Below.refl _ _).alloc (Nat.le_refl _) _⟩
 ·simp only [if_true] at k1
  go_enter Tryz.func200,Tryz.ntmps200
  go_wp2_with (simp only [k1,k2,k3])
  refine bodyPost_ret (v:=.agg #[.bool true,.int .u64 p,.int .u64 f]) (by simp [results,Tryz.results200,go_sem]) rfl ⟨rfl,(Below.refl _ _).alloc (Nat.le_refl _) _⟩
theorem sminus_any (b:Nat) (w:World) (h:b < 18446744073709551616) :
  Calls Tryz.prog 162 #[.int .u64 b] w fun e w'=>e = .returned (.int .u64 (fN b))∧w = w':=by
 have k1:=xor_top b h
 generalize fN b = f at *
 clear h
 go_enter Tryz.func162,Tryz.ntmps162
 go_wp2_with (simp only [k1])
 go_ret
 exact ⟨rfl,rfl⟩
theorem field_sign (s:Bool) (p f:Int) (W:World):(Instr.field 183 (.agg #[.bool s,.int .u64 p,.int .u64 f]) 0).run Tryz.prog W = .ok (.bool s) W:=by kernel_rfl
theorem ssign_any (b:Nat) (w:World) (h:b < 18446744073709551616) :
  Calls Tryz.prog 161 #[.int .u64 b] w fun e w'=>e = .returned (.bool (fS b))∧Below w.heap.size w w':=by
 have CS:=hide (fun w'=>split_any b w' h)
 unfold fV at CS
 generalize fF b = f at *
 generalize fP b = p at *
 generalize fS b = s at *
 have hf:=fun W=>field_sign s p f W
 clear h
 go_enter Tryz.func161,Tryz.ntmps161
 go_wp2_with (go_at_call 200;refine (uH CS _).mono ?_;rintro r w2 ⟨rfl,hb1⟩)
 go_ret
 exact ⟨rfl,hb1⟩
theorem rneg4_any (b:Nat) (w:World) (h:b < 18446744073709551616) :
  Calls Tryz.prog 115 #[.int .u64 b] w fun e w'=>e = .returned (.bool (fS b))∧w = w':=by
 unfold fS
 by_cases hb:9223372036854775808≤b
 ·rw [decide_eq_true hb]
  have hq:(b:Int) / 9223372036854775808 = 1:=by omega
  clear hb h
  go_enter Tryz.func115,Tryz.ntmps115
  go_wp2_with (simp only [hq])
  go_ret
  exact ⟨rfl,rfl⟩
 ·rw [decide_eq_false hb]
  have hq:(b:Int) / 9223372036854775808 = 0:=by omega
  clear hb h
  go_enter Tryz.func115,Tryz.ntmps115
  go_wp2_with (simp only [hq])
  go_ret
  exact ⟨rfl,rfl⟩
theorem rpower_any (b:Nat) (w:World) (_h:b < 18446744073709551616) :
  Calls Tryz.prog 114 #[.int .u64 b] w fun e w'=>e = .returned (.int .i64 (fP b))∧w = w':=by
 have hq:(b:Int) % 9223372036854775808 / 4503599627370496 = (fP b:Int):=by unfold fP;omega
 have hl:=fP_lt b
 generalize fP b = p at *
 go_enter Tryz.func114,Tryz.ntmps114
 go_wp2_with (simp only [hq])
 go_ret
 exact ⟨rfl,rfl⟩
theorem rfrac_any (b:Nat) (w:World) (_h:b < 18446744073709551616) :
  Calls Tryz.prog 113 #[.int .u64 b] w fun e w'=>e = .returned (.int .u64 (fF b))∧w = w':=by
 have hq:(b:Int) % 4503599627370496 = (fF b:Int):=by unfold fF;omega
 have hl:=fF_lt b
 generalize fF b = p at *
 go_enter Tryz.func113,Tryz.ntmps113
 go_wp2_with (simp only [hq])
 go_ret
 exact ⟨rfl,rfl⟩
end Go.Proofs.YtcbcmlaogehimaaGreatDoor
