/- Part 21 of the texts. -/
import Derived.Test.YtnnfjeieennffaaGreatDoorPartb17
import Derived.Test.YtnnfjeieennffaaGreatDoorPartb14
import Derived.Test.YtnnfjeieennffaaGreatDoorPartb12
import Derived.Test.YtnnfjeieennffaaGreatDoorPartb13
import Derived.Test.YtnnfjeieennffaaGreatDoorPartb11
import Derived.Deep.Cut
import Derived.BigQuiet
import Derived.Test.YtnnfjeieennffaaGreatDoorPartb15
import Derived.Test.YtnnfjeieennffaaGreatDoorPartb16
import Derived.Test.YtnnfjeieennffaaGreatDoorPartb19
namespace Go.Proofs.YtnnfjeieennffaaGreatDoor
open Go.RowKit
def BitsAt (w:World) (ao:Option Addr) (cap:Nat) (I:List Int):Prop :=
 I.length≤cap∧(∀ x ∈ I,0≤x∧x≤18446744073709551615)∧(I = [] ∨ ∃ b off,ao = some ⟨b,off,none⟩∧b < w.heap.size∧∀ i,i < I.length→w.cell? ⟨b,off+i,none⟩ = some (.int .u64 (I[i]?.getD 0)))
theorem BitsAt.below {w w':World} {ao:Option Addr} {cap:Nat} {I:List Int} (h:BitsAt w ao cap I) (hb:Below w.heap.size w w'):BitsAt w' ao cap I:=by
 refine ⟨h.1,h.2.1,?_⟩
 rcases h.2.2 with h | ⟨b,off,h1,h2,h3⟩
 ·exact .inl h
 ·refine .inr ⟨b,off,h1,Nat.lt_of_lt_of_le h2 hb.size,fun i hi=>?_⟩
  rw [hb.cell (p:=⟨b,off+i,none⟩) h2]
  exact h3 i hi
def atB (I:List Int) (j:Nat):Nat:=(I[j]?.getD 0).toNat
theorem BitsAt.wf {w:World} {ao:Option Addr} {cap:Nat} {I:List Int} (h:BitsAt w ao cap I) (j:Nat):I[j]?.getD 0 = (atB I j:Int)∧atB I j < 18446744073709551616:=by
 unfold atB
 by_cases hi:j < I.length
 ·have:=h.2.1 _ (List.getElem_mem hi)
  rw [List.getElem?_eq_getElem hi]
  simp only [Option.getD_some]
  omega
 ·rw [List.getElem?_eq_none (by omega)];simp
theorem BitsAt.ne {w:World} {ao:Option Addr} {cap:Nat} {I:List Int} (h:BitsAt w ao cap I) (h0:0 < I.length):∃ b off,ao = some ⟨b,off,none⟩∧b < w.heap.size∧∀ i,i < I.length→w.cell? ⟨b,off+i,none⟩ = some (.int .u64 (atB I i:Int)):=by
 rcases h.2.2 with e | ⟨b,off,e1,e2,e3⟩
 ·rw [e] at h0;simp at h0
 ·exact ⟨b,off,e1,e2,fun i hi=>by rw [e3 i hi,(h.wf i).1]⟩
end Go.Proofs.YtnnfjeieennffaaGreatDoor
namespace Go.Proofs.YtnnfjeieennffaaGreatDoor
open Go.RowKit
def p2 (e:Int):Rat:=(2:Rat) ^ e
theorem two_ne:(2:Rat) ≠ 0:=by decide
theorem p2_pos (e:Int):0 < p2 e:=Rat.zpow_pos (by decide)
theorem p2_add (a b:Int):p2 (a+b) = p2 a * p2 b:=Rat.zpow_add two_ne a b
theorem p2_0:p2 0 = 1:=Rat.zpow_zero 2
theorem p2_nat (k:Nat):p2 (k:Int) = ((2 ^ k:Nat):Rat):=by
 unfold p2
 rw [Rat.zpow_natCast,Rat.natCast_pow]
 rfl
theorem p2_1:p2 1 = 2:=Rat.zpow_one 2
theorem p2_neg (a:Int):p2 (-a) * p2 a = 1:=by rw [← p2_add,show -a+a = 0 by omega,p2_0]
theorem p2_succ (e:Int):p2 (e+1) = 2 * p2 e:=by rw [p2_add,p2_1,Rat.mul_comm]
theorem p2_52 (e:Int):p2 (e+52) = 4503599627370496 * p2 e:=by
 rw [p2_add,show (52:Int) = ((52:Nat):Int) by rfl,p2_nat,Rat.mul_comm]
 rfl
theorem p2_mono {a b:Int} (h:a≤b):p2 a≤p2 b:=by
 obtain ⟨k,hk⟩:∃ k:Nat,b = a+(k:Int):=⟨(b - a).toNat,by omega⟩
 rw [hk,p2_add,p2_nat]
 have h1:((1:Nat):Rat)≤((2 ^ k:Nat):Rat):=Rat.natCast_le_natCast.2 Nat.one_le_two_pow
 have h2:=Rat.mul_le_mul_of_nonneg_left h1 (Rat.le_of_lt (p2_pos a))
 have h3:((1:Nat):Rat) = 1:=rfl
 rw [h3,Rat.mul_one] at h2
 exact h2
def xE (v:Nat) (E:Int):Rat:=(v:Rat) * p2 E
def yE (v:Nat) (E:Int):Rat:=(rv (rnd v E):Rat) * p2 (-1074)
theorem rv_rnd (v:Nat) (E:Int) (h:v ≠ 0) (ht:(bl v:Int)+E≤1024):rv (rnd v E) = rndM v E * 2 ^ (lastE v E+1074).toNat:=by
 obtain ⟨b1,b2,b3⟩:=rndM_bounds v E h
 obtain ⟨l1,l2,l3⟩:=lastE_ge v E
 rw [rnd_fin v E h ht]
 exact rv_of _ _ b1 (fun hk=>b2 (by omega))
theorem yE_last (v:Nat) (E:Int) (h:v ≠ 0) (ht:(bl v:Int)+E≤1024):yE v E = (rndM v E:Rat) * p2 (lastE v E):=by
 obtain ⟨l1,l2,l3⟩:=lastE_ge v E
 unfold yE
 rw [rv_rnd v E h ht,Rat.natCast_mul,← p2_nat,Rat.mul_assoc,← p2_add]
 congr 2
 omega
theorem fin_top (v:Nat) (E:Int) (h:v ≠ 0) (hf:rnd v E < 9218868437227405312):(bl v:Int)+E≤1024:=by
 rcases Int.lt_or_le 1024 ((bl v:Int)+E) with g | g
 ·have:=(rnd_high h g).1
  omega
 ·exact g
theorem rnd_half (v:Nat) (E:Int) (h:v ≠ 0) (ht:(bl v:Int)+E≤1024) :
  (lastE v E≤E→yE v E = xE v E)∧2 * yE v E≤2 * xE v E+p2 (lastE v E)∧2 * xE v E≤2 * yE v E+p2 (lastE v E):=by
 have hp:=p2_pos (lastE v E)
 by_cases hl:lastE v E≤E
 ·have e:yE v E = xE v E:=by
   obtain ⟨k,hk⟩:∃ k:Nat,E - lastE v E = (k:Int):=⟨(E - lastE v E).toNat,by omega⟩
   rw [yE_last v E h ht]
   unfold rndM xE
   rw [hk,mS_up,Rat.natCast_mul,← p2_nat,Rat.mul_assoc,← p2_add,show ((k:Nat):Int)+lastE v E = E by omega]
  refine ⟨fun _=>e,?_,?_⟩ <;> rw [e] <;> grind
 ·obtain ⟨k,hk,hk1⟩:∃ k:Nat,E - lastE v E = -(k:Int)∧1≤k:=⟨(lastE v E - E).toNat,by omega,by omega⟩
  obtain ⟨c1,c2⟩:=cutE_near v k
  have hE:lastE v E = (k:Int)+E:=by omega
  have hy:yE v E = ((cutE v k * 2 ^ k:Nat):Rat) * p2 E:=by
   rw [yE_last v E h ht]
   unfold rndM
   rw [hk,mS_down _ _ hk1,hE,p2_add,p2_nat,Rat.natCast_mul,Rat.mul_assoc]
  have hpE:=p2_pos E
  have hP:p2 (lastE v E) = ((2 ^ k:Nat):Rat) * p2 E:=by rw [hE,p2_add,p2_nat]
  have d1:=Rat.mul_le_mul_of_nonneg_left (Rat.natCast_le_natCast.2 c1) (Rat.le_of_lt hpE)
  have d2:=Rat.mul_le_mul_of_nonneg_left (Rat.natCast_le_natCast.2 c2) (Rat.le_of_lt hpE)
  rw [Rat.natCast_add,Rat.natCast_mul 2,Rat.natCast_mul 2] at d1 d2
  have t2:((2:Nat):Rat) = 2:=rfl
  rw [t2] at d1 d2
  refine ⟨fun g=>absurd g hl,?_,?_⟩ <;> rw [hy,hP] <;> unfold xE <;> grind
theorem rnd_err (v:Nat) (E:Int) (hf:rnd v E < 9218868437227405312) :
  (9007199254740992 * yE v E≤9007199254740992 * xE v E+xE v E∧9007199254740992 * xE v E≤9007199254740992 * yE v E+xE v E) ∨
  (rnd v E≤4503599627370496∧E < -1074∧2 * yE v E≤2 * xE v E+p2 (-1074)∧2 * xE v E≤2 * yE v E+p2 (-1074)):=by
 by_cases h:v = 0
 ·subst h
  refine .inl ?_
  have e:yE 0 E = 0:=by unfold yE;rw [rnd_0,rv_zero];exact Rat.zero_mul _
  have e2:xE 0 E = 0:=Rat.zero_mul _
  rw [e,e2]
  constructor <;> grind
 have ht:=fin_top v E h hf
 obtain ⟨l1,l2,l3⟩:=lastE_ge v E
 obtain ⟨r1,r2,r3⟩:=rnd_half v E h ht
 obtain ⟨b1,b2,b3⟩:=bl_spec v h
 have hx0:0≤xE v E:=Rat.mul_nonneg (Rat.natCast_nonneg) (Rat.le_of_lt (p2_pos E))
 by_cases hl:lastE v E≤E
 ·refine .inl ?_
  rw [r1 hl]
  constructor <;> grind
 ·rcases (show (lastE v E = -1074∧(bl v:Int)+E < -1021) ∨ lastE v E = (bl v:Int)+E - 53 by omega) with ⟨l4,l5⟩ | l3
  ·refine .inr ⟨?_,by omega,?_⟩
   ·obtain ⟨k,hk,hk1⟩:∃ k:Nat,E - lastE v E = -(k:Int)∧1≤k:=⟨(lastE v E - E).toNat,by omega,by omega⟩
    have hM:rndM v E≤4503599627370496:=by
     unfold rndM
     rw [hk,mS_down _ _ hk1]
     refine cutE_upto ?_
     have h1:v < 2 ^ (52+k):=Nat.lt_of_lt_of_le b3 (pow_le2 (by omega))
     rw [Nat.pow_add,p52] at h1
     exact Nat.le_of_lt h1
    have h0:(lastE v E+1074).toNat = 0:=by omega
    rw [rnd_fin v E h ht,h0,Nat.zero_mul,Nat.add_zero]
    exact hM
   ·rw [l4] at r2 r3
    exact ⟨r2,r3⟩
  ·refine .inl ?_
   have hq:4503599627370496 * p2 (lastE v E)≤xE v E:=by
    rw [← p2_52,l3,show (bl v:Int)+E - 53+52 = ((bl v - 1:Nat):Int)+E by omega,p2_add,p2_nat]
    unfold xE
    have:=Rat.mul_le_mul_of_nonneg_left (Rat.natCast_le_natCast.2 b2) (Rat.le_of_lt (p2_pos E))
    grind
   constructor <;> grind
end Go.Proofs.YtnnfjeieennffaaGreatDoor
namespace Go.Proofs.YtnnfjeieennffaaGreatDoor
open Go.RowKit
def ab (x:Rat):Rat:=if x < 0 then -x else x
theorem ab_le {x y:Rat} (h1:x≤y) (h2:-x≤y):ab x≤y:=by unfold ab;grind
theorem le_ab (x:Rat):x≤ab x∧-x≤ab x:=by unfold ab;grind
theorem ab_pos {x:Rat} (h:0≤x):ab x = x:=by unfold ab;grind
theorem ab_neg (x:Rat):ab (-x) = ab x:=by unfold ab;grind
theorem ab_sub (x y:Rat):ab (x - y) = ab (y - x):=by unfold ab;grind
theorem ab_mul (x y:Rat):ab (x * y) = ab x * ab y:=by
 have h1:0≤x→0≤y→0≤x * y:=fun a b=>Rat.mul_nonneg a b
 have h2:0≤-x→0≤y→0≤-x * y:=fun a b=>Rat.mul_nonneg a b
 have h3:0≤x→0≤-y→0≤x * -y:=fun a b=>Rat.mul_nonneg a b
 have h4:0≤-x→0≤-y→0≤-x * -y:=fun a b=>Rat.mul_nonneg a b
 unfold ab
 by_cases a:x < 0 <;> by_cases b:y < 0 <;> simp only [a,b,if_true,if_false] <;> grind
theorem sq_nonneg (x:Rat):0≤x * x:=by
 have h1:0≤x→0≤x * x:=fun a=>Rat.mul_nonneg a a
 have h2:0≤-x→0≤-x * -x:=fun a=>Rat.mul_nonneg a a
 by_cases a:0≤x
 ·exact h1 a
 ·have:=h2 (by grind)
  grind
def fQ (a:Nat):Rat:=(fZ a:Rat) * p2 (-1074)
theorem fQ_pv (n:Bool) (r:Nat):(pv n r:Rat) * p2 (-1074) = if n = true then -((rv r:Rat) * p2 (-1074)) else (rv r:Rat) * p2 (-1074):=by
 unfold pv
 cases n
 ·simp only [Bool.false_eq_true,if_false];rfl
 ·simp only [if_true]
  rw [Rat.intCast_neg,Rat.neg_mul]
  rfl
theorem fQ_sign (a:Nat):fQ a = if fS a = true then -((rv (fR a):Rat) * p2 (-1074)) else (rv (fR a):Rat) * p2 (-1074):=fQ_pv _ _
theorem mag_0 (r:Nat):0≤(rv r:Rat) * p2 (-1074):=Rat.mul_nonneg Rat.natCast_nonneg (Rat.le_of_lt (p2_pos _))
theorem fQ_ab (a:Nat):ab (fQ a) = (rv (fR a):Rat) * p2 (-1074):=by
 have:=mag_0 (fR a)
 rw [fQ_sign]
 cases fS a
 ·simp only [Bool.false_eq_true,if_false];exact ab_pos this
 ·simp only [if_true];rw [ab_neg];exact ab_pos this
theorem cast_abs (z:Int):(z:Rat) = if z < 0 then -(z.natAbs:Rat) else (z.natAbs:Rat):=by
 by_cases h:z < 0
 ·rw [if_pos h]
  have:z = -(z.natAbs:Int):=by omega
  conv=>lhs;rw [this]
  rw [Rat.intCast_neg]
  rfl
 ·rw [if_neg h]
  have:z = (z.natAbs:Int):=by omega
  conv=>lhs;rw [this]
  rfl
theorem add_err (a b:Nat) (fa:fFin a = true) (fb:fFin b = true) (hf:fFin (aV a b) = true) :
  9007199254740992 * ab (fQ (aV a b) - (fQ a+fQ b))≤ab (fQ a+fQ b):=by
 obtain ⟨v1,v2⟩:=aV_fin a b fa fb
 have hr:=fR_fin _ hf
 rw [v1] at hr
 have hx:fQ a+fQ b = ((aZ a b:Int):Rat) * p2 (-1074):=by
  unfold fQ aZ
  rw [Rat.intCast_add,Rat.add_mul]
 have hy:fQ (aV a b) = ((pvZ (aZ a b) (-1074):Int):Rat) * p2 (-1074):=by
  unfold fQ;rw [v2]
 rw [hx,hy]
 unfold pvZ
 rw [fQ_pv,cast_abs]
 have e:=rnd_err (aZ a b).natAbs (-1074) hr
 unfold yE xE at e
 have hp:=p2_pos (-1074)
 have n0:(0:Rat)≤((aZ a b).natAbs:Rat) * p2 (-1074):=Rat.mul_nonneg Rat.natCast_nonneg (Rat.le_of_lt hp)
 by_cases h:aZ a b < 0
 ·simp only [h,decide_true,if_true]
  unfold ab
  grind
 ·simp only [h,decide_false,if_false,Bool.false_eq_true]
  unfold ab
  grind
theorem mV_any (a b:Nat) (fa:fFin a = true) (fb:fFin b = true):mV a b = wrd (fS a ^^ fS b) (rnd (rv (fR a) * rv (fR b)) (-2148)):=by
 obtain ⟨a3,a4⟩:=fin_kind fa
 obtain ⟨b3,b4⟩:=fin_kind fb
 unfold mV
 rw [if_neg (by omega),if_neg (by omega)]
theorem mul_err (a b:Nat) (fa:fFin a = true) (fb:fFin b = true) (hf:fFin (mV a b) = true) :
  9007199254740992 * ab (fQ (mV a b) - fQ a * fQ b)≤ab (fQ a * fQ b) ∨ (fR (mV a b)≤4503599627370496∧2 * ab (fQ (mV a b) - fQ a * fQ b)≤p2 (-1074)):=by
 have hr:=fR_fin _ hf
 have hm:=mV_any a b fa fb
 have hle:=rnd_le (rv (fR a) * rv (fR b)) (-2148)
 have hR:fR (mV a b) = rnd (rv (fR a) * rv (fR b)) (-2148):=by rw [hm,fR_wrd _ _ (by omega)]
 have hS:fS (mV a b) = (fS a ^^ fS b):=by rw [hm,fS_wrd _ _ (by omega)]
 rw [hR] at hr
 have e:=rnd_err _ _ hr
 have hx:xE (rv (fR a) * rv (fR b)) (-2148) = (rv (fR a):Rat) * p2 (-1074) * ((rv (fR b):Rat) * p2 (-1074)):=by
  unfold xE
  rw [Rat.natCast_mul,show (-2148:Int) = -1074+-1074 by rfl,p2_add]
  grind
 rw [hx] at e
 unfold yE at e
 have hp:=p2_pos (-1074)
 have hQ:fQ (mV a b) = if (fS a ^^ fS b) = true then -((rv (rnd (rv (fR a) * rv (fR b)) (-2148)):Rat) * p2 (-1074)) else (rv (rnd (rv (fR a) * rv (fR b)) (-2148)):Rat) * p2 (-1074):=by rw [fQ_sign,hS,hR]
 have n0:=mag_0 (fR a);have n1:=mag_0 (fR b)
 have n2:=Rat.mul_nonneg n0 n1
 rw [hQ,fQ_sign a,fQ_sign b,hR]
 generalize (rv (fR a):Rat) * p2 (-1074) = A at *
 generalize (rv (fR b):Rat) * p2 (-1074) = B at *
 generalize (rv (rnd (rv (fR a) * rv (fR b)) (-2148)):Rat) * p2 (-1074) = Y at *
 have k1:ab (A * B) = A * B:=ab_pos n2
 have k2:ab (Y - A * B) = ab (A * B - Y):=ab_sub _ _
 have k3:∀ t:Rat,9007199254740992 * Y≤9007199254740992 * (A * B)+t→9007199254740992 * (A * B)≤9007199254740992 * Y+t→9007199254740992 * ab (Y - A * B)≤t:=fun t h1 h2=>by unfold ab;grind
 have k4:2 * Y≤2 * (A * B)+p2 (-1074)→2 * (A * B)≤2 * Y+p2 (-1074)→2 * ab (Y - A * B)≤p2 (-1074):=fun h1 h2=>by unfold ab;grind
 have main:9007199254740992 * ab (Y - A * B)≤A * B ∨ (rnd (rv (fR a) * rv (fR b)) (-2148)≤4503599627370496∧2 * ab (Y - A * B)≤p2 (-1074)):=by
  rcases e with ⟨e1,e2⟩ | ⟨e1,e2,e3,e4⟩
  ·exact .inl (k3 _ e1 e2)
  ·exact .inr ⟨e1,k4 e3 e4⟩
 cases fS a <;> cases fS b <;> simp only [Bool.xor_false,Bool.xor_true,Bool.not_true,Bool.not_false,Bool.false_eq_true,if_true,if_false]
 ·rw [k1];exact main
 ·rw [show -Y - A * -B = A * B - Y by grind,show A * -B = -(A * B) by grind,ab_neg,k1,← k2];exact main
 ·rw [show -Y - -A * B = A * B - Y by grind,show -A * B = -(A * B) by grind,ab_neg,k1,← k2];exact main
 ·rw [show Y - -A * -B = Y - A * B by grind,show -A * -B = A * B by grind,k1];exact main
end Go.Proofs.YtnnfjeieennffaaGreatDoor
namespace Go.Proofs.YtnnfjeieennffaaGreatDoor
open Go.RowKit
theorem lt_of_p2 {a b:Int} (h:p2 a < p2 b):a < b:=by
 rcases Int.lt_or_le a b with g | g
 ·exact g
 ·have:=p2_mono g
  grind
theorem xE_top (v:Nat) (E:Int) (h:v ≠ 0):p2 ((bl v:Int)+E - 1)≤xE v E∧xE v E < p2 ((bl v:Int)+E):=by
 obtain ⟨b1,b2,b3⟩:=bl_spec v h
 have hp:=p2_pos E
 constructor
 ·rw [show (bl v:Int)+E - 1 = ((bl v - 1:Nat):Int)+E by omega,p2_add,p2_nat]
  unfold xE
  have:=Rat.mul_le_mul_of_nonneg_left (Rat.natCast_le_natCast.2 b2) (Rat.le_of_lt hp)
  grind
 ·rw [p2_add,p2_nat]
  unfold xE
  have:=Rat.mul_lt_mul_of_pos_left (Rat.natCast_lt_natCast.2 b3) hp
  grind
theorem rnd_finite (v:Nat) (E:Int) (h:xE v E < p2 1023):rnd v E < 9218868437227405312:=by
 by_cases h0:v = 0
 ·rw [h0,rnd_0];decide
 ·have h1:=(xE_top v E h0).1
  have h2:(bl v:Int)+E - 1 < 1023:=lt_of_p2 (by grind)
  by_cases h3:(bl v:Int)+E≤1022
  ·obtain ⟨m1,m2,m3⟩:=rndM_bounds v E h0
   obtain ⟨l1,l2,l3⟩:=lastE_ge v E
   rw [rnd_fin v E h0 (by omega)]
   have:(lastE v E+1074).toNat≤2043:=by omega
   omega
  ·obtain ⟨m1,m2,m3⟩:=rndM_bounds v E h0
   obtain ⟨l1,l2,l3⟩:=lastE_ge v E
   rw [rnd_fin v E h0 (by omega)]
   have:(lastE v E+1074).toNat≤2044:=by omega
   omega
theorem rnd_short (v:Nat) (E:Int) (hb:bl v≤53) (hf:rnd v E < 9218868437227405312) :
  yE v E = xE v E ∨ (xE v E < p2 (-1022)∧rnd v E≤4503599627370496∧2 * yE v E≤2 * xE v E+p2 (-1074)∧2 * xE v E≤2 * yE v E+p2 (-1074)):=by
 by_cases h:v = 0
 ·subst h
  refine .inl ?_
  have e:yE 0 E = 0:=by unfold yE;rw [rnd_0,rv_zero];exact Rat.zero_mul _
  have e2:xE 0 E = 0:=Rat.zero_mul _
  rw [e,e2]
 have ht:=fin_top v E h hf
 obtain ⟨l1,l2,l3⟩:=lastE_ge v E
 obtain ⟨r1,r2,r3⟩:=rnd_half v E h ht
 by_cases hl:lastE v E≤E
 ·exact .inl (r1 hl)
 ·have l4:lastE v E = -1074∧(bl v:Int)+E < -1021:=by omega
  have hx:=(xE_top v E h).2
  have hx2:=p2_mono (show (bl v:Int)+E≤-1022 by omega)
  rcases rnd_err v E hf with e | e
  ·refine .inr ⟨by grind,?_,by rw [l4.1] at r2;exact r2,by rw [l4.1] at r3;exact r3⟩
   obtain ⟨b1,b2,b3⟩:=bl_spec v h
   obtain ⟨k,hk,hk1⟩:∃ k:Nat,E - lastE v E = -(k:Int)∧1≤k:=⟨(lastE v E - E).toNat,by omega,by omega⟩
   have hM:rndM v E≤4503599627370496:=by
    unfold rndM
    rw [hk,mS_down _ _ hk1]
    refine cutE_upto ?_
    have h1:v < 2 ^ (52+k):=Nat.lt_of_lt_of_le b3 (pow_le2 (by omega))
    rw [Nat.pow_add,p52] at h1
    exact Nat.le_of_lt h1
   have h0:(lastE v E+1074).toNat = 0:=by omega
   rw [rnd_fin v E h ht,h0,Nat.zero_mul,Nat.add_zero]
   exact hM
  ·exact .inr ⟨by grind,e.1,e.2.2⟩
theorem fD_mag (a:Nat) (ha:a < 18446744073709551616) (fa:fFin a = true) (a0:fK a ≠ 0) (n:Int):xE (fD a).natAbs (fX a+n) = (rv (fR a):Rat) * p2 (-1074) * p2 n:=by
 obtain ⟨β,x1,x2,x3,x4⟩:=odd_mag a ha fa a0
 unfold xE
 rw [x2,Rat.natCast_mul,← p2_nat,show fX a+n = (β:Int)+-1074+n by omega,p2_add,p2_add]
 grind
theorem xV_fin (a:Nat) (n:Int) (fa:fFin a = true) (a0:fK a ≠ 0):xV a n = wrd (fS a) (rnd (fD a).natAbs (fX a+n)):=by
 obtain ⟨a3,a4⟩:=fin_kind fa
 unfold xV
 rw [if_neg a4,if_neg (by omega)]
theorem xV_nought (a:Nat) (n:Int) (a0:fK a = 0):xV a n = a:=by
 unfold xV
 rw [if_neg (by omega),if_pos (.inr a0)]
theorem fQ_nought (a:Nat) (a0:fK a = 0):fQ a = 0:=by
 have h:=fQ_ab a
 rw [(fK_zero a).1 a0,rv_zero] at h
 have h2:ab (fQ a) = 0:=by rw [h];exact Rat.zero_mul _
 unfold ab at h2
 grind
theorem scale_fin (a:Nat) (n:Int) (ha:a < 18446744073709551616) (fa:fFin a = true) (h:ab (fQ a) * p2 n < p2 1023):fFin (xV a n) = true:=by
 by_cases a0:fK a = 0
 ·rw [xV_nought a n a0];exact fa
 ·rw [xV_fin a n fa a0]
  rw [fQ_ab,← fD_mag a ha fa a0] at h
  have:=rnd_finite _ _ h
  exact (fK_rungs _).2.2.2 (by rw [fR_wrd _ _ (by omega)];exact this)
theorem scale_err (a:Nat) (n:Int) (ha:a < 18446744073709551616) (fa:fFin a = true) (hf:fFin (xV a n) = true) :
  fQ (xV a n) = fQ a * p2 n ∨ (ab (fQ a) * p2 n < p2 (-1022)∧fR (xV a n)≤4503599627370496∧2 * ab (fQ (xV a n) - fQ a * p2 n)≤p2 (-1074)):=by
 by_cases a0:fK a = 0
 ·rw [xV_nought a n a0,fQ_nought a a0,Rat.zero_mul];exact .inl rfl
 ·have hr:=fR_fin _ hf
  have hle:=rnd_le (fD a).natAbs (fX a+n)
  have hR:fR (xV a n) = rnd (fD a).natAbs (fX a+n):=by rw [xV_fin a n fa a0,fR_wrd _ _ (by omega)]
  have hS:fS (xV a n) = fS a:=by rw [xV_fin a n fa a0,fS_wrd _ _ (by omega)]
  rw [hR] at hr
  obtain ⟨z1,z2,z3,z4,z5,z6,z7,z8,z9⟩:=sc_facts a ha fa a0
  have hb:bl (fD a).natAbs≤53:=(dS_facts a ha fa a0).1
  have e:=rnd_short _ _ hb hr
  rw [fD_mag a ha fa a0 n] at e
  unfold yE at e
  rw [fQ_sign (xV a n),hS,hR,fQ_ab,fQ_sign a]
  generalize (rv (rnd (fD a).natAbs (fX a+n)):Rat) * p2 (-1074) = Y at *
  generalize (rv (fR a):Rat) * p2 (-1074) = A at *
  cases fS a <;> simp only [Bool.false_eq_true,if_true,if_false]
  ·rcases e with e | ⟨e1,e2,e3,e4⟩
   ·exact .inl e
   ·refine .inr ⟨e1,e2,?_⟩
    unfold ab;grind
  ·rcases e with e | ⟨e1,e2,e3,e4⟩
   ·refine .inl ?_
    grind
   ·refine .inr ⟨e1,e2,?_⟩
    unfold ab;grind
theorem add_fin (a b:Nat) (fa:fFin a = true) (fb:fFin b = true) (h:ab (fQ a+fQ b) < p2 1023):fFin (aV a b) = true:=by
 obtain ⟨v1,v2⟩:=aV_fin a b fa fb
 have hx:ab (fQ a+fQ b) = xE (aZ a b).natAbs (-1074):=by
  have:fQ a+fQ b = ((aZ a b:Int):Rat) * p2 (-1074):=by
   unfold fQ aZ
   rw [Rat.intCast_add,Rat.add_mul]
  rw [this,cast_abs]
  have n0:(0:Rat)≤((aZ a b).natAbs:Rat) * p2 (-1074):=Rat.mul_nonneg Rat.natCast_nonneg (Rat.le_of_lt (p2_pos _))
  unfold xE ab
  split <;> grind
 rw [hx] at h
 exact (fK_rungs _).2.2.2 (by rw [v1];exact rnd_finite _ _ h)
theorem mul_fin (a b:Nat) (fa:fFin a = true) (fb:fFin b = true) (h:ab (fQ a * fQ b) < p2 1023):fFin (mV a b) = true:=by
 have hx:xE (rv (fR a) * rv (fR b)) (-2148) = ab (fQ a * fQ b):=by
  rw [ab_mul,fQ_ab,fQ_ab]
  unfold xE
  rw [Rat.natCast_mul,show (-2148:Int) = -1074+-1074 by rfl,p2_add]
  grind
 rw [← hx] at h
 have:=rnd_finite _ _ h
 exact (fK_rungs _).2.2.2 (by rw [mV_any a b fa fb,fR_wrd _ _ (by omega)];exact this)
end Go.Proofs.YtnnfjeieennffaaGreatDoor
namespace Go.Proofs.YtnnfjeieennffaaGreatDoor
open Go.RowKit
theorem tS_sq (a:Nat) (h0:fK a ≠ 0):∃ N q:Nat,N = rv (fR a) * 2 ^ 120∧1152921504606846976≤q∧q * q≤N∧(tS a * tS a = 4 * N ∨ (tS a * tS a≤4 * N+4 * q∧4 * N≤tS a * tS a+4 * q)):=by
 refine ⟨_,isq (rv (fR a) * 2 ^ 120),rfl,?_,?_,?_⟩
 ·have:=(tS_low a h0).1
  have e:(2:Nat) ^ 60 = 1152921504606846976:=by decide
  omega
 ·exact (isq_spec _).1
 ·obtain ⟨s1,s2⟩:=isq_spec (rv (fR a) * 2 ^ 120)
  unfold tS rS
  generalize rv (fR a) * 2 ^ 120 = N at *
  generalize isq N = q at *
  have e1:(2 * q) * (2 * q) = 4 * (q * q):=by rw [Nat.mul_mul_mul_comm]
  have e2:(2 * q+1) * (2 * q+1) = 4 * (q * q)+4 * q+1:=by rw [sq_succ,e1];omega
  have e3:=sq_succ q
  by_cases h:q * q = N
  ·rw [if_pos h,Nat.add_zero]
   exact .inl (by rw [e1,h])
  ·rw [if_neg h]
   refine .inr ?_
   rw [e2]
   generalize q * q = Q at *
   omega
theorem sV_pos (a:Nat) (fa:fFin a = true) (a0:fK a ≠ 0) (hs:fS a = false):sV a = tV a:=by
 obtain ⟨a3,a4⟩:=fin_kind fa
 unfold sV
 rw [if_neg a4,if_neg (fun h=>?_),if_neg (by rw [hs];decide)]
 rcases h with h | h
 ·exact a0 h
 ·rw [h] at a3
  exact a3 (by decide)
theorem sqrt_err (a:Nat) (fa:fFin a = true) (a0:fK a ≠ 0) (hs:fS a = false) :
  fFin (sV a) = true∧fS (sV a) = false∧sV a < 18446744073709551616∧4503599627370496 < fR (sV a)∧0≤fQ (sV a)∧9007199254740992 * (fQ (sV a) * fQ (sV a))≤9007199254740992 * fQ a+3 * fQ a∧9007199254740992 * fQ a≤9007199254740992 * (fQ (sV a) * fQ (sV a))+3 * fQ a:=by
 obtain ⟨N,q,hN,hq,hq2,hT⟩:=tS_sq a a0
 obtain ⟨t1,t2⟩:=tV_range a fa a0
 have hv:=sV_pos a fa a0 hs
 have hr:fR (sV a) = tV a:=by rw [hv];unfold fR;omega
 have hS:fS (sV a) = false:=by rw [hv];exact decide_eq_false (by omega)
 have hfin:fFin (sV a) = true:=(fK_rungs _).2.2.2 (by rw [hr];omega)
 have hY:fQ (sV a) = yE (tS a) (-598):=by
  rw [fQ_sign,hS,if_neg (by decide),hr]
  rfl
 have hX:fQ a = ((4 * N:Nat):Rat) * p2 (-1196):=by
  rw [fQ_sign,hs,if_neg (by decide),hN,Rat.natCast_mul,Rat.natCast_mul,← p2_nat,show (-1074:Int) = 2+(120:Nat)+-1196 by rfl,p2_add,p2_add,show p2 2 = ((4:Nat):Rat) by rw [show (2:Int) = ((2:Nat):Int) by rfl,p2_nat]]
  grind
 have hXX:xE (tS a) (-598) * xE (tS a) (-598) = ((tS a * tS a:Nat):Rat) * p2 (-1196):=by
  unfold xE
  rw [Rat.natCast_mul,show (-1196:Int) = -598+-598 by rfl,p2_add]
  grind
 have hlt:rnd (tS a) (-598) < 9218868437227405312:=by
  have:rnd (tS a) (-598) = tV a:=rfl
  omega
 have e:9007199254740992 * yE (tS a) (-598)≤9007199254740992 * xE (tS a) (-598)+xE (tS a) (-598)∧9007199254740992 * xE (tS a) (-598)≤9007199254740992 * yE (tS a) (-598)+xE (tS a) (-598):=by
  rcases rnd_err _ _ hlt with e | e
  ·exact e
  ·have:rnd (tS a) (-598) = tV a:=rfl
   omega
 have hX0:0≤xE (tS a) (-598):=Rat.mul_nonneg Rat.natCast_nonneg (Rat.le_of_lt (p2_pos _))
 have hY0:0≤yE (tS a) (-598):=Rat.mul_nonneg Rat.natCast_nonneg (Rat.le_of_lt (p2_pos _))
 -- the sticky root's square,beside the number
 have hq3:1152921504606846976 * (4 * q)≤4 * N:=by
  have:=Nat.mul_le_mul_right q hq
  omega
 have d1:1152921504606846976 * (tS a * tS a)≤1152921504606846976 * (4 * N)+4 * N∧1152921504606846976 * (4 * N)≤1152921504606846976 * (tS a * tS a)+4 * N:=by
  generalize tS a * tS a = Z at *
  omega
 have hp:=p2_pos (-1196)
 have c1:=Rat.mul_le_mul_of_nonneg_left (Rat.natCast_le_natCast.2 d1.1) (Rat.le_of_lt hp)
 have c2:=Rat.mul_le_mul_of_nonneg_left (Rat.natCast_le_natCast.2 d1.2) (Rat.le_of_lt hp)
 rw [Rat.natCast_add,Rat.natCast_mul 1152921504606846976,Rat.natCast_mul 1152921504606846976] at c1 c2
 have k60:((1152921504606846976:Nat):Rat) = 1152921504606846976:=rfl
 rw [k60] at c1 c2
 have s0:0≤fQ a:=by rw [hX];exact Rat.mul_nonneg Rat.natCast_nonneg (Rat.le_of_lt hp)
 refine ⟨hfin,hS,by rw [hv];omega,by rw [hr];omega,by rw [hY];exact hY0,?_⟩
 rw [hY]
 have g1:1152921504606846976 * (xE (tS a) (-598) * xE (tS a) (-598))≤1152921504606846976 * fQ a+fQ a:=by rw [hXX,hX];grind
 have g2:1152921504606846976 * fQ a≤1152921504606846976 * (xE (tS a) (-598) * xE (tS a) (-598))+fQ a:=by rw [hXX,hX];grind
 clear c1 c2 d1 hq3 hT hXX hX hN hq2
 generalize xE (tS a) (-598) = X at *
 generalize yE (tS a) (-598) = Y at *
 generalize fQ a = S at *
 obtain ⟨D,hD⟩:∃ D,Y = X+D:=⟨Y - X,by grind⟩
 subst hD
 have m1:=Rat.mul_nonneg hX0 (show 0≤X - 9007199254740992 * D by grind)
 have m2:=Rat.mul_nonneg hX0 (show 0≤X+9007199254740992 * D by grind)
 have m3:=Rat.mul_nonneg (show 0≤X - 9007199254740992 * D by grind) (show 0≤X+9007199254740992 * D by grind)
 have m4:=sq_nonneg D
 constructor
 ·grind
 ·grind
end Go.Proofs.YtnnfjeieennffaaGreatDoor
