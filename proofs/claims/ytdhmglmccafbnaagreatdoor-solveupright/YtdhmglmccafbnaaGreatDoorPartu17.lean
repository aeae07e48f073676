/- Part 17 of the texts. -/
import Derived.Test.YtdhmglmccafbnaaGreatDoorPartu16
namespace Go.Proofs.YtdhmglmccafbnaaGreatDoor
open Go.RowKit
theorem stk_err (N d:Nat) (hd:0 < d):stk N d * d≤2 * N+d∧2 * N≤stk N d * d+d:=by
 have h1:=Nat.div_add_mod N d
 have h2:=Nat.mod_lt N hd
 unfold stk
 split
 ·have e:(2 * (N / d)+0) * d = 2 * (d * (N / d)):=by rw [Nat.add_zero,Nat.mul_assoc,Nat.mul_comm d]
  rw [e]
  generalize d * (N / d) = Q at *
  omega
 ·have e:(2 * (N / d)+1) * d = 2 * (d * (N / d))+d:=by rw [Nat.add_mul,Nat.mul_assoc,Nat.one_mul,Nat.mul_comm d]
  rw [e]
  generalize d * (N / d) = Q at *
  omega
theorem quo_near (a b:Nat) (ha:a < 18446744073709551616) (hb:b < 18446744073709551616) (fa:fFin a = true) (fb:fFin b = true) (a0:fK a ≠ 0) (b0:fK b ≠ 0) :
  340282366920938463463374607431768211456 * (xE (qS a b) (fX a - fX b - 181) * ab (fQ b))≤340282366920938463463374607431768211456 * ab (fQ a)+ab (fQ a) ∧
  340282366920938463463374607431768211456 * ab (fQ a)≤340282366920938463463374607431768211456 * (xE (qS a b) (fX a - fX b - 181) * ab (fQ b))+ab (fQ a):=by
 obtain ⟨x1,x2,x3,x4,x5,x6,x7,x8,x9⟩:=sc_facts a ha fa a0
 obtain ⟨y1,y2,y3,y4,y5,y6,y7,y8,y9⟩:=sc_facts b hb fb b0
 have eA:ab (fQ a) = (((fD a).natAbs * 2 ^ 180:Nat):Rat) * (2 * p2 (fX a - 181)):=by
  have e:=fD_mag a ha fa a0 0
  rw [Int.add_zero,p2_0,Rat.mul_one,← fQ_ab] at e
  rw [← e]
  unfold xE
  rw [Rat.natCast_mul,← p2_nat,show fX a = ((180:Nat):Int)+(fX a - 181+1) by omega,p2_add,p2_succ,show ((180:Nat):Int)+(fX a - 181+1) - 181 = fX a - 181 by omega]
  grind
 have eB:ab (fQ b) = ((fD b).natAbs:Rat) * p2 (fX b):=by
  have e:=fD_mag b hb fb b0 0
  rw [Int.add_zero,p2_0,Rat.mul_one,← fQ_ab] at e
  exact e.symm
 have eX:xE (qS a b) (fX a - fX b - 181) * ab (fQ b) = ((qS a b * (fD b).natAbs:Nat):Rat) * p2 (fX a - 181):=by
  rw [eB]
  unfold xE
  rw [Rat.natCast_mul,show fX a - 181 = (fX a - fX b - 181)+fX b by omega,p2_add]
  grind
 obtain ⟨s1,s2⟩:=stk_err ((fD a).natAbs * 2 ^ 180) (fD b).natAbs (by omega)
 have hP:=p2_pos (fX a - 181)
 have hd:340282366920938463463374607431768211456 * (fD b).natAbs≤2 * ((fD a).natAbs * 2 ^ 180):=by
  have h1:2 ^ 181≤(fD a).natAbs * 2 ^ 181:=Nat.le_mul_of_pos_left _ (by omega)
  have e1:(2:Nat) ^ 181 = 340282366920938463463374607431768211456 * 9007199254740992:=by decide
  have e2:(2:Nat) ^ 181 = 2 ^ 180 * 2:=by decide
  have h2:340282366920938463463374607431768211456 * (fD b).natAbs≤340282366920938463463374607431768211456 * 9007199254740992:=Nat.mul_le_mul_left _ (by omega)
  rw [← e1] at h2
  rw [e2,← Nat.mul_assoc] at h1
  omega
 have hq:qS a b = stk ((fD a).natAbs * 2 ^ 180) (fD b).natAbs:=rfl
 rw [← hq] at s1 s2
 rw [eX,eA]
 generalize (fD a).natAbs * 2 ^ 180 = N at *
 generalize qS a b * (fD b).natAbs = Z at *
 have g1:340282366920938463463374607431768211456 * Z≤340282366920938463463374607431768211456 * (2 * N)+2 * N:=by omega
 have g2:340282366920938463463374607431768211456 * (2 * N)≤340282366920938463463374607431768211456 * Z+2 * N:=by omega
 have c1:=Rat.mul_le_mul_of_nonneg_left (Rat.natCast_le_natCast.2 g1) (Rat.le_of_lt hP)
 have c2:=Rat.mul_le_mul_of_nonneg_left (Rat.natCast_le_natCast.2 g2) (Rat.le_of_lt hP)
 rw [Rat.natCast_add,Rat.natCast_mul 340282366920938463463374607431768211456,Rat.natCast_mul 340282366920938463463374607431768211456,Rat.natCast_mul 2] at c1 c2
 have k1:((340282366920938463463374607431768211456:Nat):Rat) = 340282366920938463463374607431768211456:=rfl
 have k2:((2:Nat):Rat) = 2:=rfl
 rw [k1,k2] at c1 c2
 constructor <;> grind
theorem div_err (a b:Nat) (ha:a < 18446744073709551616) (hb:b < 18446744073709551616) (fa:fFin a = true) (fb:fFin b = true) (a0:fK a ≠ 0) (b0:fK b ≠ 0) (hf:fFin (dV a b) = true) :
  10633823966279326983230456482242756608 * ab (fQ (dV a b) * fQ b - fQ a)≤1180591620717411303425 * ab (fQ a) ∨
  (fR (dV a b)≤4503599627370496∧170141183460469231731687303715884105728 * ab (fQ (dV a b) * fQ b - fQ a)≤170141183460469231731687303715884105728 * (p2 (-1075) * ab (fQ b))+ab (fQ a)):=by
 have hr:=fR_fin _ hf
 have hd:=(dV_fin a b fa fb a0 b0).1
 have hle:qV a b≤9218868437227405312:=rnd_le _ _
 have hR:fR (dV a b) = qV a b:=by rw [hd,fR_wrd _ _ (by omega)]
 have hS:fS (dV a b) = (fS a ^^ fS b):=by rw [hd,fS_wrd _ _ (by omega)]
 rw [hR] at hr
 have e:=rnd_err (qS a b) (fX a - fX b - 181) hr
 obtain ⟨q1,q2⟩:=quo_near a b ha hb fa fb a0 b0
 have hx0:0≤xE (qS a b) (fX a - fX b - 181):=Rat.mul_nonneg Rat.natCast_nonneg (Rat.le_of_lt (p2_pos _))
 have hy:(rv (qV a b):Rat) * p2 (-1074) = yE (qS a b) (fX a - fX b - 181):=rfl
 have h74:p2 (-1074) = 2 * p2 (-1075):=by rw [show (-1074:Int) = -1075+1 by rfl,p2_succ]
 have hp:=p2_pos (-1075)
 have n0:=mag_0 (fR a);have n1:=mag_0 (fR b)
 rw [fQ_ab,fQ_ab] at *
 rw [fQ_sign (dV a b),hS,hR,hy,fQ_sign a,fQ_sign b]
 generalize (rv (fR a):Rat) * p2 (-1074) = A at *
 generalize (rv (fR b):Rat) * p2 (-1074) = B at *
 generalize yE (qS a b) (fX a - fX b - 181) = Y at *
 generalize xE (qS a b) (fX a - fX b - 181) = X at *
 rw [h74] at e
 generalize p2 (-1075) = η at *
 have main:10633823966279326983230456482242756608 * ab (Y * B - A)≤1180591620717411303425 * A ∨ (qV a b≤4503599627370496∧170141183460469231731687303715884105728 * ab (Y * B - A)≤170141183460469231731687303715884105728 * (η * B)+A):=by
  rcases e with ⟨e1,e2⟩ | ⟨e1,e2,e3,e4⟩
  ·refine .inl ?_
   have c1:=Rat.mul_le_mul_of_nonneg_left e1 n1
   have c2:=Rat.mul_le_mul_of_nonneg_left e2 n1
   unfold ab
   grind
  ·refine .inr ⟨e1,?_⟩
   have c1:=Rat.mul_le_mul_of_nonneg_left e3 n1
   have c2:=Rat.mul_le_mul_of_nonneg_left e4 n1
   unfold ab
   grind
 have k2:ab (Y * B - A) = ab (A - Y * B):=ab_sub _ _
 cases fS a <;> cases fS b <;> simp only [Bool.xor_false,Bool.xor_true,Bool.not_true,Bool.not_false,Bool.false_eq_true,if_true,if_false]
 ·exact main
 ·rw [show -Y * -B - A = Y * B - A by grind];exact main
 ·rw [show -Y * B - -A = A - Y * B by grind,← k2];exact main
 ·rw [show Y * -B - -A = A - Y * B by grind,← k2];exact main
end Go.Proofs.YtdhmglmccafbnaaGreatDoor
namespace Go.Proofs.YtdhmglmccafbnaaGreatDoor
open Go.RowKit
theorem eta_p2 (e:Int) (h:-975≤e):1267650600228229401496703205376 * p2 (-1075)≤p2 e:=by
 have h1:=p2_mono h
 have h2:p2 (-975) = 1267650600228229401496703205376 * p2 (-1075):=by
  rw [show (-975:Int) = ((100:Nat):Int)+-1075 by rfl,p2_add,p2_nat]
  rfl
 rw [← h2]
 exact h1
theorem mul_err2 (a b:Nat) (fa:fFin a = true) (fb:fFin b = true) (h:ab (fQ a * fQ b) < p2 1023) :
  fFin (mV a b) = true∧9007199254740992 * ab (fQ (mV a b) - fQ a * fQ b)≤ab (fQ a * fQ b)+9007199254740992 * p2 (-1075):=by
 have hf:=mul_fin a b fa fb h
 have h74:p2 (-1074) = 2 * p2 (-1075):=by rw [show (-1074:Int) = -1075+1 by rfl,p2_succ]
 have hp:=p2_pos (-1075)
 have h0:=ab_0 (fQ a * fQ b)
 refine ⟨hf,?_⟩
 rcases mul_err a b fa fb hf with e | e
 ·grind
 ·have:=e.2
  rw [h74] at this
  grind
theorem div_fin (a b:Nat) (ha:a < 18446744073709551616) (hb:b < 18446744073709551616) (fa:fFin a = true) (fb:fFin b = true) (a0:fK a ≠ 0) (b0:fK b ≠ 0) (h:ab (fQ a)≤1024 * ab (fQ b)):fFin (dV a b) = true:=by
 obtain ⟨q1,q2⟩:=quo_near a b ha hb fa fb a0 b0
 have hb1:=eX_top b hb fb b0
 have hbp:=p2_pos (eX b)
 have hx0:0≤xE (qS a b) (fX a - fX b - 181):=Rat.mul_nonneg Rat.natCast_nonneg (Rat.le_of_lt (p2_pos _))
 have hlt:xE (qS a b) (fX a - fX b - 181) < p2 1023:=by
  have hB:(2048:Rat)≤p2 1023:=by
   have h:=p2_mono (show (11:Int)≤1023 by decide)
   have h3:p2 11 = 2048:=by rw [show (11:Int) = ((11:Nat):Int) by rfl,p2_nat];rfl
   grind
  generalize xE (qS a b) (fX a - fX b - 181) = X at *
  rcases Rat.le_total (a:=2048) (b:=X) with g | g
  ·exfalso
   have hm:=Rat.mul_le_mul_of_nonneg_left g (show 0≤ab (fQ b) by grind)
   have:=ab_0 (fQ a)
   generalize ab (fQ a) = A at *
   have hc:ab (fQ b) * X = X * ab (fQ b):=Rat.mul_comm _ _
   rw [hc] at hm
   generalize X * ab (fQ b) = XB at *
   grind
  ·rcases Rat.le_total (a:=X) (b:=2047) with g2 | g2
   ·grind
   ·exfalso
    have hm:=Rat.mul_le_mul_of_nonneg_left g2 (show 0≤ab (fQ b) by grind)
    have:=ab_0 (fQ a)
    generalize ab (fQ a) = A at *
    have hc:ab (fQ b) * X = X * ab (fQ b):=Rat.mul_comm _ _
    rw [hc] at hm
    generalize X * ab (fQ b) = XB at *
    grind
 have:=rnd_finite _ _ hlt
 have hle:qV a b≤9218868437227405312:=rnd_le _ _
 exact (fK_rungs _).2.2.2 (by rw [(dV_fin a b fa fb a0 b0).1,fR_wrd _ _ (by omega)];exact this)
theorem div_err2 (a b:Nat) (ha:a < 18446744073709551616) (hb:b < 18446744073709551616) (fa:fFin a = true) (fb:fFin b = true) (a0:fK a ≠ 0) (b0:fK b ≠ 0) (h:ab (fQ a)≤1024 * ab (fQ b))
  (hs:1267650600228229401496703205376 * (p2 (-1075) * ab (fQ b))≤ab (fQ a)) :
  fFin (dV a b) = true∧9007199254740992 * ab (fQ (dV a b) * fQ b - fQ a)≤2 * ab (fQ a):=by
 have hf:=div_fin a b ha hb fa fb a0 b0 h
 refine ⟨hf,?_⟩
 have h0:=ab_0 (fQ a)
 have h1:=ab_0 (fQ (dV a b) * fQ b - fQ a)
 rcases div_err a b ha hb fa fb a0 b0 hf with e | e
 ·grind
 ·have:=e.2
  generalize p2 (-1075) * ab (fQ b) = z at *
  grind
end Go.Proofs.YtdhmglmccafbnaaGreatDoor
namespace Go.Proofs.YtdhmglmccafbnaaGreatDoor
open Go.RowKit
def dtV:Nat→List Nat→List Nat→Nat
 | s,x :: xs,y :: ys=>dtV (aV s (mV x y)) xs ys
 | s,_,_=>s
def dtQ:List Nat→List Nat→Rat
 | x :: xs,y :: ys=>fQ x * fQ y+dtQ xs ys
 | _,_=>0
def daQ:List Nat→List Nat→Rat
 | x :: xs,y :: ys=>ab (fQ x * fQ y)+daQ xs ys
 | _,_=>0
theorem daQ_0:∀ (xs ys:List Nat),0≤daQ xs ys:=by
 intro xs
 induction xs with
 | nil=>intro ys;exact Rat.le_refl
 | cons x xs ih =>
  intro ys
  cases ys with
  | nil=>exact Rat.le_refl
  | cons y ys =>
   have h1:=ih ys
   have h2:=ab_0 (fQ x * fQ y)
   show 0≤ab (fQ x * fQ y)+daQ xs ys
   grind
theorem dtQ_le:∀ (xs ys:List Nat),ab (dtQ xs ys)≤daQ xs ys:=by
 intro xs
 induction xs with
 | nil=>intro ys;show ab 0≤0;unfold ab;grind
 | cons x xs ih =>
  intro ys
  cases ys with
  | nil=>show ab 0≤0;unfold ab;grind
  | cons y ys =>
   have h1:=ih ys
   have h2:=ab_add (fQ x * fQ y) (dtQ xs ys)
   show ab (fQ x * fQ y+dtQ xs ys)≤ab (fQ x * fQ y)+daQ xs ys
   grind
theorem dot_step (s x y:Nat) (T W H:Rat) (fs:fFin s = true) (fx:fFin x = true) (fy:fFin y = true) (hW0:0≤W) (hW:W≤p2 1000) (hη:9007199254740992 * (4 * p2 (-1075))≤W)
  (hT:ab T+ab (fQ x * fQ y)≤W) (hH:H≤192 * W) (he:9007199254740992 * ab (fQ s - T)≤H) :
  fFin (aV s (mV x y)) = true∧9007199254740992 * ab (fQ (aV s (mV x y)) - (T+fQ x * fQ y))≤H+3 * W:=by
 have T0:=ab_0 T;have xy0:=ab_0 (fQ x * fQ y)
 have hB:16 * p2 1000≤p2 1023∧0 < p2 1000:=by
  have h1:=p2_mono (show (1000+1+1+1+1:Int)≤1023 by decide)
  simp only [p2_succ] at h1
  exact ⟨by grind,p2_pos _⟩
 obtain ⟨B1,B2⟩:=hB
 obtain ⟨n1,n2,n3⟩:=eta_small
 obtain ⟨f1,e1⟩:=mul_err2 x y fx fy (by grind)
 have l1:=le_ab (fQ (mV x y) - fQ x * fQ y);have l2:=le_ab (fQ s - T);have l3:=le_ab T;have l4:=le_ab (fQ x * fQ y)
 have tt:=ab_le (x:=fQ s+fQ (mV x y)) (y:=ab (fQ s - T)+ab (fQ (mV x y) - fQ x * fQ y)+ab T+ab (fQ x * fQ y)) (by grind) (by grind)
 have fa:=add_fin _ _ fs f1 (by grind)
 have ea:=add_err _ _ fs f1 fa
 refine ⟨fa,?_⟩
 have l5:=le_ab (fQ (aV s (mV x y)) - (fQ s+fQ (mV x y)))
 have ll:=ab_le (x:=fQ (aV s (mV x y)) - (T+fQ x * fQ y)) (y:=ab (fQ (aV s (mV x y)) - (fQ s+fQ (mV x y)))+ab (fQ (mV x y) - fQ x * fQ y)+ab (fQ s - T)) (by grind) (by grind)
 clear l1 l2 l3 l4 l5
 generalize ab (fQ (aV s (mV x y)) - (T+fQ x * fQ y)) = z0 at *
 generalize ab (fQ (aV s (mV x y)) - (fQ s+fQ (mV x y))) = z1 at *
 generalize ab (fQ (mV x y) - fQ x * fQ y) = z2 at *
 generalize ab (fQ s - T) = z3 at *
 generalize ab (fQ s+fQ (mV x y)) = z4 at *
 generalize ab (fQ x * fQ y) = z5 at *
 generalize ab T = z6 at *
 generalize p2 (-1075) = η at *
 grind
theorem dot_err (W:Rat) (hW0:0≤W) (hW:W≤p2 1000) (hη:9007199254740992 * (4 * p2 (-1075))≤W):∀ (xs ys:List Nat) (s:Nat) (T H:Rat),(∀ x ∈ xs,fFin x = true)→(∀ y ∈ ys,fFin y = true)→fFin s = true →
  ab T+daQ xs ys≤W→H+3 * ((xs.length:Rat) * W)≤192 * W→9007199254740992 * ab (fQ s - T)≤H →
  fFin (dtV s xs ys) = true∧9007199254740992 * ab (fQ (dtV s xs ys) - (T+dtQ xs ys))≤H+3 * ((xs.length:Rat) * W):=by
 intro xs
 induction xs with
 | nil =>
  intro ys s T H _ _ fs _ _ he
  have e1:dtV s [] ys = s:=by cases ys <;> rfl
  have e2:dtQ [] ys = 0:=by cases ys <;> rfl
  have e3:(([]:List Nat).length:Rat) = 0:=rfl
  rw [e1,e2,e3,Rat.add_zero]
  exact ⟨fs,by grind⟩
 | cons x xs ih =>
  intro ys s T H hx hy fs hT hH he
  have e3:((x :: xs).length:Rat) = (xs.length:Rat)+1:=by rw [List.length_cons,Rat.natCast_add];rfl
  have l0:0≤(xs.length:Rat) * W:=Rat.mul_nonneg Rat.natCast_nonneg hW0
  have e4:((x :: xs).length:Rat) * W = (xs.length:Rat) * W+W:=by rw [e3];grind
  cases ys with
  | nil =>
   have e1:dtV s (x :: xs) [] = s:=rfl
   have e2:dtQ (x :: xs) [] = 0:=rfl
   rw [e1,e2,e4,Rat.add_zero]
   exact ⟨fs,by grind⟩
  | cons y ys =>
   have e1:dtV s (x :: xs) (y :: ys) = dtV (aV s (mV x y)) xs ys:=rfl
   have e2:dtQ (x :: xs) (y :: ys) = fQ x * fQ y+dtQ xs ys:=rfl
   have e5:daQ (x :: xs) (y :: ys) = ab (fQ x * fQ y)+daQ xs ys:=rfl
   have d0:=daQ_0 xs ys
   rw [e5] at hT
   rw [e4] at hH ⊢
   obtain ⟨g1,g2⟩:=dot_step s x y T W H fs (hx x List.mem_cons_self) (hy y List.mem_cons_self) hW0 hW hη (by grind) (by grind) he
   have ht:=ab_add T (fQ x * fQ y)
   obtain ⟨i1,i2⟩:=ih ys (aV s (mV x y)) (T+fQ x * fQ y) (H+3 * W) (fun z hz=>hx z (List.mem_cons_of_mem _ hz)) (fun z hz=>hy z (List.mem_cons_of_mem _ hz)) g1 (by grind) (by grind) g2
   rw [e1,e2]
   refine ⟨i1,?_⟩
   rw [show T+(fQ x * fQ y+dtQ xs ys) = T+fQ x * fQ y+dtQ xs ys by grind]
   grind
theorem dot_err0 (W:Rat) (xs ys:List Nat) (hl:xs.length≤64) (hW:W≤p2 1000) (hη:9007199254740992 * (4 * p2 (-1075))≤W) (hx:∀ x ∈ xs,fFin x = true) (hy:∀ y ∈ ys,fFin y = true) (hd:daQ xs ys≤W) :
  fFin (dtV 0 xs ys) = true∧9007199254740992 * ab (fQ (dtV 0 xs ys) - dtQ xs ys)≤3 * ((xs.length:Rat) * W):=by
 have hp:=p2_pos (-1075)
 have hW0:0≤W:=by grind
 have z0:fQ 0 = 0:=fQ_nought 0 (by decide)
 have a0:ab 0 = 0:=by unfold ab;grind
 have hl2:(xs.length:Rat)≤64:=Rat.natCast_le_natCast.2 hl
 have hlW:=Rat.mul_nonneg (show 0≤64 - (xs.length:Rat) by grind) hW0
 obtain ⟨g1,g2⟩:=dot_err W hW0 hW hη xs ys 0 0 0 hx hy (by decide) (by rw [a0];grind) (by grind) (by rw [z0,show (0:Rat) - 0 = 0 by grind,a0];grind)
 refine ⟨g1,?_⟩
 rw [Rat.zero_add] at g2
 grind
def s1Q:List Nat→Rat
 | []=>0
 | x :: xs=>ab (fQ x)+s1Q xs
theorem s1Q_0 (xs:List Nat):0≤s1Q xs:=by
 induction xs with
 | nil=>exact Rat.le_refl
 | cons x xs ih =>
  have:=ab_0 (fQ x)
  unfold s1Q
  grind
theorem sumQ_nonneg (xs:List Nat):0≤sumQ xs:=by
 induction xs with
 | nil=>exact Rat.le_refl
 | cons x xs ih =>
  have:=sq_nonneg (fQ x)
  unfold sumQ
  grind
theorem s1Q_sq:∀ (xs:List Nat),s1Q xs * s1Q xs≤(xs.length:Rat) * sumQ xs:=by
 intro xs
 induction xs with
 | nil =>
  have e1:s1Q [] = 0:=rfl
  have e3:(([]:List Nat).length:Rat) = 0:=rfl
  rw [e1,e3];grind
 | cons x xs ih =>
  have e1:s1Q (x :: xs) = ab (fQ x)+s1Q xs:=rfl
  have e2:sumQ (x :: xs) = fQ x * fQ x+sumQ xs:=rfl
  have e3:((x :: xs).length:Rat) = (xs.length:Rat)+1:=by rw [List.length_cons,Rat.natCast_add];rfl
  have qx:=sq_nonneg (fQ x)
  have ex:ab (fQ x) * ab (fQ x) = fQ x * fQ x:=by rw [← ab_mul];exact ab_pos qx
  have q0:=sumQ_nonneg xs
  have s0:=s1Q_0 xs
  have n0:(0:Rat)≤(xs.length:Rat):=Rat.natCast_nonneg
  rw [e1,e2,e3]
  by_cases hn:xs.length = 0
  ·have hx:xs = []:=List.length_eq_zero_iff.1 hn
   subst hx
   have h1:s1Q [] = 0:=rfl
   have h2:sumQ [] = 0:=rfl
   have h3:(([]:List Nat).length:Rat) = 0:=rfl
   rw [h1,h2,h3]
   grind
  ·have n1:(0:Rat) < (xs.length:Rat):=Rat.natCast_pos.2 (by omega)
   refine Rat.le_of_mul_le_mul_left (c:=(xs.length:Rat)) ?_ n1
   have h:=sq_nonneg ((xs.length:Rat) * ab (fQ x) - s1Q xs)
   have h2:=Rat.mul_le_mul_of_nonneg_left ih (show 0≤(xs.length:Rat)+1 by grind)
   generalize (xs.length:Rat) = N at *
   generalize ab (fQ x) = p at *
   generalize s1Q xs = Y at *
   generalize sumQ xs = Q at *
   rw [← ex]
   clear ex qx
   grind
end Go.Proofs.YtdhmglmccafbnaaGreatDoor
namespace Go.Proofs.YtdhmglmccafbnaaGreatDoor
open Go.RowKit
theorem mirror_alg (a b R t g:Rat) (hR:0≤R) (hb:0 < ab b) (hs:ab (a - b) = ab a+ab b) (h1:9007199254740992 * ab (b * b - (a * a+R))≤135 * (a * a+R))
  (h3:9007199254740992 * ab (g - (b - a))≤ab (b - a)) (h4:9007199254740992 * ab (t * b - g)≤2 * ab g) :
  9007199254740992 * ab (t * b+(a - b))≤4 * ab (a - b)∧4503599627370496 * ab a≤4503599627370496 * ab b+70 * ab b:=by
 obtain ⟨D,hD⟩:∃ D,a - b = D:=⟨_,rfl⟩
 have k1:ab (b - a) = ab D:=by rw [← hD];exact ab_sub _ _
 rw [k1,show b - a = -D by grind] at h3
 rw [hD] at hs ⊢
 have l1:=le_ab (g - -D);have l2:=le_ab (t * b - g);have l3:=le_ab D;have l4:=le_ab g;have D0:=ab_0 D;have a0:=ab_0 a
 constructor
 ·have gg:=ab_le (x:=g) (y:=ab (g - -D)+ab D) (by grind) (by grind)
  refine Rat.le_trans (Rat.mul_le_mul_of_nonneg_left (ab_le (y:=ab (t * b - g)+ab (g - -D)) (by grind) (by grind)) (by decide)) ?_
  grind
 ·have qa:=sq_nonneg a;have qb:=sq_nonneg b
  have ea:ab a * ab a = a * a:=by rw [← ab_mul];exact ab_pos qa
  have eb:ab b * ab b = b * b:=by rw [← ab_mul];exact ab_pos qb
  have l5:=le_ab (b * b - (a * a+R))
  rcases Rat.le_total (a:=4503599627370496 * ab a) (b:=4503599627370496 * ab b+70 * ab b) with h | h
  ·exact h
  ·exfalso
   have m1:=Rat.mul_nonneg (show 0≤4503599627370496 * ab a - (4503599627370496 * ab b+70 * ab b) by grind) a0
   have m2:=Rat.mul_nonneg (show 0≤4503599627370496 * ab a - (4503599627370496 * ab b+70 * ab b) by grind) (show 0≤ab b by grind)
   have bp:=Rat.mul_pos hb hb
   rw [eb] at bp
   generalize ab (b * b - (a * a+R)) = z at *
   grind
theorem ab_mul_le {x y:Rat} (h:ab x≤1):ab (x * y)≤ab y:=by
 rw [ab_mul]
 have:=Rat.mul_le_mul_of_nonneg_left h (ab_0 y)
 grind
end Go.Proofs.YtdhmglmccafbnaaGreatDoor
namespace Go.Proofs.YtdhmglmccafbnaaGreatDoor
open Go.RowKit
theorem fQ_fN (a:Nat) (ha:a < 18446744073709551616):fQ (fN a) = -fQ a:=by
 unfold fQ
 rw [fZ_fN a ha,Rat.intCast_neg,Rat.neg_mul]
theorem sum_mem:∀ (xs:List Nat) (x:Nat),x ∈ xs→fQ x * fQ x≤sumQ xs:=by
 intro xs
 induction xs with
 | nil=>intro x hx;cases hx
 | cons y ys ih =>
  intro x hx
  have q0:=sumQ_nonneg ys
  have q1:=sq_nonneg (fQ y)
  have e:sumQ (y :: ys) = fQ y * fQ y+sumQ ys:=rfl
  rw [e]
  rcases List.mem_cons.1 hx with rfl | hx
  ·grind
  ·have:=ih x hx
   grind
theorem sum_len (B:Rat):∀ (xs:List Nat),(∀ x ∈ xs,ab (fQ x)≤B)→sumQ xs≤(xs.length:Rat) * (B * B):=by
 intro xs
 induction xs with
 | nil =>
  intro _
  have e:sumQ [] = 0:=rfl
  have e3:(([]:List Nat).length:Rat) = 0:=rfl
  rw [e,e3]
  grind
 | cons y ys ih =>
  intro h
  have h1:=ih (fun x hx=>h x (List.mem_cons_of_mem _ hx))
  have h2:=h y List.mem_cons_self
  have l:=le_ab (fQ y)
  have m:=Rat.mul_nonneg (show 0≤B - fQ y by grind) (show 0≤B+fQ y by grind)
  have e:sumQ (y :: ys) = fQ y * fQ y+sumQ ys:=rfl
  have e3:((y :: ys).length:Rat) = (ys.length:Rat)+1:=by rw [List.length_cons,Rat.natCast_add];rfl
  rw [e,e3]
  grind
theorem le_of_sq {x y:Rat} (hy:0≤y) (h:x * x≤y * y):x≤y:=by
 rcases Rat.le_total (a:=x) (b:=y) with g | g
 ·exact g
 ·by_cases e:x = y
  ·rw [e];exact Rat.le_refl
  ·have m:=Rat.mul_pos (show 0 < x - y by grind) (show 0 < x+y by grind)
   grind
end Go.Proofs.YtdhmglmccafbnaaGreatDoor
namespace Go.Proofs.YtdhmglmccafbnaaGreatDoor
open Go.RowKit
def apV (t:Nat):List Nat→List Nat→List Nat
 | v :: vs,y :: ys=>aV y (fN (mV t v)) :: apV t vs ys
 | _,_=>[]
def lessQ (c E:Rat):List Nat→List Nat→List Nat→Prop
 | v :: vs,y :: ys,u :: us=>(fFin u = true∧9007199254740992 * ab (fQ u - (fQ y - c * fQ v))≤E)∧lessQ c E vs ys us
 | [],[],[]=>True
 | _,_,_=>False
theorem da_le:∀ (vs ys:List Nat),(∀ v ∈ vs,1000 * ab (fQ v)≤1001)→1000 * daQ vs ys≤1001 * s1Q ys:=by
 intro vs
 induction vs with
 | nil =>
  intro ys _
  have e1:daQ [] ys = 0:=by cases ys <;> rfl
  have:=s1Q_0 ys
  rw [e1]
  grind
 | cons v vs ih =>
  intro ys h
  cases ys with
  | nil =>
   have e1:daQ (v :: vs) [] = 0:=rfl
   have e2:s1Q [] = 0:=rfl
   rw [e1,e2]
   grind
  | cons y ys =>
   have i:=ih ys (fun w hw=>h w (List.mem_cons_of_mem _ hw))
   have e1:daQ (v :: vs) (y :: ys) = ab (fQ v * fQ y)+daQ vs ys:=rfl
   have e2:s1Q (y :: ys) = ab (fQ y)+s1Q ys:=rfl
   have m:=Rat.mul_le_mul_of_nonneg_left (h v List.mem_cons_self) (ab_0 (fQ y))
   rw [e1,e2,ab_mul]
   grind
theorem ap_one (t v y:Nat) (c Y:Rat) (ft:fFin t = true) (fv:fFin v = true) (fy:fFin y = true) (hv:1000 * ab (fQ v)≤1001) (hy:ab (fQ y)≤Y) (hY:Y≤p2 900) (hη:1267650600228229401496703205376 * p2 (-1075)≤Y)
  (hc:100 * ab c≤201 * Y) (he:9007199254740992 * ab (fQ t - c)≤39 * Y) :
  fFin (aV y (fN (mV t v))) = true∧9007199254740992 * ab (fQ (aV y (fN (mV t v))) - (fQ y - c * fQ v))≤46 * Y:=by
 have hp:=p2_pos (-1075)
 have Y0:0≤Y:=by grind
 have y0:=ab_0 (fQ y);have v0:=ab_0 (fQ v)
 have lt:=le_ab (fQ t - c);have lc:=le_ab c
 have ht2:1000 * ab (fQ t)≤2011 * Y:=by
  have:=ab_le (x:=fQ t) (y:=ab (fQ t - c)+ab c) (by grind) (by grind)
  grind
 have big:16 * p2 900≤p2 1023∧0 < p2 900:=by
  have h1:=p2_mono (show (900+1+1+1+1:Int)≤1023 by decide)
  simp only [p2_succ] at h1
  exact ⟨by grind,p2_pos _⟩
 have t0:=ab_0 (fQ t)
 have m1:=Rat.mul_le_mul_of_nonneg_left hv t0
 have etv:ab (fQ t * fQ v) = ab (fQ t) * ab (fQ v):=ab_mul _ _
 have htv:1000 * ab (fQ t * fQ v)≤2014 * Y:=by rw [etv];grind
 obtain ⟨f1,e1⟩:=mul_err2 t v ft fv (by grind)
 have pl:=mV_lt t v
 have fn:fFin (fN (mV t v)) = true:=by rw [fFin_fN _ pl];exact f1
 have qn:=fQ_fN _ pl
 have l1:=le_ab (fQ (mV t v) - fQ t * fQ v);have l2:=le_ab (fQ t * fQ v);have l3:=le_ab (fQ y)
 have hp2:=ab_le (x:=fQ y+-fQ (mV t v)) (y:=ab (fQ y)+ab (fQ (mV t v) - fQ t * fQ v)+ab (fQ t * fQ v)) (by grind) (by grind)
 have fa:=add_fin y (fN (mV t v)) fy fn (by rw [qn];grind)
 have ea:=add_err y (fN (mV t v)) fy fn fa
 rw [qn] at ea
 refine ⟨fa,?_⟩
 have l4:=le_ab (fQ (aV y (fN (mV t v))) - (fQ y+-fQ (mV t v)))
 have hd2:9007199254740992 * ab ((fQ t - c) * fQ v)≤40 * Y:=by
  rw [ab_mul]
  have m2:=Rat.mul_le_mul_of_nonneg_left hv (ab_0 (fQ t - c))
  rw [show ab (fQ t - c) * (1000 * ab (fQ v)) = 1000 * (ab (fQ t - c) * ab (fQ v)) by grind] at m2
  generalize ab (fQ t - c) * ab (fQ v) = z at *
  clear l1 l2 l3 l4 lt lc
  grind
 have l5:=le_ab ((fQ t - c) * fQ v)
 have w:(fQ t - c) * fQ v = fQ t * fQ v - c * fQ v:=by grind
 rw [w] at l5 hd2
 have fin:=ab_le (x:=fQ (aV y (fN (mV t v))) - (fQ y - c * fQ v)) (y:=ab (fQ (aV y (fN (mV t v))) - (fQ y+-fQ (mV t v)))+ab (fQ (mV t v) - fQ t * fQ v)+ab (fQ t * fQ v - c * fQ v)) (by grind) (by grind)
 clear l1 l2 l3 l4 l5 lt lc w m1 etv
 generalize ab (fQ (aV y (fN (mV t v))) - (fQ y - c * fQ v)) = z0 at *
 generalize ab (fQ (aV y (fN (mV t v))) - (fQ y+-fQ (mV t v))) = z1 at *
 generalize ab (fQ (mV t v) - fQ t * fQ v) = z2 at *
 generalize ab (fQ t * fQ v - c * fQ v) = z3 at *
 generalize ab (fQ y+-fQ (mV t v)) = z4 at *
 generalize ab (fQ t * fQ v) = z5 at *
 generalize ab (fQ y) = z6 at *
 generalize p2 (-1075) = η at *
 grind
theorem ap_all (t:Nat) (c Y:Rat) (ft:fFin t = true) (hY:Y≤p2 900) (hη:1267650600228229401496703205376 * p2 (-1075)≤Y) (hc:100 * ab c≤201 * Y) (he:9007199254740992 * ab (fQ t - c)≤39 * Y) :
  ∀ (vs ys:List Nat),vs.length = ys.length→(∀ v ∈ vs,fFin v = true∧1000 * ab (fQ v)≤1001)→(∀ y ∈ ys,fFin y = true∧ab (fQ y)≤Y)→lessQ c (46 * Y) vs ys (apV t vs ys):=by
 intro vs
 induction vs with
 | nil =>
  intro ys hl _ _
  cases ys with
  | nil=>exact trivial
  | cons y ys=>simp at hl
 | cons v vs ih =>
  intro ys hl hv hy
  cases ys with
  | nil=>simp at hl
  | cons y ys =>
   obtain ⟨v1,v2⟩:=hv v List.mem_cons_self
   obtain ⟨y1,y2⟩:=hy y List.mem_cons_self
   show lessQ c (46 * Y) (v :: vs) (y :: ys) (aV y (fN (mV t v)) :: apV t vs ys)
   unfold lessQ
   exact ⟨ap_one t v y c Y ft v1 y1 v2 y2 hY hη hc he,ih ys (by simpa using hl) (fun w hw=>hv w (List.mem_cons_of_mem _ hw)) (fun w hw=>hy w (List.mem_cons_of_mem _ hw))⟩
theorem s1_mem:∀ (xs:List Nat) (x:Nat),x ∈ xs→ab (fQ x)≤s1Q xs:=by
 intro xs
 induction xs with
 | nil=>intro x hx;cases hx
 | cons y ys ih =>
  intro x hx
  have q0:=s1Q_0 ys
  have q1:=ab_0 (fQ y)
  have e:s1Q (y :: ys) = ab (fQ y)+s1Q ys:=rfl
  rw [e]
  rcases List.mem_cons.1 hx with rfl | hx
  ·grind
  ·have:=ih x hx
   grind
theorem tau_dot (tau:Nat) (vs ys:List Nat) (hl:vs.length≤6) (ft:fFin tau = true) (ht:1000 * ab (fQ tau)≤2001) (hv:∀ v ∈ vs,fFin v = true∧1000 * ab (fQ v)≤1001) (hy:∀ y ∈ ys,fFin y = true)
  (hY:s1Q ys≤p2 900) (hη:1267650600228229401496703205376 * p2 (-1075)≤s1Q ys) :
  fFin (mV tau (dtV 0 vs ys)) = true∧100 * ab (fQ tau * dtQ vs ys)≤201 * s1Q ys∧9007199254740992 * ab (fQ (mV tau (dtV 0 vs ys)) - fQ tau * dtQ vs ys)≤39 * s1Q ys∧1000 * ab (dtQ vs ys)≤1001 * s1Q ys:=by
 have hp:=p2_pos (-1075)
 have Y0:=s1Q_0 ys
 have big:16 * p2 900≤p2 1023∧0 < p2 900∧16 * p2 900≤p2 1000:=by
  have h1:=p2_mono (show (900+1+1+1+1:Int)≤1023 by decide)
  have h2:=p2_mono (show (900+1+1+1+1:Int)≤1000 by decide)
  simp only [p2_succ] at h1 h2
  exact ⟨by grind,p2_pos _,by grind⟩
 have hda:=da_le vs ys (fun v h=>(hv v h).2)
 have hdt:=dtQ_le vs ys
 have hd:1000 * ab (dtQ vs ys)≤1001 * s1Q ys:=by grind
 obtain ⟨W,hW⟩:∃ W,1000 * W = 1001 * s1Q ys:=⟨1001 * s1Q ys / 1000,by grind⟩
 obtain ⟨f1,e1⟩:=dot_err0 W vs ys (by omega) (by grind) (by grind) (fun v h=>(hv v h).1) hy (by grind)
 have hl2:(vs.length:Rat)≤6:=Rat.natCast_le_natCast.2 hl
 have e2:9007199254740992 * ab (fQ (dtV 0 vs ys) - dtQ vs ys)≤18 * W:=by
  have:=Rat.mul_nonneg (show 0≤6 - (vs.length:Rat) by grind) (show 0≤W by grind)
  grind
 have l1:=le_ab (fQ (dtV 0 vs ys) - dtQ vs ys);have l2:=le_ab (dtQ vs ys)
 have hw:=ab_le (x:=fQ (dtV 0 vs ys)) (y:=ab (fQ (dtV 0 vs ys) - dtQ vs ys)+ab (dtQ vs ys)) (by grind) (by grind)
 have t0:=ab_0 (fQ tau)
 have w0:=ab_0 (fQ (dtV 0 vs ys))
 have m1:=Rat.mul_le_mul_of_nonneg_left ht w0
 have m2:=Rat.mul_le_mul_of_nonneg_left ht (ab_0 (dtQ vs ys))
 have m3:=Rat.mul_le_mul_of_nonneg_left ht (ab_0 (fQ (dtV 0 vs ys) - dtQ vs ys))
 have n1:1000 * ab (fQ tau * fQ (dtV 0 vs ys))≤2001 * ab (fQ (dtV 0 vs ys)):=by rw [ab_mul];grind
 have n2:1000 * ab (fQ tau * dtQ vs ys)≤2001 * ab (dtQ vs ys):=by rw [ab_mul];grind
 have n3:1000 * ab (fQ tau * (fQ (dtV 0 vs ys) - dtQ vs ys))≤2001 * ab (fQ (dtV 0 vs ys) - dtQ vs ys):=by rw [ab_mul];grind
 obtain ⟨f2,e3⟩:=mul_err2 tau (dtV 0 vs ys) ft f1 (by grind)
 refine ⟨f2,by grind,?_,hd⟩
 have l3:=le_ab (fQ (mV tau (dtV 0 vs ys)) - fQ tau * fQ (dtV 0 vs ys));have l4:=le_ab (fQ tau * (fQ (dtV 0 vs ys) - dtQ vs ys))
 have w:fQ tau * (fQ (dtV 0 vs ys) - dtQ vs ys) = fQ tau * fQ (dtV 0 vs ys) - fQ tau * dtQ vs ys:=by grind
 rw [w] at l4 n3
 have fin:=ab_le (x:=fQ (mV tau (dtV 0 vs ys)) - fQ tau * dtQ vs ys) (y:=ab (fQ (mV tau (dtV 0 vs ys)) - fQ tau * fQ (dtV 0 vs ys))+ab (fQ tau * fQ (dtV 0 vs ys) - fQ tau * dtQ vs ys)) (by grind) (by grind)
 clear l1 l2 l3 l4 m1 m2 m3 w e1
 generalize ab (fQ (mV tau (dtV 0 vs ys)) - fQ tau * dtQ vs ys) = z0 at *
 generalize ab (fQ (mV tau (dtV 0 vs ys)) - fQ tau * fQ (dtV 0 vs ys)) = z1 at *
 generalize ab (fQ tau * fQ (dtV 0 vs ys) - fQ tau * dtQ vs ys) = z2 at *
 generalize ab (fQ (dtV 0 vs ys) - dtQ vs ys) = z3 at *
 generalize ab (fQ tau * fQ (dtV 0 vs ys)) = z4 at *
 generalize ab (fQ (dtV 0 vs ys)) = z5 at *
 generalize ab (dtQ vs ys) = z6 at *
 generalize s1Q ys = Y at *
 generalize p2 (-1075) = η at *
 grind
end Go.Proofs.YtdhmglmccafbnaaGreatDoor
namespace Go.Proofs.YtdhmglmccafbnaaGreatDoor
open Go.RowKit
theorem fQ_one:fQ 4607182418800017408 = 1:=by
 have hs:fS 4607182418800017408 = false:=by decide
 have hr:fR 4607182418800017408 = 4607182418800017408:=by decide
 obtain ⟨K,hK⟩:∃ K:Nat,K = 1022:=⟨_,rfl⟩
 have hg:rv 4607182418800017408 = 4503599627370496 * 2 ^ K:=by
  have:=gM_rv 4607182418800017408 (by decide)
  rw [this,show gM 4607182418800017408 = 4503599627370496 by decide,show 4607182418800017408 / 4503599627370496 - 1 = K by omega]
 rw [fQ_sign,hs,if_neg (by decide),hr,hg,Rat.natCast_mul,← p2_nat]
 have e:p2 ((K:Nat):Int) = 4503599627370496 * p2 970:=by
  rw [show ((K:Nat):Int) = 970+52 by omega,p2_52]
 have e2:4503599627370496 * (4503599627370496 * p2 970) = p2 1074:=by
  rw [← p2_52,← p2_52];rfl
 have k:((4503599627370496:Nat):Rat) = 4503599627370496:=rfl
 rw [k,e,e2,Rat.mul_comm]
 exact p2_neg 1074
theorem mul_le_five {l x:Rat} (h:l≤5) (hx:0≤x):l * x≤5 * x:=by
 have:=Rat.mul_le_mul_of_nonneg_left h hx
 grind
end Go.Proofs.YtdhmglmccafbnaaGreatDoor
