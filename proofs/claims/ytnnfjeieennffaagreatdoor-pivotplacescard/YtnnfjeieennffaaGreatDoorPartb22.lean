/- Part 22 of the texts. -/
import Derived.Test.YtnnfjeieennffaaGreatDoorPartb21
import Derived.Test.YtnnfjeieennffaaGreatDoorPartb17
import Derived.Test.YtnnfjeieennffaaGreatDoorPartb18
import Derived.Test.YtnnfjeieennffaaGreatDoorPartb20
import Derived.Laws.Cover2
import Derived.Laws.Externs
import Derived.Test.YtnnfjeieennffaaGreatDoorPartb03
import Derived.Laws.FloatArith
import Derived.Test.YtnnfjeieennffaaGreatDoorPartb04
import Derived.Test.YtnnfjeieennffaaGreatDoorPartb01
import Derived.Deep.OwnRows
import Derived.Deep.RegionHeld3
set_option maxHeartbeats 4000000
set_option maxRecDepth 20000
namespace Go.Proofs.YtnnfjeieennffaaGreatDoor
open Go.RowKit
theorem eta_small:1267650600228229401496703205376 * p2 (-1075)≤1∧0 < p2 (-1075)∧p2 (-1074) = 2 * p2 (-1075):=by
 refine ⟨?_,p2_pos _,?_⟩
 ·have h1:=p2_mono (show (-1075:Int)≤-100 by decide)
  have h2:=p2_neg 100
  have h3:p2 100 = 1267650600228229401496703205376:=by rw [show (100:Int) = ((100:Nat):Int) by rfl,p2_nat];rfl
  rw [h3] at h2
  grind
 ·rw [show (-1074:Int) = -1075+1 by rfl,p2_succ]
theorem p2_big:(1024:Rat)≤p2 1023:=by
 have h:=p2_mono (show (10:Int)≤1023 by decide)
 have h3:p2 10 = 1024:=by rw [show (10:Int) = ((10:Nat):Int) by rfl,p2_nat];rfl
 grind
theorem fQ_pos (a:Nat) (h:fS a = false):0≤fQ a:=by
 rw [fQ_sign,h]
 exact mag_0 _
def sqV (k:Int) (s x:Nat):Nat:=aV s (mV (xV x (-k)) (xV x (-k)))
def dQ (k:Int) (x:Nat):Rat:=fQ x * p2 (-k)
theorem mV_self_sign (t:Nat) (ft:fFin t = true):fS (mV t t) = false∧mV t t < 9223372036854775808:=by
 have hle:=rnd_le (rv (fR t) * rv (fR t)) (-2148)
 rw [mV_any t t ft ft,Bool.xor_self,wrd_false]
 exact ⟨decide_eq_false (by omega),by omega⟩
theorem sq_one (k:Int) (x:Nat) (hx:x < 18446744073709551616) (fx:fFin x = true) (hd:ab (dQ k x)≤2) :
  fFin (mV (xV x (-k)) (xV x (-k))) = true∧fS (mV (xV x (-k)) (xV x (-k))) = false ∧
  9007199254740992 * ab (fQ (mV (xV x (-k)) (xV x (-k))) - dQ k x * dQ k x)≤dQ k x * dQ k x+9007199254740992 * (8 * p2 (-1075)):=by
 obtain ⟨n1,n2,n3⟩:=eta_small
 have hB:=p2_big
 have ha:ab (fQ x) * p2 (-k) = ab (dQ k x):=by
  unfold dQ
  rw [ab_mul,ab_pos (Rat.le_of_lt (p2_pos _))]
 have ft:=scale_fin x (-k) hx fx (by rw [ha];grind)
 have ht:=scale_err x (-k) hx fx ft
 rw [show fQ x * p2 (-k) = dQ k x from rfl] at ht
 have htl:=xV_lt x (-k) hx
 generalize xV x (-k) = t at *
 generalize dQ k x = d at *
 have e1:ab (fQ t - d)≤p2 (-1075):=by
  rcases ht with e | e
  ·rw [e];unfold ab;grind
  ·have:=e.2.2
   grind
 generalize p2 (-1075) = η at *
 clear ht ha
 obtain ⟨δ,hδ⟩:∃ δ,fQ t = d+δ:=⟨fQ t - d,by grind⟩
 rw [hδ] at e1
 have e2:δ≤η∧-δ≤η:=by
  have:=le_ab (d+δ - d)
  grind
 have l:=le_ab d
 have m1:=Rat.mul_nonneg (show 0≤2 - d by grind) (show 0≤η - δ by grind)
 have m2:=Rat.mul_nonneg (show 0≤2 - d by grind) (show 0≤η+δ by grind)
 have m3:=Rat.mul_nonneg (show 0≤2+d by grind) (show 0≤η - δ by grind)
 have m4:=Rat.mul_nonneg (show 0≤2+d by grind) (show 0≤η+δ by grind)
 have m5:=Rat.mul_nonneg (show 0≤η - δ by grind) (show 0≤η+δ by grind)
 have m6:=sq_nonneg δ
 have m7:=sq_nonneg d
 have m8:=Rat.mul_nonneg (show 0≤η by grind) (show 0≤1 - η by grind)
 have m9:=Rat.mul_nonneg (show 0≤2 - d by grind) (show 0≤2+d by grind)
 have hsq:fQ t * fQ t = d * d+2 * (d * δ)+δ * δ:=by rw [hδ];grind
 have hs2:fQ t * fQ t≤d * d+5 * η∧d * d≤fQ t * fQ t+5 * η:=by
  rw [hsq];constructor <;> grind
 have q0:=sq_nonneg (fQ t)
 have fp:=mul_fin t t ft ft (by rw [ab_pos q0];grind)
 refine ⟨fp,(mV_self_sign t ft).1,?_⟩
 have hm:=mul_err t t ft ft fp
 rw [ab_pos q0,n3] at hm
 generalize fQ (mV t t) = P at *
 generalize fQ t * fQ t = Q at *
 rcases hm with e | e
 ·have:=le_ab (P - Q)
  unfold ab
  grind
 ·have:=le_ab (P - Q)
  have:=e.2
  unfold ab
  grind
theorem sq_step (k:Int) (s x:Nat) (T H G:Rat) (hx:x < 18446744073709551616) (fx:fFin x = true) (hd:ab (dQ k x)≤2) (fs:fFin s = true) (ss:fS s = false)
  (hT:T+dQ k x * dQ k x≤G) (hG1:1≤G) (hG2:G≤256) (hH:H≤64 * G)
  (he:9007199254740992 * ab (fQ s - T)≤2 * T+2 * H) :
  fFin (sqV k s x) = true∧fS (sqV k s x) = false∧9007199254740992 * ab (fQ (sqV k s x) - (T+dQ k x * dQ k x))≤2 * (T+dQ k x * dQ k x)+2 * (H+G):=by
 obtain ⟨fp,sp,ep⟩:=sq_one k x hx fx hd
 obtain ⟨n1,n2,n3⟩:=eta_small
 have hB:=p2_big
 unfold sqV
 generalize mV (xV x (-k)) (xV x (-k)) = p at *
 have s0:=fQ_pos s ss
 have p0:=fQ_pos p sp
 have m7:=sq_nonneg (dQ k x)
 generalize dQ k x * dQ k x = D at *
 have l1:=le_ab (fQ s - T)
 have l2:=le_ab (fQ p - D)
 have b0:ab (fQ s+fQ p) = fQ s+fQ p:=ab_pos (by grind)
 have fa:=add_fin s p fs fp (by rw [b0];grind)
 have ea:=add_err s p fs fp fa
 rw [b0] at ea
 refine ⟨fa,?_,?_⟩
 ·have h1:=(aV_fin s p fs fp).2
  have hz:0≤fZ s∧0≤fZ p:=by
   unfold fZ pv;rw [ss,sp];simp only [Bool.false_eq_true,if_false];omega
  obtain ⟨c1,c2⟩:=fin_kind fs
  obtain ⟨c3,c4⟩:=fin_kind fp
  rw [(add_f s p c1 c2 c3 c4).1]
  split
  ·rw [ss,sp];decide
  ·have hle:=rnd_le (aZ s p).natAbs (-1074)
   rw [fS_wrd _ _ (by omega)]
   exact decide_eq_false (by unfold aZ;omega)
 ·have l3:=le_ab (fQ (aV s p) - (fQ s+fQ p))
  generalize fQ (aV s p) = Y at *
  generalize fQ s = S at *
  generalize fQ p = P at *
  generalize p2 (-1075) = η at *
  refine Rat.le_trans (Rat.mul_le_mul_of_nonneg_left (ab_le (y:=ab (Y - (S+P))+ab (S - T)+ab (P - D)) (by grind) (by grind)) (by decide)) ?_
  grind
end Go.Proofs.YtnnfjeieennffaaGreatDoor
namespace Go.Proofs.YtnnfjeieennffaaGreatDoor
open Go.RowKit
def ssV (k:Int):Nat→List Nat→Nat
 | s,[]=>s
 | s,x :: xs=>ssV k (sqV k s x) xs
def sqQ (k:Int):List Nat→Rat
 | []=>0
 | x :: xs=>dQ k x * dQ k x+sqQ k xs
theorem sqQ_0 (k:Int) (xs:List Nat):0≤sqQ k xs:=by
 induction xs with
 | nil=>exact Rat.le_refl
 | cons x xs ih =>
  have:=sq_nonneg (dQ k x)
  unfold sqQ
  grind
theorem ss_err (k:Int) (G:Rat) (hG1:1≤G) (hG2:G≤256):∀ (xs:List Nat) (s:Nat) (T H:Rat),(∀ x ∈ xs,x < 18446744073709551616∧fFin x = true∧ab (dQ k x)≤2)→fFin s = true→fS s = false →
  T+sqQ k xs≤G→H+(xs.length:Rat) * G≤64 * G→9007199254740992 * ab (fQ s - T)≤2 * T+2 * H →
  fFin (ssV k s xs) = true∧fS (ssV k s xs) = false∧9007199254740992 * ab (fQ (ssV k s xs) - (T+sqQ k xs))≤2 * (T+sqQ k xs)+2 * (H+(xs.length:Rat) * G):=by
 intro xs
 induction xs with
 | nil =>
  intro s T H _ fs ss _ _ he
  refine ⟨fs,ss,?_⟩
  have e1:ssV k s [] = s:=rfl
  have e2:sqQ k [] = 0:=rfl
  have e3:(([]:List Nat).length:Rat) = 0:=rfl
  rw [e1,e2,e3,Rat.add_zero]
  grind
 | cons x xs ih =>
  intro s T H hx fs ss hT hH he
  obtain ⟨h1,h2,h3⟩:=hx x (List.mem_cons_self)
  have e2:sqQ k (x :: xs) = dQ k x * dQ k x+sqQ k xs:=rfl
  have e3:((x :: xs).length:Rat) = (xs.length:Rat)+1:=by rw [List.length_cons,Rat.natCast_add];rfl
  have e4:((x :: xs).length:Rat) * G = (xs.length:Rat) * G+G:=by rw [e3];grind
  have q0:=sqQ_0 k xs
  have l0:0≤(xs.length:Rat) * G:=Rat.mul_nonneg Rat.natCast_nonneg (by grind)
  rw [e2] at hT ⊢
  rw [e4] at hH ⊢
  obtain ⟨g1,g2,g3⟩:=sq_step k s x T H G h1 h2 h3 fs ss (by grind) hG1 hG2 (by grind) he
  obtain ⟨i1,i2,i3⟩:=ih (sqV k s x) (T+dQ k x * dQ k x) (H+G) (fun y hy=>hx y (List.mem_cons_of_mem _ hy)) g1 g2 (by grind) (by grind) g3
  refine ⟨i1,i2,?_⟩
  rw [show T+(dQ k x * dQ k x+sqQ k xs) = T+dQ k x * dQ k x+sqQ k xs by grind,show H+((xs.length:Rat) * G+G) = H+G+(xs.length:Rat) * G by grind]
  exact i3
def mx (a b:Nat):Nat:=if fK a = 4 ∨ fK b = 4 then 9221120237041090560 else if fZ a < fZ b then b else a
def bgF:Nat→List Nat→Nat
 | m,[]=>m
 | m,x :: xs=>bgF (mx m (fR x)) xs
theorem mag_fZ (r:Nat) (h:r < 9223372036854775808):fZ r = (rv r:Int)∧fR r = r∧fS r = false:=by
 have h1:fR r = r:=by unfold fR;omega
 have h2:fS r = false:=decide_eq_false (by omega)
 refine ⟨?_,h1,h2⟩
 unfold fZ pv
 rw [h1,h2]
 rfl
theorem mx_mag (m r:Nat) (hm:m < 9218868437227405312) (hr:r < 9218868437227405312):mx m r = max m r:=by
 obtain ⟨a1,a2,a3⟩:=mag_fZ m (by omega)
 obtain ⟨b1,b2,b3⟩:=mag_fZ r (by omega)
 have k1:=(fin_kind ((fK_rungs m).2.2.2 (by rw [a2];exact hm))).2
 have k2:=(fin_kind ((fK_rungs r).2.2.2 (by rw [b2];exact hr))).2
 unfold mx
 rw [if_neg (by omega),a1,b1]
 rcases Nat.lt_or_ge m r with h | h
 ·have:=rv8_lt h
  rw [if_pos (by omega)]
  omega
 ·have:=rv_mono h
  rw [if_neg (by omega)]
  omega
theorem bgF_fin:∀ (xs:List Nat) (m:Nat),m < 9218868437227405312→(∀ x ∈ xs,fFin x = true) →
  bgF m xs < 9218868437227405312∧m≤bgF m xs∧(∀ x ∈ xs,fR x≤bgF m xs)∧(bgF m xs = m ∨ ∃ x ∈ xs,fR x = bgF m xs):=by
 intro xs
 induction xs with
 | nil=>intro m hm _;exact ⟨hm,Nat.le_refl _,(fun x hx=>(by cases hx)),Or.inl rfl⟩
 | cons x xs ih =>
  intro m hm hx
  have hr:=fR_fin x (hx x List.mem_cons_self)
  have e:bgF m (x :: xs) = bgF (max m (fR x)) xs:=by
   show bgF (mx m (fR x)) xs = _
   rw [mx_mag m _ hm hr]
  obtain ⟨i1,i2,i3,i4⟩:=ih (max m (fR x)) (by omega) (fun y hy=>hx y (List.mem_cons_of_mem _ hy))
  rw [e]
  refine ⟨i1,by omega,?_,?_⟩
  ·intro y hy
   rcases List.mem_cons.1 hy with rfl | hy
   ·omega
   ·exact i3 y hy
  ·rcases i4 with i4 | ⟨y,hy,i4⟩
   ·rcases Nat.lt_or_ge m (fR x) with h | h
    ·exact .inr ⟨x,List.mem_cons_self,by omega⟩
    ·exact .inl (by omega)
   ·exact .inr ⟨y,List.mem_cons_of_mem _ hy,i4⟩
def nrV (xs:List Nat):Nat:=if bgF 0 xs = 0 ∨ fFin (bgF 0 xs) = false then bgF 0 xs else xV (sV (ssV (eX (bgF 0 xs)) 0 xs)) (eX (bgF 0 xs))
theorem eX_top (a:Nat) (ha:a < 18446744073709551616) (fa:fFin a = true) (a0:fK a ≠ 0):p2 (eX a)≤ab (fQ a)∧ab (fQ a) < p2 (eX a+1):=by
 obtain ⟨a3,a4⟩:=fin_kind fa
 obtain ⟨z1,z2,z3,z4,z5,z6,z7,z8,z9⟩:=sc_facts a ha fa a0
 have h:=xE_top (fD a).natAbs (fX a) z3
 have e:=fD_mag a ha fa a0 0
 rw [Int.add_zero,p2_0,Rat.mul_one,← fQ_ab] at e
 rw [e] at h
 unfold eX
 rw [if_neg (by omega),show (bl (fD a).natAbs:Int)+fX a - 1+1 = (bl (fD a).natAbs:Int)+fX a by omega]
 exact h
theorem sqQ_mem (k:Int):∀ (xs:List Nat) (x:Nat),x ∈ xs→dQ k x * dQ k x≤sqQ k xs:=by
 intro xs
 induction xs with
 | nil=>intro x hx;cases hx
 | cons y ys ih =>
  intro x hx
  have q0:=sqQ_0 k ys
  have q1:=sq_nonneg (dQ k y)
  have e:sqQ k (y :: ys) = dQ k y * dQ k y+sqQ k ys:=rfl
  rw [e]
  rcases List.mem_cons.1 hx with rfl | hx
  ·grind
  ·have:=ih x hx
   grind
theorem sqQ_le (k:Int):∀ (xs:List Nat),(∀ x ∈ xs,ab (dQ k x)≤2)→sqQ k xs≤4 * (xs.length:Rat):=by
 intro xs
 induction xs with
 | nil =>
  intro _
  have e:sqQ k [] = 0:=rfl
  have e3:(([]:List Nat).length:Rat) = 0:=rfl
  rw [e,e3]
  grind
 | cons y ys ih =>
  intro h
  have h1:=ih (fun x hx=>h x (List.mem_cons_of_mem _ hx))
  have h2:=h y List.mem_cons_self
  have l:=le_ab (dQ k y)
  have m:=Rat.mul_nonneg (show 0≤2 - dQ k y by grind) (show 0≤2+dQ k y by grind)
  have e:sqQ k (y :: ys) = dQ k y * dQ k y+sqQ k ys:=rfl
  have e3:((y :: ys).length:Rat) = (ys.length:Rat)+1:=by rw [List.length_cons,Rat.natCast_add];rfl
  rw [e,e3]
  grind
end Go.Proofs.YtnnfjeieennffaaGreatDoor
namespace Go.Proofs.YtnnfjeieennffaaGreatDoor
open Go.RowKit
theorem vadd_any (a b:Nat) (w:World) (ha:a < 18446744073709551616) (hb:b < 18446744073709551616) (hT:Tab w) :
  Calls Tryz.prog 188 #[.int .u64 a,.int .u64 b] w fun r w'=>r = .returned (.int .u64 (aV a b:Nat))∧Below w.heap.size w w':=by
 have K:=hide (sadd_any a b w ha hb hT)
 clear ha hb hT
 generalize aV a b = o at *
 generalize aF a b = f at *
 go_enter Tryz.func188,Tryz.ntmps188
 go_wp2_with fail
 refine Calls.mono (uH K) ?_
 rintro e w1 ⟨rfl,hb1⟩
 clear K
 go_wp2
 go_ret
 exact ⟨rfl,hb1⟩
theorem vmul_any (a b:Nat) (w:World) (ha:a < 18446744073709551616) (hb:b < 18446744073709551616) (hT:Tab w) :
  Calls Tryz.prog 176 #[.int .u64 a,.int .u64 b] w fun r w'=>r = .returned (.int .u64 (mV a b:Nat))∧Below w.heap.size w w':=by
 have K:=hide (tmul_any a b w ha hb hT)
 clear ha hb hT
 generalize mV a b = o at *
 generalize mF a b = f at *
 go_enter Tryz.func176,Tryz.ntmps176
 go_wp2_with fail
 refine Calls.mono (uH K) ?_
 rintro e w1 ⟨rfl,hb1⟩
 clear K
 go_wp2
 go_ret
 exact ⟨rfl,hb1⟩
theorem vscale_any (a:Nat) (n:Int) (w:World) (ha:a < 18446744073709551616) (hT:Tab w) :
  Calls Tryz.prog 45 #[.int .u64 a,.int .i64 n] w fun r w'=>r = .returned (.int .u64 (xV a n:Nat))∧Below w.heap.size w w':=by
 have K:=hide (cscale_any a n w ha hT)
 clear ha hT
 generalize xV a n = o at *
 generalize xF a n = f at *
 go_enter Tryz.func45,Tryz.ntmps45
 go_wp2_with fail
 refine Calls.mono (uH K) ?_
 rintro e w1 ⟨rfl,hb1⟩
 clear K
 go_wp2
 go_ret
 exact ⟨rfl,hb1⟩
theorem vfit_any (ao bo:Option Addr) (n m c d:Nat) (w:World) :
  Calls Tryz.prog 193 #[.slice ao n c,.slice bo m d] w fun r w'=>r = .returned (.bool (decide (n≤64∧n = m)))∧w = w':=by
 by_cases h1:n≤64
 ·have h1I:(n:Int)≤64:=by omega
  by_cases h2:n = m
  ·rw [decide_eq_true (And.intro h1 h2)]
   subst h2
   go_enter Tryz.func193,Tryz.ntmps193
   go_wp2
   go_ret
   exact ⟨rfl,rfl⟩
  ·rw [decide_eq_false (fun h=>h2 h.2)]
   have h2I:decide ((n:Int) = (m:Int)) = false:=decide_eq_false (by omega)
   go_enter Tryz.func193,Tryz.ntmps193
   go_wp2
   go_ret
   exact ⟨by simp;omega,rfl⟩
 ·rw [decide_eq_false (fun h=>h1 h.1)]
  have h1I:(64:Int) < (n:Int):=by omega
  go_enter Tryz.func193,Tryz.ntmps193
  go_wp2
  go_ret
  exact ⟨by simp,rfl⟩
end Go.Proofs.YtnnfjeieennffaaGreatDoor
namespace Go.Proofs.YtnnfjeieennffaaGreatDoor
open Go.RowKit
theorem gatherB_any (fn:Nat) (caps:Array Value) (n:Nat) (f:Nat→Nat) (w:World)
  (hcf:∀ args w,(callFunc fn args).run Tryz.prog w = .ok (.enter fn args) w) (hn:n≤35184372088830)
  (hstep:∀ w' k,Below w.heap.size w w'→k < n→Calls Tryz.prog fn (#[.int .u64 (f k:Nat),.int .i64 (k:Nat)] ++ caps) w' fun e w''=>e = .returned (.int .u64 (f (k+1):Nat))∧Below w'.heap.size w' w'') :
  Calls Tryz.prog 164 #[.int .i64 n,.int .u64 (f 0:Nat),.func (.func fn) #[] caps] w fun e w'=>e = .returned (.int .u64 (f n:Nat))∧Below w.heap.size w w':=by
 have HS:=hide hstep
 clear hstep
 go_enter Tryz.func164,Tryz.ntmps164
 go_wp2_with fail
 go_loopw [7,11] (fun t i wr=>∃ k:Nat,k≤n∧i = .int .i64 k∧t = .int .u64 (f k:Nat)∧Hid (Below w.heap.size w wr)) (fun _ i _=>n - (intOf i).toNat)
 case atStart=>exact ⟨0,Nat.zero_le _,rfl,rfl,Below.refl _ _⟩
 case round =>
  obtain ⟨k,hk,rfl,rfl,hB⟩:=hrel
  by_cases hlt:k < n
  ·have hkI:(k:Int) < (n:Int):=by omega
   have C:=hide (fun w' h=>uH HS w' k h hlt)
   obtain ⟨o,eo⟩:∃ o,f (k+1) = o:=⟨_,rfl⟩
   rw [eo] at C
   have eV:=hide eo
   clear eo
   go_wp2_with fail
   refine (uH C _ hB.out).mono ?_
   rintro e w2 ⟨rfl,hb2⟩
   have B2:Hid (Below w.heap.size w w2):=hB.out.trans (hb2.mono hB.out.size)
   clear hb2 C
   go_wp2_with fail
   go_round
   case rel=>exact ⟨k+1,by omega,by go_num,by rw [uH eV],B2⟩
   case measure=>simp [intOf];omega
  ·have hkk:k = n:=by omega
   subst hkk
   go_wp2_with fail
   exact bodyPost_ret (v:=.int .u64 (f k:Nat)) (by simp [results,Tryz.results164,go_sem]) rfl ⟨rfl,hB.out⟩
theorem gatherb_any (fn:Nat) (caps:Array Value) (n:Nat) (f:Nat→Bool) (w:World)
  (hcf:∀ args w,(callFunc fn args).run Tryz.prog w = .ok (.enter fn args) w) (hn:n≤35184372088830)
  (hstep:∀ w' k,Below w.heap.size w w'→k < n→Calls Tryz.prog fn (#[.bool (f k),.int .i64 (k:Nat)] ++ caps) w' fun e w''=>e = .returned (.bool (f (k+1)))∧Below w'.heap.size w' w'') :
  Calls Tryz.prog 77 #[.int .i64 n,.bool (f 0),.func (.func fn) #[] caps] w fun e w'=>e = .returned (.bool (f n))∧Below w.heap.size w w':=by
 have HS:=hide hstep
 clear hstep
 go_enter Tryz.func77,Tryz.ntmps77
 go_wp2_with fail
 go_loopw [7,11] (fun t i wr=>∃ k:Nat,k≤n∧i = .int .i64 k∧t = .bool (f k)∧Hid (Below w.heap.size w wr)) (fun _ i _=>n - (intOf i).toNat)
 case atStart=>exact ⟨0,Nat.zero_le _,rfl,rfl,Below.refl _ _⟩
 case round =>
  obtain ⟨k,hk,rfl,rfl,hB⟩:=hrel
  by_cases hlt:k < n
  ·have hkI:(k:Int) < (n:Int):=by omega
   have C:=hide (fun w' h=>uH HS w' k h hlt)
   obtain ⟨o,eo⟩:∃ o,f (k+1) = o:=⟨_,rfl⟩
   rw [eo] at C
   have eV:=hide eo
   clear eo
   go_wp2_with fail
   refine (uH C _ hB.out).mono ?_
   rintro e w2 ⟨rfl,hb2⟩
   have B2:Hid (Below w.heap.size w w2):=hB.out.trans (hb2.mono hB.out.size)
   clear hb2 C
   go_wp2_with fail
   go_round
   case rel=>exact ⟨k+1,by omega,by go_num,by rw [uH eV],B2⟩
   case measure=>simp [intOf];omega
  ·have hkk:k = n:=by omega
   subst hkk
   go_wp2_with fail
   exact bodyPost_ret (v:=.bool (f k)) (by simp [results,Tryz.results77,go_sem]) rfl ⟨rfl,hB.out⟩
def bitV (x:Nat):Value:=.int .u64 (x:Int)
def RowB (w:World) (g:Nat) (S:List Nat):Prop:=w.heap[g]? = some (.cells (S.map bitV).toArray 31 (0,0))
theorem RowB.cell {w:World} {g:Nat} {S:List Nat} (h:RowB w g S) (j:Nat) (hj:j < S.length):w.cell? ⟨g,j,none⟩ = some (.int .u64 ((S[j]?.getD 0:Nat):Int)):=by
 rw [cell_of_row w g j _ _ _ h]
 simp [bitV,hj]
theorem RowB.free {w:World} {g:Nat} {S:List Nat} (h:RowB w g S) (j:Nat):w.frozen? ⟨g,j,none⟩ = false:=frozen_of_row w g j _ _ h
theorem RowB.set {w:World} {g:Nat} {S:List Nat} (h:RowB w g S) (j x:Nat):RowB (w.setCell ⟨g,j,none⟩ (.int .u64 (x:Int))) g (S.set j x):=by
 unfold RowB
 rw [heap_setCell_same w g j _ _ _ h]
 simp [bitV,List.map_set]
theorem RowB.lt {w:World} {g:Nat} {S:List Nat} (h:RowB w g S):g < w.heap.size:=(Array.getElem?_eq_some_iff.1 h).1
theorem RowB.below {w w':World} {g:Nat} {S:List Nat} (h:RowB w g S) {B:Nat} (hb:Below B w w') (hg:g < B):RowB w' g S:=by
 unfold RowB;rw [hb.block g hg];exact h
theorem RowB.made (w:World) (n:Nat):RowB (w.alloc (.cells (madeCells #[.int .u64 0] n) 31)) w.heap.size (List.replicate n 0):=by
 unfold RowB
 rw [heap_alloc_new w _]
 have:madeCells #[Value.int .u64 0] n = ((List.replicate n 0).map bitV).toArray:=by
  apply Array.toList_inj.1
  refine List.ext_getElem (by simp [madeCells]) fun i h1 h2=>?_
  simp [madeCells,bitV,Nat.mod_one]
 rw [this]
def eaL (f:Nat→Nat) (n k:Nat):List Nat:=(List.range n).map (fun j=>if j < k then f j else 0)
theorem eaL_0 (f:Nat→Nat) (n:Nat):eaL f n 0 = List.replicate n 0:=by
 unfold eaL
 refine List.ext_getElem (by simp) fun i h1 h2=>?_
 simp
theorem eaL_len (f:Nat→Nat) (n k:Nat):(eaL f n k).length = n:=by simp [eaL]
theorem eaL_set (f:Nat→Nat) (n k:Nat):(eaL f n k).set k (f k) = eaL f n (k+1):=by
 unfold eaL
 refine List.ext_getElem (by simp) fun i h1 h2=>?_
 rw [List.getElem_set]
 simp only [List.getElem_map,List.getElem_range]
 by_cases h:k = i
 ·subst h;simp
 ·rw [if_neg h]
  by_cases h3:i < k
  ·rw [if_pos h3,if_pos (by omega)]
  ·rw [if_neg h3,if_neg (by omega)]
theorem eaL_full (f:Nat→Nat) (n:Nat):eaL f n n = (List.range n).map f:=by
 unfold eaL
 refine List.ext_getElem (by simp) fun i h1 h2=>?_
 simp only [List.getElem_map,List.getElem_range]
 rw [if_pos (by simpa using h2)]
theorem each_any (fn:Nat) (caps:Array Value) (n:Nat) (f:Nat→Nat) (w:World)
  (hcf:∀ args w,(callFunc fn args).run Tryz.prog w = .ok (.enter fn args) w) (hn:n≤35184372088830)
  (hstep:∀ w' k,Below w.heap.size w w'→k < n→Calls Tryz.prog fn (#[.int .i64 (k:Nat)] ++ caps) w' fun e w''=>e = .returned (.int .u64 (f k:Nat))∧Below w'.heap.size w' w'') :
  Calls Tryz.prog 167 #[.int .i64 n,.func (.func fn) #[] caps] w fun e w'=>∃ g,e = .returned (.slice (some ⟨g,0,none⟩) n n)∧w.heap.size≤g∧RowB w' g ((List.range n).map f)∧Below w.heap.size w w':=by
 have HS:=hide hstep
 have hmk:=run_make_row' (P:=Tryz.prog) 22 31 (.int .u64 0) 8 Tryz.underlying22 (by kernel_rfl) rfl .i64 .i64 n (by omega) (by omega)
 have HM:=hide (RowB.made w n)
 have HB:=hide ((Below.refl w.heap.size w).alloc (Nat.le_refl _) (.cells (madeCells #[.int .u64 0] n) 31))
 clear hstep
 go_enter Tryz.func167,Tryz.ntmps167
 go_wp2_with fail
 clear hmk
 go_loopw [10] (fun i wr=>∃ k:Nat,k≤n∧i = .int .i64 k∧Hid (RowB wr w.heap.size (eaL f n k))∧Hid (Below w.heap.size w wr)) (fun i _=>n - (intOf i).toNat)
 case atStart=>exact ⟨0,Nat.zero_le _,rfl,by rw [eaL_0];exact HM,HB⟩
 case round =>
  clear HM HB
  obtain ⟨k,hk,rfl,hR,hB⟩:=hrel
  by_cases hlt:k < n
  ·have hkI:(k:Int) < (n:Int):=by omega
   have C:=hide (fun w' h=>uH HS w' k h hlt)
   obtain ⟨o,eo⟩:∃ o,f k = o:=⟨_,rfl⟩
   rw [eo] at C
   have eV:=hide eo
   clear eo
   go_wp2_with fail
   refine (uH C _ hB.out).mono ?_
   rintro e w2 ⟨rfl,hb2⟩
   have hR2:=(uH hR).below hb2 (uH hR).lt
   have c0:=hR2.cell k (by rw [eaL_len];exact hlt)
   have f0:=hR2.free k
   have R3:=hide (hR2.set k o)
   have B2:Below w.heap.size w w2:=hB.out.trans (hb2.mono hB.out.size)
   have B3:=hide (B2.setCell (p:=⟨w.heap.size,k,none⟩) (Nat.le_refl _) (.int .u64 (o:Int)))
   clear hb2 C hR hB B2 hR2
   go_wp2_with fail
   go_round
   case rel=>exact ⟨k+1,by omega,by go_num,by rw [← eaL_set,uH eV];exact R3,B3⟩
   case measure=>simp [intOf];omega
  ·have hkk:k = n:=by omega
   subst hkk
   go_wp2_with fail
   exact bodyPost_ret (v:=.slice (some ⟨w.heap.size,0,none⟩) k k) (by simp [results,Tryz.results167,go_sem]) rfl ⟨_,rfl,Nat.le_refl _,by rw [← eaL_full];exact uH hR,hB.out⟩
end Go.Proofs.YtnnfjeieennffaaGreatDoor
namespace Go.Proofs.YtnnfjeieennffaaGreatDoor
open Go.RowKit
attribute [local go_sem ↓] Go.wp_at_zero Go.wp_at_succ
theorem cell_keep {w w':World} {p:Addr} {v:Value} (h:w.cell? p = some v) (hb:Below w.heap.size w w'):w'.cell? p = some v:=by
 rw [hb.cell (World.block_lt_of_cell? w _ h)];exact h
theorem dot1_of (s x y p o k n m c d bx by':Nat) (b1 o1 b2 o2:Nat) (w:World) (hk:k < n) (hm:k < m)
  (h1:w.cell? ⟨bx,0,none⟩ = some (.slice (some ⟨b1,o1,none⟩) n c)) (h2:w.cell? ⟨by',0,none⟩ = some (.slice (some ⟨b2,o2,none⟩) m d))
  (h3:w.cell? ⟨b1,o1+k,none⟩ = some (.int .u64 (x:Nat))) (h4:w.cell? ⟨b2,o2+k,none⟩ = some (.int .u64 (y:Nat)))
  (C1:∀ w',Below w.heap.size w w'→Calls Tryz.prog 176 #[.int .u64 x,.int .u64 y] w' fun r w''=>r = .returned (.int .u64 (p:Nat))∧Below w'.heap.size w' w'')
  (C2:∀ w',Below w.heap.size w w'→Calls Tryz.prog 188 #[.int .u64 s,.int .u64 p] w' fun r w''=>r = .returned (.int .u64 (o:Nat))∧Below w'.heap.size w' w'') :
  Calls Tryz.prog 187 #[.int .u64 s,.int .i64 k,.pointer (some ⟨bx,0,none⟩),.pointer (some ⟨by',0,none⟩)] w fun e w'=>e = .returned (.int .u64 (o:Nat))∧Below w.heap.size w w':=by
 have K1:=hide C1;have K2:=hide C2
 have hkI:(k:Int) < (n:Int):=by omega
 have hkJ:(k:Int) < (m:Int):=by omega
 have HK:=hide (fun w' (h:Below w.heap.size w w')=>(show Below w.heap.size w w'∧w'.cell? ⟨bx,0,none⟩ = some (.slice (some ⟨b1,o1,none⟩) n c)∧w'.cell? ⟨by',0,none⟩ = some (.slice (some ⟨b2,o2,none⟩) m d)∧w'.cell? ⟨b1,o1+k,none⟩ = some (.int .u64 (x:Nat))∧w'.cell? ⟨b2,o2+k,none⟩ = some (.int .u64 (y:Nat)) from
  ⟨h,cell_keep h1 h,cell_keep h2 h,cell_keep h3 h,cell_keep h4 h⟩))
 clear C1 C2 h1 h2 h3 h4
 go_enter Tryz.func187,Tryz.ntmps187
 go_wp2_with fail
 go_region_held3 (fun w'=>Below w.heap.size w w'∧w'.cell? ⟨bx,0,none⟩ = some (.slice (some ⟨b1,o1,none⟩) n c)∧w'.cell? ⟨by',0,none⟩ = some (.slice (some ⟨b2,o2,none⟩) m d)∧w'.cell? ⟨b1,o1+k,none⟩ = some (.int .u64 (x:Nat))∧w'.cell? ⟨b2,o2+k,none⟩ = some (.int .u64 (y:Nat)))
  (first | exact uH HK _ (Below.refl _ _).drew | exact uH HK _ (by assumption) | fail "KK")
  (first | (go_at_call 176;refine (uH K1 _ (And.left (by assumption))).mono ?_;rintro e w1 ⟨rfl,hb1⟩;have hB1:Below w.heap.size w w1:=Below.trans (And.left (by assumption)) (hb1.mono (Below.size (And.left (by assumption))));clear hb1) | (go_at_call 188;refine (uH K2 _ (And.left (by assumption))).mono ?_;rintro e w2 ⟨rfl,hb2⟩;have hB2:Below w.heap.size w w2:=Below.trans (And.left (by assumption)) (hb2.mono (Below.size (And.left (by assumption))));clear hb2) | fail "NO ARM")
 go_wp2
 go_ret
 exact ⟨rfl,And.left (by assumption)⟩
theorem norm1_of (x o k n c bx bk:Nat) (j:Int) (b1 o1:Nat) (w:World) (hk:k < n) (hj:-5000≤j∧j≤5000)
  (h1:w.cell? ⟨bx,0,none⟩ = some (.slice (some ⟨b1,o1,none⟩) n c)) (h5:w.cell? ⟨bk,0,none⟩ = some (.int .i64 j))
  (h3:w.cell? ⟨b1,o1+k,none⟩ = some (.int .u64 (x:Nat)))
  (C1:∀ w',Below w.heap.size w w'→Calls Tryz.prog 45 #[.int .u64 x,.int .i64 (-j)] w' fun r w''=>r = .returned (.int .u64 (o:Nat))∧Below w'.heap.size w' w'') :
  Calls Tryz.prog 168 #[.int .i64 k,.pointer (some ⟨bx,0,none⟩),.pointer (some ⟨bk,0,none⟩)] w fun e w'=>e = .returned (.int .u64 (o:Nat))∧Below w.heap.size w w':=by
 have K1:=hide C1
 have hkI:(k:Int) < (n:Int):=by omega
 have hw:IntKind.i64.wrap (-j) = -j:=by simp only [IntKind.wrap_i64];omega
 have HK:=hide (fun w' (h:Below w.heap.size w w')=>(show Below w.heap.size w w'∧w'.cell? ⟨bx,0,none⟩ = some (.slice (some ⟨b1,o1,none⟩) n c)∧w'.cell? ⟨b1,o1+k,none⟩ = some (.int .u64 (x:Nat))∧w'.cell? ⟨bk,0,none⟩ = some (.int .i64 j) from
  ⟨h,cell_keep h1 h,cell_keep h3 h,cell_keep h5 h⟩))
 clear C1 h1 h3 h5
 go_enter Tryz.func168,Tryz.ntmps168
 go_wp2_with fail
 go_region_held3 (fun w'=>Below w.heap.size w w'∧w'.cell? ⟨bx,0,none⟩ = some (.slice (some ⟨b1,o1,none⟩) n c)∧w'.cell? ⟨b1,o1+k,none⟩ = some (.int .u64 (x:Nat))∧w'.cell? ⟨bk,0,none⟩ = some (.int .i64 j))
  (first | exact uH HK _ (Below.refl _ _).drew | exact uH HK _ (by assumption) | fail "KK")
  (first | (go_at_call 45;refine (uH K1 _ (And.left (by assumption))).mono ?_;rintro e w1 ⟨rfl,hb1⟩;have hB1:Below w.heap.size w w1:=Below.trans (And.left (by assumption)) (hb1.mono (Below.size (And.left (by assumption))));clear hb1) | fail "NO ARM")
 go_wp2
 go_ret
 exact ⟨rfl,And.left (by assumption)⟩
theorem biggest1_of (m x r o k n c bx:Nat) (b1 o1:Nat) (w:World) (hk:k < n)
  (h1:w.cell? ⟨bx,0,none⟩ = some (.slice (some ⟨b1,o1,none⟩) n c))
  (h3:w.cell? ⟨b1,o1+k,none⟩ = some (.int .u64 (x:Nat)))
  (C1:∀ w',Below w.heap.size w w'→Calls Tryz.prog 90 #[.int .u64 x] w' fun e w''=>e = .returned (.int .u64 (r:Nat))∧Below w'.heap.size w' w'')
  (C2:∀ w',Below w.heap.size w w'→Calls Tryz.prog 166 #[.int .u64 m,.int .u64 r] w' fun e w''=>e = .returned (.int .u64 (o:Nat))∧Below w'.heap.size w' w'') :
  Calls Tryz.prog 165 #[.int .u64 m,.int .i64 k,.pointer (some ⟨bx,0,none⟩)] w fun e w'=>e = .returned (.int .u64 (o:Nat))∧Below w.heap.size w w':=by
 have K1:=hide C1;have K2:=hide C2
 have hkI:(k:Int) < (n:Int):=by omega
 clear C1 C2
 go_enter Tryz.func165,Tryz.ntmps165
 go_wp2_with fail
 refine (uH K1 _ (Below.refl _ _)).mono ?_
 rintro e w1 ⟨rfl,hb1⟩
 have B1:=hide hb1
 clear K1 hb1
 go_wp2_with fail
 refine (uH K2 _ (uH B1)).mono ?_
 rintro e w2 ⟨rfl,hb2⟩
 clear K2
 go_wp2
 go_ret
 exact ⟨rfl,(uH B1).trans (hb2.mono (uH B1).size)⟩
theorem finite1_of (q r:Bool) (x k n c bx:Nat) (b1 o1:Nat) (w:World) (hk:k < n)
  (h1:w.cell? ⟨bx,0,none⟩ = some (.slice (some ⟨b1,o1,none⟩) n c))
  (h3:w.cell? ⟨b1,o1+k,none⟩ = some (.int .u64 (x:Nat)))
  (C1:∀ w',Below w.heap.size w w'→Calls Tryz.prog 68 #[.int .u64 x] w' fun e w''=>e = .returned (.bool r)∧Below w'.heap.size w' w'') :
  Calls Tryz.prog 78 #[.bool q,.int .i64 k,.pointer (some ⟨bx,0,none⟩)] w fun e w'=>e = .returned (.bool (q && r))∧Below w.heap.size w w':=by
 have K1:=hide C1
 have hkI:(k:Int) < (n:Int):=by omega
 clear C1
 cases q
 ·go_enter Tryz.func78,Tryz.ntmps78
  go_wp2
  go_ret
  exact ⟨rfl,Below.refl _ _⟩
 ·go_enter Tryz.func78,Tryz.ntmps78
  go_wp2_with fail
  refine (uH K1 _ (Below.refl _ _)).mono ?_
  rintro e w1 ⟨rfl,hb1⟩
  clear K1
  go_wp2
  go_ret
  exact ⟨rfl,hb1⟩
end Go.Proofs.YtnnfjeieennffaaGreatDoor
