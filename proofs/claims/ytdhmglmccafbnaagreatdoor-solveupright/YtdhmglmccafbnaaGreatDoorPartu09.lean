/- Part 9 of the texts. -/
import Derived.Test.YtdhmglmccafbnaaGreatDoorPartu08
set_option maxHeartbeats 4000000
set_option maxRecDepth 20000
namespace Go.Proofs.YtdhmglmccafbnaaGreatDoor
open Go.RowKit
theorem wrap_small (x:Int) (h:-9000000000000000000≤x∧x≤9000000000000000000):IntKind.i64.wrap x = x:=by
 simp only [IntKind.wrap,IntKind.signed,IntKind.bits]
 simp
 omega
theorem val_mod2 (L:List Nat):val L % 2 = L[0]?.getD 0 % 2:=by
 cases L with
 | nil=>rfl
 | cons x r=>simp [val];omega
theorem odd_any (neg:Bool) (ao:Option Addr) (cap:Nat) (L:List Nat) (w:World) (h:LimbsAt w ao cap L) :
  Calls Tryz.prog 102 #[.agg #[.bool neg,.slice ao L.length cap]] w fun e w'=>e = .returned (.bool (decide (val L % 2 = 1)))∧Below w.heap.size w w':=by
 by_cases h0:L = []
 ·subst h0
  go_enter Tryz.func102,Tryz.ntmps102
  go_wp2
  go_ret
  exact ⟨rfl,(Below.refl _ _).alloc (Nat.le_refl _) _⟩
 obtain ⟨b,off,rfl,hb,hc⟩:=h.ne (List.length_pos_iff.2 h0)
 have hp:0 < L.length:=List.length_pos_iff.2 h0
 have hpI:(0:Int) < (L.length:Int):=by omega
 have hc1:=hc 0 hp
 have hx:=h.lt 0
 have hcap:=h.1
 rw [val_mod2]
 generalize L[0]?.getD 0 = x at *
 clear hc h h0
 rw [Nat.add_zero] at hc1
 generalize hn:L.length = n at *
 clear hn
 by_cases hx1:x % 2 = 1
 ·have e1:(((x:Int) % 2) == 1) = true:=by rw [beq_iff_eq];omega
  have HD:=hide (decide_eq_true hx1)
  clear hx1
  go_enter Tryz.func102,Tryz.ntmps102
  go_wp2
  go_ret
  exact ⟨ret_bool (uH HD).symm,(Below.refl _ _).alloc (Nat.le_refl _) _⟩
 ·have e1:(((x:Int) % 2) == 1) = false:=by rw [beq_eq_false_iff_ne];omega
  have HD:=hide (decide_eq_false hx1)
  clear hx1
  go_enter Tryz.func102,Tryz.ntmps102
  go_wp2
  go_ret
  exact ⟨ret_bool (uH HD).symm,(Below.refl _ _).alloc (Nat.le_refl _) _⟩
theorem dtop_any (neg:Bool) (ao:Option Addr) (cap:Nat) (L:List Nat) (e:Int) (w:World) (h:LimbsAt w ao cap L) (hl:L.length≤35184372088830) :
  Calls Tryz.prog 208 #[.agg #[.bool neg,.slice ao L.length cap,.int .i64 e]] w fun r w'=>r = .returned (.int .i64 (IntKind.i64.wrap (lenL L+e)))∧Below w.heap.size w w':=by
 have HR:=hide (fun w' h'=>len_any neg ao cap L w' h' hl)
 generalize lenL L = n at *
 have hb0:Below w.heap.size w (w.alloc (.cells #[.bool neg,.slice ao L.length cap,.int .i64 e] 41)):=(Below.refl _ _).alloc (Nat.le_refl _) _
 have x0:=Box3.new w (.bool neg) (.slice ao L.length cap) (.int .i64 e)
 have X0:=hide x0;have B0:=hide hb0
 clear x0 hb0
 go_enter Tryz.func208,Tryz.ntmps208
 go_wp2
 refine at_world (fun W=>Below w.heap.size w W∧Box3 W w.heap.size (.bool neg) (.slice ao L.length cap) (.int .i64 e)) ⟨uH B0,uH X0⟩ ?_
 rintro W0 ⟨b0,x0⟩
 have hK:∀ w',Below W0.heap.size W0 w'→Below W0.heap.size W0 w'∧w'.cell? ⟨w.heap.size,0,none⟩ = some (.bool neg)∧w'.cell? ⟨w.heap.size,1,none⟩ = some (.slice ao L.length cap)∧w'.cell? ⟨w.heap.size,2,none⟩ = some (.int .i64 e):=fun w' h =>
  ⟨h,(x0.all h).c0,(x0.all h).c1,(x0.all h).c2⟩
 have HK:=hide hK
 have HA:=hide (h.below b0);have BB:=hide b0
 clear hK x0 b0 h X0 B0
 go_region_held3 (fun w'=>Below W0.heap.size W0 w'∧w'.cell? ⟨w.heap.size,0,none⟩ = some (.bool neg)∧w'.cell? ⟨w.heap.size,1,none⟩ = some (.slice ao L.length cap)∧w'.cell? ⟨w.heap.size,2,none⟩ = some (.int .i64 e))
  (first | exact uH HK _ (Below.refl _ _).drew | exact uH HK _ (by assumption))
  (first | (go_at_call 238;refine (uH HR _ ((uH HA).below (And.left (by assumption)))).mono ?_;rintro e w1 ⟨rfl,hb1⟩;have hB1:Below W0.heap.size W0 w1:=Below.trans (And.left (by assumption)) (hb1.mono (Below.size (And.left (by assumption))));clear hb1))
 go_wp2
 go_ret
 exact ⟨rfl,(uH BB).trans (Below.mono (And.left (by assumption)) (uH BB).size)⟩
def topR (L:List Nat) (e:Int):Int:=if L.length = 0 then 0 else lenL L+e
theorem rtop_any (neg:Bool) (ao:Option Addr) (cap:Nat) (L:List Nat) (e:Int) (w:World) (h:LimbsAt w ao cap L) (hl:L.length≤1073741824) (he:-100000≤e∧e≤100000) :
  Calls Tryz.prog 105 #[.agg #[.bool neg,.slice ao L.length cap,.int .i64 e]] w fun r w'=>r = .returned (.int .i64 (topR L e))∧Below w.heap.size w w':=by
 have HR:=hide (fun w' h'=>refLen_any neg ao cap L w' h' (by omega))
 have hn:L.length ≠ 0→0≤lenL L∧lenL L≤40000000000:=fun h0=>by
  unfold lenL
  rw [if_neg h0]
  have:=bitLen_le (L[L.length - 1]?.getD 0)
  omega
 have HT:=hide (show (L.length = 0→topR L e = 0)∧(L.length ≠ 0→topR L e = lenL L+e) by unfold topR;constructor <;> intro h <;> simp [h])
 generalize topR L e = t at *
 generalize lenL L = n at *
 have hb0:Below w.heap.size w (w.alloc (.cells #[.bool neg,.slice ao L.length cap,.int .i64 e] 41)):=(Below.refl _ _).alloc (Nat.le_refl _) _
 have x0:=Box3.new w (.bool neg) (.slice ao L.length cap) (.int .i64 e)
 have X0:=hide x0;have B0:=hide hb0
 clear x0 hb0
 by_cases h0:L.length = 0
 ·have ht:=(uH HT).1 h0
  subst ht
  have h0':((L.length:Int) == 0) = true:=by rw [beq_iff_eq];omega
  clear HT hn HR h0
  go_enter Tryz.func105,Tryz.ntmps105
  go_wp2
  go_ret
  exact ⟨rfl,uH B0⟩
 have ht:=(uH HT).2 h0
 subst ht
 obtain ⟨hn0,hn1⟩:=hn h0
 have h0':((L.length:Int) == 0) = false:=by rw [beq_eq_false_iff_ne];omega
 clear HT hn h0
 go_enter Tryz.func105,Tryz.ntmps105
 go_wp2
 refine at_world (fun W=>Below w.heap.size w W∧Box3 W w.heap.size (.bool neg) (.slice ao L.length cap) (.int .i64 e)) ⟨uH B0,uH X0⟩ ?_
 rintro W0 ⟨b0,x0⟩
 have hK:∀ w',Below W0.heap.size W0 w'→Below W0.heap.size W0 w'∧w'.cell? ⟨w.heap.size,0,none⟩ = some (.bool neg)∧w'.cell? ⟨w.heap.size,1,none⟩ = some (.slice ao L.length cap)∧w'.cell? ⟨w.heap.size,2,none⟩ = some (.int .i64 e):=fun w' h =>
  ⟨h,(x0.all h).c0,(x0.all h).c1,(x0.all h).c2⟩
 have HK:=hide hK
 have HA:=hide (h.below b0);have BB:=hide b0
 clear hK x0 b0 h X0 B0
 go_region_held3 (fun w'=>Below W0.heap.size W0 w'∧w'.cell? ⟨w.heap.size,0,none⟩ = some (.bool neg)∧w'.cell? ⟨w.heap.size,1,none⟩ = some (.slice ao L.length cap)∧w'.cell? ⟨w.heap.size,2,none⟩ = some (.int .i64 e))
  (first | exact uH HK _ (Below.refl _ _).drew | exact uH HK _ (by assumption))
  (first | (go_at_call 170;refine (uH HR _ ((uH HA).below (And.left (by assumption)))).mono ?_;rintro e w1 ⟨rfl,hb1⟩;have hB1:Below W0.heap.size W0 w1:=Below.trans (And.left (by assumption)) (hb1.mono (Below.size (And.left (by assumption))));clear hb1))
 go_wp2
 go_ret
 exact ⟨ret_int (wrap_small _ (by omega)),(uH BB).trans (Below.mono (And.left (by assumption)) (uH BB).size)⟩
def rsgn (neg:Bool) (n:Nat):Int:=if neg then -1 else if n = 0 then 0 else 1
theorem rsign_any (neg:Bool) (ao:Option Addr) (cap:Nat) (n:Nat) (e:Int) (w:World) :
  Calls Tryz.prog 104 #[.agg #[.bool neg,.slice ao n cap,.int .i64 e]] w fun r w'=>r = .returned (.int .i64 (rsgn neg n))∧Below w.heap.size w w':=by
 have HS:=hide (show rsgn neg n = if neg then -1 else if n = 0 then 0 else 1 from rfl)
 generalize rsgn neg n = s at *
 have hb0:Below w.heap.size w (w.alloc (.cells #[.bool neg,.slice ao n cap,.int .i64 e] 41)):=(Below.refl _ _).alloc (Nat.le_refl _) _
 have B0:=hide hb0
 clear hb0
 cases neg
 ·rcases (show n = 0 ∨ n = 1 ∨ 2≤n by omega) with rfl | rfl | h
  ·have hs:s = 0:=by rw [uH HS];rfl
   subst hs
   clear HS
   go_enter Tryz.func104,Tryz.ntmps104
   go_wp2
   go_ret
   exact ⟨rfl,uH B0⟩
  ·have hs:s = 1:=by rw [uH HS];rfl
   subst hs
   clear HS
   go_enter Tryz.func104,Tryz.ntmps104
   go_wp2
   go_ret
   exact ⟨rfl,uH B0⟩
  ·have hs:s = 1:=by rw [uH HS,if_neg (by decide),if_neg (by omega)]
   subst hs
   have h':(1:Int) < (n:Int):=by omega
   clear HS
   go_enter Tryz.func104,Tryz.ntmps104
   go_wp2
   go_ret
   exact ⟨rfl,uH B0⟩
 ·have hs:s = -1:=by rw [uH HS];rfl
  subst hs
  clear HS
  go_enter Tryz.func104,Tryz.ntmps104
  go_wp2
  go_ret
  exact ⟨rfl,uH B0⟩
end Go.Proofs.YtdhmglmccafbnaaGreatDoor
namespace Go.Proofs.YtdhmglmccafbnaaGreatDoor
open Go.RowKit
attribute [local go_sem ↓] Go.wp_at_zero Go.wp_at_succ
theorem wrap_add (x k:Int):IntKind.i64.wrap (IntKind.i64.wrap x+k) = IntKind.i64.wrap (x+k):=by
 simp only [IntKind.wrap,IntKind.signed,IntKind.bits]
 simp
 split <;> split <;> split <;> omega
theorem wrap64_is (x:Int):wrap64 x = IntKind.i64.wrap x:=by
 simp only [IntKind.wrap,IntKind.signed,IntKind.bits,wrap64]
 simp
 split <;> omega
theorem wrap_in (x:Int) (h:-9223372036854775808≤x∧x≤9223372036854775807):IntKind.i64.wrap x = x:=by
 simp only [IntKind.wrap,IntKind.signed,IntKind.bits]
 simp
 omega
theorem wrap_back64 (x e:Int) (j:Nat) (hj:j < 18446744073709551616) (h:x = IntKind.i64.wrap (e+j)):((x - e) % 18446744073709551616).toNat = j:=by
 subst h
 simp only [IntKind.wrap,IntKind.signed,IntKind.bits]
 simp
 split <;> omega
theorem sg_abs (x:Int):sg (decide (x < 0)) x.natAbs = x:=by
 unfold sg
 by_cases h:x < 0
 ·rw [decide_eq_true h];simp;omega
 ·rw [decide_eq_false h];simp;omega
def OfI (w wr:World) (z:Int) (j:Nat) (nn:Bool) (a:Option Addr) (c:Nat) (L:List Nat):Prop :=
 Box2 wr w.heap.size (.bool nn) (.slice a L.length c)∧Box3 wr (w.heap.size+1) (.bool false) (.slice none 0 0) (.int .i64 0)∧LimbsAt wr a c L∧Canon L∧L ≠ []∧L.length≤30000∧sg nn (val L) * 2 ^ j = z∧Below w.heap.size w wr
theorem OfI.step {w w2:World} {z x:Int} {nn n0 n':Bool} {a0 a':Option Addr} {l0 c0 c' v M B j:Nat} {L':List Nat}
  (hb:Box2 w2 w.heap.size (.bool n0) (.slice a0 l0 c0)) (hr:Box3 w2 (w.heap.size+1) (.bool false) (.slice none 0 0) (.int .i64 0))
  (i:LimbsAt w2 a' c' L'∧NewAt B a' L'∧Canon L'∧n' = decide (x < 0)∧val L' = x.natAbs∧L'.length≤M) (hx:x = sg nn v) (hv:v ≠ 0) (hz:sg nn v * 2 ^ j = z) (hl:M≤30000) (hbel:Below w.heap.size w w2) :
  OfI w ((w2.setCell ⟨w.heap.size,0,none⟩ (.bool n')).setCell ⟨w.heap.size,1,none⟩ (.slice a' L'.length c')) z j n' a' c' L':=by
 obtain ⟨i1,i2,i3,i4,i5,i6⟩:=i
 have hs:sg n' (val L') = x:=by rw [i4,i5,sg_abs]
 refine ⟨hb.put _ _,(hr.other (by simp) _).other (by simp) _,i1.box hb _ _,i3,?_,by omega,?_,(hbel.setCell (by simp) _).setCell (by simp) _⟩
 ·rintro rfl
  simp [val] at i5
  have:x.natAbs = v:=by rw [hx,natAbs_sg]
  omega
 ·rw [hs,hx];exact hz
theorem OfI.tzs {w wr:World} {z:Int} {j:Nat} {nn:Bool} {a:Option Addr} {c:Nat} {L:List Nat} (h:OfI w wr z j nn a c L):val L ≠ 0∧tz z.natAbs = j+tz (val L):=by
 obtain ⟨h1,h2,h3,h4,h5,h6,h7,h8⟩:=h
 have hv:val L ≠ 0:=fun e=>h5 ((val_zero_of_canon L h4).1 e)
 refine ⟨hv,?_⟩
 rw [← tz_mul (val L) j (by omega),← h7,Int.natAbs_mul,natAbs_sg,Int.natAbs_pow,Nat.mul_comm]
 rfl
theorem OfI.last {w wr:World} {z:Int} {j:Nat} {nn:Bool} {a:Option Addr} {c:Nat} {L:List Nat} (h:OfI w wr z j nn a c L) (ho:val L % 2 = 1):IsNum 0 wr (.agg #[.bool nn,.slice a L.length c]) (oM z)∧j = tz z.natAbs:=by
 obtain ⟨h1,h2,h3,h4,h5,h6,h7,h8⟩:=h
 have hO:OddOf z (sg nn (val L)) j:=⟨h7.symm,by unfold sg;cases nn <;> simp <;> omega⟩
 obtain ⟨e1,e2,e3⟩:=hO.eq
 rw [← e2,← sval_sg]
 exact ⟨IsNum.mk h3 (NewAt.zero h3) h4 h5 (by omega),e3⟩
theorem val_mod32 (L:List Nat) (hf:Fits L):val L % 4294967296 = L[0]?.getD 0:=by
 cases L with
 | nil=>rfl
 | cons x r =>
  have:=hf x (by simp)
  simp [val]
  omega
theorem OfI.down {w wr:World} {z:Int} {j:Nat} {nn:Bool} {a:Option Addr} {c:Nat} {L:List Nat} (h:OfI w wr z j nn a c L) (k:Nat) (hk:val L % 2 ^ k = 0):val L / 2 ^ k ≠ 0∧sg nn (val L / 2 ^ k) * 2 ^ (j+k) = z∧j+k≤tz z.natAbs:=by
 obtain ⟨hv,ht⟩:=h.tzs
 obtain ⟨h1,h2,h3,h4,h5,h6,h7,h8⟩:=h
 have hd:val L = 2 ^ k * (val L / 2 ^ k):=by have:=Nat.div_add_mod (val L) (2 ^ k);omega
 have hq:val L / 2 ^ k ≠ 0:=fun e=>hv (by rw [hd,e];simp)
 refine ⟨hq,?_,?_⟩
 ·rw [← h7]
  conv=>rhs;rw [hd]
  generalize val L / 2 ^ k = q
  have e:sg nn (2 ^ k * q) = sg nn q * 2 ^ k:=by
   unfold sg
   cases nn
   ·simp only [Bool.false_eq_true,if_false];push_cast;rw [Int.mul_comm]
   ·simp only [if_true];push_cast;rw [Int.neg_mul,Int.mul_comm]
  rw [e,Nat.add_comm,Int.pow_add,Int.mul_assoc]
 ·rw [ht]
  have e:tz (val L) = k+tz (val L / 2 ^ k):=by
   conv=>lhs;rw [hd]
   exact tz_mul _ _ (Nat.pos_of_ne_zero hq)
  omega
theorem rof_some (na:Bool) (ao:Option Addr) (ca:Nat) (A:List Nat) (e:Int) (w:World) (hA:LimbsAt w ao ca A) (h0:A ≠ []) (hc:Canon A) (la:A.length≤20000) (be:-9223372036854775808≤e∧e≤9223372036854775807) :
  Calls Tryz.prog 45 #[.agg #[.bool na,.slice ao A.length ca],.int .i64 e] w fun r w'=>∃ v,r = .returned v∧IsDy w' v (oM (sval na A)) (IntKind.i64.wrap (e+tz (sval na A).natAbs))∧Below w.heap.size w w':=by
 obtain ⟨i0,hi,hz0,hz1,hz2⟩:=info_parts Tryz.info122
 have HZ:=hide (sval_sg na A).symm
 have hT:tz (sval na A).natAbs < 18446744073709551616:=by
  rw [natAbs_sval]
  have hv:val A ≠ 0:=fun e=>h0 ((val_zero_of_canon A hc).1 e)
  have h1:=val_lt A hA.2.1
  rw [show (4294967296:Nat) = 2 ^ 32 by decide,← Nat.pow_mul] at h1
  have:=tz_lt (val A) _ (by omega) h1
  omega
 generalize sval na A = z at *
 obtain ⟨T,hTe⟩:∃ T,T = tz z.natAbs:=⟨_,rfl⟩
 have HTE:=hide hTe
 rw [← hTe] at hT ⊢
 have HM:=hide (show oM z = oM z from rfl)
 have HH0:=hide h0;have HC:=hide hc
 clear h0 hc hTe
 have hp:0 < A.length:=List.length_pos_iff.2 (uH HH0)
 have hpI:((A.length:Int) == 0) = false:=by rw [beq_eq_false_iff_ne];omega
 go_enter Tryz.func45,Tryz.ntmps45
 go_wp2
 clear HM
 go_loopw [1] (fun i wr=>∃ (x:Int) (j:Nat) (nn:Bool) (a:Option Addr) (c:Nat) (L:List Nat),i = .int .i64 x∧j≤T∧Hid (x = IntKind.i64.wrap (e+j))∧Hid (OfI w wr z j nn a c L)) (fun i _=>T - ((intOf i - e) % 18446744073709551616).toNat)
 case atStart =>
  refine ⟨e,0,na,ao,ca,A,rfl,Nat.zero_le _,?_,(Box2.new _ _ _).old _,?_,hA.below (((Below.refl _ _).alloc (Nat.le_refl _) _).alloc (by simp) _),uH HC,uH HH0,by omega,by rw [uH HZ];simp,((Below.refl _ _).alloc (Nat.le_refl _) _).alloc (by simp) _⟩
  ·unfold Hid;rw [wrap_in _ (by omega)];omega
  ·have:=Box3.new (w.alloc (.cells #[.bool na,.slice ao A.length ca] 39)) (.bool false) (.slice none 0 0) (.int .i64 0)
   simpa using this
 case round =>
  obtain ⟨x,j,nn,a,c,L,rfl,hj,hx,hI⟩:=hrel
  clear HZ HC HH0 hA la hp hpI
  obtain ⟨x0,x1,hL,hC,hS,hlen,hz,hbel⟩:=uH hI
  have hp:0 < L.length:=List.length_pos_iff.2 hS
  have hpI:(0:Int) < (L.length:Int):=by omega
  have p0:=x0.c0;have p1:=x0.c1
  have hcap:=hL.1
  obtain ⟨b,off,rfl,hb,hcl⟩:=hL.ne hp
  have hc0:=hcl 0 hp
  rw [Nat.add_zero] at hc0
  have hm32:=val_mod32 L hL.2.1
  have hlt:=hL.lt 0
  by_cases hg:L[0]?.getD 0 = 0
  ·rw [hg] at hc0 hm32
   obtain ⟨d1,d2,d3⟩:=(uH hI).down 32 hm32
   rw [← uH HTE] at d3
   have HD1:=hide d1;have HD2:=hide d2
   have BEL:=hide hbel;have X0:=hide x0;have X1:=hide x1;have HLEN:=hide hlen;have HLL:=hide (hL.below ((Below.refl _ _).drew))
   clear hz x0 x1 hL hC hS hbel hI hlen hcl hm32 hg d1 d2 hlt
   go_wp2
   have h1I:(1:Int)≤(L.length:Int):=by omega
   have h2I:(L.length:Int)≤(c:Int):=by omega
   have h3I:(1:Int)≤(c:Int):=by omega
   by_cases hc1:c = 1
   ·subst hc1
    go_region_with (go_at_call 101;refine (made_drop1 nn b off L _ (uH HLL)).mono ?_;rintro e w2 ⟨v,rfl,⟨n2,a2,c2,L2,rfl,i1⟩,hb2⟩;have I1:=hide i1;have Z0:=(uH X0).drew.below hb2 (uH X0).drew.lt;have Z1:=(uH X1).drew.below hb2 (uH X1).drew.lt;have r0:=Z0.c0;have r1:=Z0.c1;have f0:=Z0.free 0;have f1:=Z0.free 1;have B2:=hide (((uH BEL).drew).trans (hb2.mono ((uH BEL).drew).size));have ZZ0:=hide Z0;have ZZ1:=hide Z1;clear i1 hb2 Z0 Z1)
    all_goals
     go_wp2
     go_roundw
     case rel=>exact ⟨_,j+32,n2,a2,c2,L2,rfl,d3,hide (by rw [wrap64_is,uH hx,wrap_add];congr 1;omega),OfI.step (v:=val L / 4294967296) (uH ZZ0) (uH ZZ1) (uH I1) rfl (uH HD1) (uH HD2) (by have:=uH HLEN;omega) (uH B2)⟩
     case measure=>rw [wrap64_is,uH hx,wrap_add];simp only [intOf];rw [wrap_back64 _ e j (by omega) rfl,wrap_back64 _ e (j+32) (by omega) (by congr 1;omega)];omega
   ·have hc1I:¬ (c:Int) = 1:=by omega
    go_region_with (go_at_call 101;refine (made_drop nn b off c L _ (uH HLL) (by have:=uH HLEN;omega)).mono ?_;rintro e w2 ⟨v,rfl,⟨n2,a2,c2,L2,rfl,i1⟩,hb2⟩;have I1:=hide i1;have Z0:=(uH X0).drew.below hb2 (uH X0).drew.lt;have Z1:=(uH X1).drew.below hb2 (uH X1).drew.lt;have r0:=Z0.c0;have r1:=Z0.c1;have f0:=Z0.free 0;have f1:=Z0.free 1;have B2:=hide (((uH BEL).drew).trans (hb2.mono ((uH BEL).drew).size));have ZZ0:=hide Z0;have ZZ1:=hide Z1;clear i1 hb2 Z0 Z1)
    all_goals
     go_wp2
     go_roundw
     case rel=>exact ⟨_,j+32,n2,a2,c2,L2,rfl,d3,hide (by rw [wrap64_is,uH hx,wrap_add];congr 1;omega),OfI.step (v:=val L / 4294967296) (uH ZZ0) (uH ZZ1) (uH I1) rfl (uH HD1) (uH HD2) (by have:=uH HLEN;omega) (uH B2)⟩
     case measure=>rw [wrap64_is,uH hx,wrap_add];simp only [intOf];rw [wrap_back64 _ e j (by omega) rfl,wrap_back64 _ e (j+32) (by omega) (by congr 1;omega)];omega
  ·have hne:(((L[0]?.getD 0:Nat):Int) == 0) = false:=by rw [beq_eq_false_iff_ne];omega
   generalize L[0]?.getD 0 = y at *
   have HI:=hI
   clear hI x0 x1 hL hC hS hlen hz hbel hcl hm32 hg
   go_wp2
   go_loopw [1] (fun i wr=>∃ (x:Int) (j:Nat) (nn:Bool) (a:Option Addr) (c:Nat) (L:List Nat),i = .int .i64 x∧j≤T∧Hid (x = IntKind.i64.wrap (e+j))∧Hid (OfI w wr z j nn a c L)) (fun i _=>T - ((intOf i - e) % 18446744073709551616).toNat)
   case atStart=>exact ⟨x,j,nn,_,c,L,rfl,hj,hx,HI⟩
   case round =>
    clear HI p0 p1 hpI hp hne hc0 hj hx hb hcap
    obtain ⟨x,j,nn,a,c,L,rfl,hj,hx,hI⟩:=hrel
    obtain ⟨x0,x1,hL,hC,hS,hlen,hz,hbel⟩:=uH hI
    have p0:=x0.c0;have p1:=x0.c1
    have X0:=hide x0;have X1:=hide x1;have BEL:=hide hbel;have HLEN:=hide hlen;have HLL:=hide hL
    clear x0 x1 hL hC hS hlen hz hbel
    go_wp2_with fail
    refine (odd_any nn a c L wr (uH HLL)).mono ?_
    by_cases ho:val L % 2 = 1
    ·rw [decide_eq_true ho]
     rintro r w3 ⟨rfl,hb1⟩
     obtain ⟨l1,l2⟩:=(uH hI).last ho
     have L1:=hide (l1.below hb1);have L2:=hide l2
     have x0:=(uH X0).all hb1;have x1:=(uH X1).all hb1
     have b1:=(uH BEL).trans (hb1.mono (uH BEL).size)
     clear hI l1 l2 hb1 ho p0 p1 X0 X1 BEL HLL
     have p0:=x0.c0;have p1:=x0.c1
     have y0:=x1.c0;have y1:=x1.c1;have y2:=x1.c2;have f0:=x1.free 0;have f1:=x1.free 1;have f2:=x1.free 2
     have X1:=hide x1;have B1:=hide b1
     clear x0 x1 b1
     go_wp2
     have e1:IntKind.i64.wrap (e+(T:Int)) = x:=by rw [uH hx,uH HTE,← uH L2]
     rw [e1]
     have j2:IsDy w3 (.agg #[.bool nn,.slice a L.length c,.int .i64 x]) (oM z) x:=⟨nn,a,c,L,rfl,uH L1⟩
     refine bodyPost_ret (v:=.agg #[.bool nn,.slice a L.length c,.int .i64 x]) (by simp [results,Tryz.results45,go_sem,y0,y1,y2]) rfl ⟨_,rfl,j2.put3 (uH X1) _ _ _,below_put3 (uH B1) (by omega) _ _ _⟩
    ·rw [decide_eq_false ho]
     rintro r w3 ⟨rfl,hb1⟩
     obtain ⟨d1,d2,d3⟩:=(uH hI).down 1 (by simp;omega)
     rw [← uH HTE] at d3
     rw [Nat.pow_one] at d1 d2
     have HD1:=hide d1;have HD2:=hide d2
     have x0:=(uH X0).all hb1;have x1:=(uH X1).all hb1
     have b1:=(uH BEL).trans (hb1.mono (uH BEL).size)
     have hll:=(uH HLL).below hb1
     clear hI d1 d2 hb1 ho p0 p1 X0 X1 BEL HLL
     have p0:=x0.c0;have p1:=x0.c1
     have X0:=hide x0;have X1:=hide x1;have B1:=hide b1;have HLL:=hide hll
     clear x0 x1 b1 hll
     go_wp2_with fail
     refine (half_any nn a c L w3 (uH HLL) (by have:=uH HLEN;omega)).mono ?_
     rintro r w2 ⟨v,rfl,⟨n2,a2,c2,L2,rfl,i1⟩,hb2⟩
     have I1:=hide i1
     have Z0:=(uH X0).all hb2
     have Z1:=(uH X1).all hb2
     have r0:=Z0.c0;have r1:=Z0.c1;have f0:=Z0.free 0;have f1:=Z0.free 1
     have B2:=hide ((uH B1).trans (hb2.mono (uH B1).size))
     have ZZ0:=hide Z0;have ZZ1:=hide Z1
     clear i1 hb2 Z0 Z1
     go_wp2
     go_roundw
     case rel=>exact ⟨_,j+1,n2,a2,c2,L2,rfl,d3,hide (by rw [wrap64_is,uH hx,wrap_add];congr 1;omega),OfI.step (v:=val L / 2) (uH ZZ0) (uH ZZ1) (uH I1) rfl (uH HD1) (uH HD2) (by have:=uH HLEN;omega) (uH B2)⟩
     case measure=>rw [wrap64_is,uH hx,wrap_add];simp only [intOf];rw [wrap_back64 _ e j (by omega) rfl,wrap_back64 _ e (j+1) (by omega) (by congr 1;omega)];omega
theorem rof_none (na:Bool) (ao:Option Addr) (ca:Nat) (e:Int) (w:World) :
  Calls Tryz.prog 45 #[.agg #[.bool na,.slice ao 0 ca],.int .i64 e] w fun r w'=>∃ v,r = .returned v∧IsDy w' v 0 0∧Below w.heap.size w w':=by
 go_enter Tryz.func45,Tryz.ntmps45
 go_wp2
 refine bodyPost_ret (v:=.agg #[.bool false,.slice none 0 0,.int .i64 0]) (by simp [results,Tryz.results45,go_sem]) rfl ⟨_,rfl,IsDy.zero _ _ _,?_⟩
 exact ((Below.refl w.heap.size w).alloc (Nat.le_refl _) _).alloc (by simp) _
theorem rof_num {M B:Nat} {w:World} {v:Value} {z:Int} (e:Int) (hv:IsNumM M B w v z) (hM:M≤20000) (be:-9223372036854775808≤e∧e≤9223372036854775807) :
  Calls Tryz.prog 45 #[v,.int .i64 e] w fun r w'=>∃ u,r = .returned u∧IsDy w' u (oM z) (if z = 0 then 0 else IntKind.i64.wrap (e+tz z.natAbs))∧Below w.heap.size w w':=by
 obtain ⟨na,ao,ca,A,rfl,a1,a2,a3,a4,a5,a6⟩:=hv
 have hs:=sval_IsNum a4 a5
 by_cases h0:A = []
 ·subst h0
  rw [sval_nil] at hs
  subst hs
  rw [if_pos rfl,show oM 0 = 0 by simp [oM]]
  exact rof_none na ao ca e w
 ·have hz:z ≠ 0:=fun e0=>h0 ((val_zero_of_canon A a3).1 (by rw [a5,e0];rfl))
  rw [if_neg hz,← hs]
  exact rof_some na ao ca A e w a1 h0 a3 (by omega) be
theorem rof_small {M B:Nat} {w:World} {v:Value} {z:Int} (e:Int) (hv:IsNumM M B w v z) (hM:M≤20000) (be:-1000000≤e∧e≤1000000) :
  Calls Tryz.prog 45 #[v,.int .i64 e] w fun r w'=>∃ u,r = .returned u∧IsDy w' u (oM z) (oE z e)∧Below w.heap.size w w':=by
 have h1:=rof_num e hv hM (by omega)
 have:(if z = 0 then 0 else IntKind.i64.wrap (e+tz z.natAbs)) = oE z e:=by
  unfold oE
  split
  ·rfl
  ·rename_i hz
   have ht:tz z.natAbs < 32 * 20000:=by
    obtain ⟨na,ao,ca,A,rfl,a1,a2,a3,a4,a5,a6⟩:=hv
    rw [← a5]
    have hv:val A ≠ 0:=by rw [a5];omega
    have h1:=val_lt A a1.2.1
    rw [show (4294967296:Nat) = 2 ^ 32 by decide,← Nat.pow_mul] at h1
    have:=tz_lt (val A) _ (by omega) h1
    omega
   exact wrap_small _ (by omega)
 rwa [this] at h1
end Go.Proofs.YtdhmglmccafbnaaGreatDoor
namespace Go.Proofs.YtdhmglmccafbnaaGreatDoor
open Go.RowKit
attribute [local go_sem ↓] Go.wp_at_zero Go.wp_at_succ
def dRt (n y:Int):Bool:=if n = 0 then decide (y = 0) else (decide (n % 2 = 1) && decide (-16384≤y∧y≤16384))
theorem IsDy.parts {w:World} {v:Value} {m e:Int} (h:IsDy w v m e) :
  ∃ (neg:Bool) (ao:Option Addr) (cap:Nat) (L:List Nat),v = .agg #[.bool neg,.slice ao L.length cap,.int .i64 e]∧LimbsAt w ao cap L∧Canon L∧neg = decide (m < 0)∧val L = m.natAbs∧L.length≤35184372088832:=by
 obtain ⟨neg,ao,cap,L,rfl,m1,m2,m3,L1,q1,q2,q3,q4,q5,q6,q7⟩:=h
 simp only [Value.agg.injEq,Array.mk.injEq,List.cons.injEq,Value.bool.injEq,Value.slice.injEq,and_true] at q1
 obtain ⟨rfl,rfl,o3,rfl⟩:=q1
 exact ⟨neg,ao,cap,L1,by rw [o3],q2,q4,q5,q6,q7⟩
theorem mod2_natAbs (n:Int):(n.natAbs % 2 = 1) ↔ (n % 2 = 1):=by omega
theorem IsDy.right {w:World} {v:Value} {m e:Int} (h:IsDy w v m e) (hm:m.natAbs < TOP) :
  ∃ (neg:Bool) (ao:Option Addr) (cap:Nat) (L:List Nat),v = .agg #[.bool neg,.slice ao L.length cap,.int .i64 e]∧LimbsAt w ao cap L∧rightB neg L = true∧sval neg L = m∧L.length≤512∧drB neg L e = dRt m e:=by
 obtain ⟨neg,ao,cap,L,rfl,h1,h2,h3,h4,h5⟩:=h.parts
 have hN:IsNum 0 w (.agg #[.bool neg,.slice ao L.length cap]) m:=⟨neg,ao,cap,L,rfl,h1,NewAt.zero h1,h2,h3,h4,h5⟩
 have hl:L.length≤512:=(val_lt_TOP L h1.2.1 h2).1 (by omega)
 have hr:rightB neg L = true:=by
  obtain ⟨neg',ao',cap',L',e1,e2,e3,e4,e5⟩:=hN.right hm
  simp only [Value.agg.injEq,Array.mk.injEq,List.cons.injEq,Value.bool.injEq,Value.slice.injEq,and_true] at e1
  obtain ⟨rfl,rfl,o3,rfl⟩:=e1
  have:L = L':=by
   refine eq_of_canon L L' h1.2.1 e2.2.1 h2 (right_canon e3).2.1 ?_
   rw [h4,← e4,natAbs_sval]
  rw [this];exact e3
 refine ⟨neg,ao,cap,L,rfl,h1,hr,sval_IsNum h3 h4,hl,?_⟩
 unfold drB dRt
 rw [hr,Bool.true_and,h4]
 by_cases h0:L.length = 0
 ·have:m = 0:=by
   have:L = []:=List.length_eq_zero_iff.1 h0
   rw [this] at h4;simp [val] at h4;omega
  rw [if_pos h0,if_pos this]
 ·have:m ≠ 0:=fun e0=>h0 (by
   have:L = []:=(val_zero_of_canon L h2).1 (by rw [h4,e0];rfl)
   rw [this];rfl)
  rw [if_neg h0,if_neg this]
  congr 1
  rw [decide_eq_decide]
  exact mod2_natAbs m
theorem IsDy.num {w:World} {v:Value} {m e:Int} (h:IsDy w v m e) :
  ∃ (neg:Bool) (ao:Option Addr) (cap:Nat) (L:List Nat),v = .agg #[.bool neg,.slice ao L.length cap,.int .i64 e]∧IsNum 0 w (.agg #[.bool neg,.slice ao L.length cap]) m:=h
end Go.Proofs.YtdhmglmccafbnaaGreatDoor
namespace Go.Proofs.YtdhmglmccafbnaaGreatDoor
open Go.RowKit
theorem oM_le (z:Int):(oM z).natAbs≤z.natAbs:=by
 by_cases h:z = 0
 ·subst h;simp [oM]
 ·have hO:=oddOf z h
  have e1:z.natAbs = (oM z).natAbs * 2 ^ tz z.natAbs:=by
   conv=>lhs;rw [hO.1]
   rw [Int.natAbs_mul,Int.natAbs_pow]
   rfl
  rw [e1]
  exact Nat.le_mul_of_pos_right _ (Nat.pow_pos (by decide))
theorem oM_zero:oM 0 = 0:=by simp [oM]
theorem oE_zero (e:Int):oE 0 e = 0:=by simp [oE]
theorem oM_ne (z:Int) (h:z ≠ 0):oM z ≠ 0∧oM z % 2 = 1:=by
 have hO:=(oddOf z h).2
 exact ⟨fun e=>by rw [e] at hO;simp at hO,hO⟩
theorem oE_ne (z e:Int) (h:z ≠ 0):oE z e = e+tz z.natAbs:=by unfold oE;rw [if_neg h]
theorem dOk_rt (z e:Int) (he:-32768≤e∧e≤32768):dRt (oM z) (oE z e) = dOk z e:=by
 unfold dOk dRt
 rw [decide_eq_true he,Bool.true_and]
 by_cases h:z = 0
 ·subst h
  rw [oM_zero,oE_zero];simp
 ·obtain ⟨h1,h2⟩:=oM_ne z h
  rw [if_neg h1,decide_eq_true h2,oE_ne z e h,decide_eq_false h]
  simp
theorem told_make (z e:Int) (he:-32768≤e∧e≤32768) :
  (dRt (oM z) (oE z e) = true→dErr z e = 0∧dM z e = oM z∧dX z e = oE z e)∧(dRt (oM z) (oE z e) = false→dErr z e = 2∧dM z e = 0∧dX z e = 0):=by
 rw [dOk_rt z e he]
 constructor <;> intro h <;> simp [dErr,dM,dX,h]
end Go.Proofs.YtdhmglmccafbnaaGreatDoor
namespace Go.Proofs.YtdhmglmccafbnaaGreatDoor
open Go.RowKit
attribute [local go_sem ↓] Go.wp_at_zero Go.wp_at_succ
def up (s x l:Int):Int:=s * 2 ^ (x - l).toNat
theorem shV_upto (na:Bool) (A:List Nat) (n:Int) (h:0≤n):shV na A n = sval na A * 2 ^ n.toNat:=by
 rw [shV_shF,sval_sg]
 unfold shF
 rw [if_pos h]
 unfold sg
 cases na
 ·simp
 ·simp [Int.neg_mul]
def upE (s x l:Int):Int:=if (up s x l).natAbs < TOP∧x - l≤16384 then 0 else 2
def upN (s x l:Int):Int:=if (up s x l).natAbs < TOP∧x - l≤16384 then up s x l else 0
theorem shift_up (na:Bool) (A:List Nat) (x l:Int) (hr:rightB na A = true) (h:l≤x):shE na A (x - l) = upE (sval na A) x l∧shN na A (x - l) = upN (sval na A) x l:=by
 unfold shE shN shOk upE upN
 rw [hr,shV_upto na A (x - l) (by omega)]
 change (if (true && decide (-16384≤x - l∧x - l≤16384)) = true then errOf (up (sval na A) x l) else if true = true then 2 else 1) = _∧(if (true && decide (-16384≤x - l∧x - l≤16384)) = true then numOf (up (sval na A) x l) else 0) = _
 rw [Bool.true_and]
 by_cases h1:x - l≤16384
 ·rw [if_pos (decide_eq_true (show -16384≤x - l∧x - l≤16384 by omega)),if_pos (decide_eq_true (show -16384≤x - l∧x - l≤16384 by omega))]
  unfold errOf numOf
  by_cases h2:(up (sval na A) x l).natAbs < TOP
  ·rw [if_pos h2,if_pos h2,if_pos ⟨h2,h1⟩,if_pos ⟨h2,h1⟩];exact ⟨rfl,rfl⟩
  ·rw [if_neg h2,if_neg h2,if_neg (fun h=>h2 h.1),if_neg (fun h=>h2 h.1)];exact ⟨rfl,rfl⟩
 ·have hd:decide (-16384≤x - l∧x - l≤16384) = false:=decide_eq_false (by omega)
  rw [hd,if_neg (show ¬ ((up (sval na A) x l).natAbs < TOP∧x - l≤16384) from fun h=>h1 h.2),if_neg (show ¬ ((up (sval na A) x l).natAbs < TOP∧x - l≤16384) from fun h=>h1 h.2)]
  exact ⟨by simp,by simp⟩
theorem up_cases (s x l:Int):(upE s x l = 0∧upN s x l = up s x l) ∨ upE s x l = 2:=by
 unfold upE upN
 by_cases h:(up s x l).natAbs < TOP∧x - l≤16384
 ·rw [if_pos h,if_pos h];exact .inl ⟨rfl,rfl⟩
 ·rw [if_neg h];exact .inr rfl
theorem IsNum.put2 {B:Nat} {w:World} {v:Value} {x:Int} (h:IsNum B w v x) {p q:Addr} (hp:p.block < B) (hq:q.block < B) (u u':Value):IsNum B ((w.setCell p u).setCell q u') v x:=by
 obtain ⟨n,ao,cap,L,rfl,h1,h2,h3⟩:=h
 exact ⟨n,ao,cap,L,rfl,(h1.store h2 hp u).store h2 hq u',h2,h3⟩
theorem below_put2 {w w':World} {B b:Nat} (h:Below B w w') (hb:B≤b) (u u':Value):Below B w ((w'.setCell ⟨b,0,none⟩ u).setCell ⟨b,1,none⟩ u') :=
 (h.setCell hb _).setCell hb _
theorem ends_a {w:World} {b c:Nat} {x0 x1 y0 y1:Value} (h2:Box2 w b x0 x1) (h3:Box2 w c y0 y1) (hne:b ≠ c) (u0 u1 v0 v1:Value) :
  Box2 ((((((w.setCell ⟨c,0,none⟩ v0).setCell ⟨c,1,none⟩ v1).setCell ⟨b,0,none⟩ u0).setCell ⟨b,1,none⟩ u1).setCell ⟨c,0,none⟩ v0).setCell ⟨c,1,none⟩ v1) b u0 u1 ∧
  Box2 ((((((w.setCell ⟨c,0,none⟩ v0).setCell ⟨c,1,none⟩ v1).setCell ⟨b,0,none⟩ u0).setCell ⟨b,1,none⟩ u1).setCell ⟨c,0,none⟩ v0).setCell ⟨c,1,none⟩ v1) c v0 v1 :=
 ⟨((((h2.other (p:=⟨c,0,none⟩) hne v0).other (p:=⟨c,1,none⟩) hne v1).put u0 u1).other (p:=⟨c,0,none⟩) hne v0).other (p:=⟨c,1,none⟩) hne v1,
  (((h3.put v0 v1).other (p:=⟨b,0,none⟩) (Ne.symm hne) u0).other (p:=⟨b,1,none⟩) (Ne.symm hne) u1).put v0 v1⟩
theorem ends_b {w:World} {b c:Nat} {x0 x1 y0 y1:Value} (h2:Box2 w b x0 x1) (h3:Box2 w c y0 y1) (hne:b ≠ c) (u0 u1 v0 v1:Value) :
  Box2 ((((((w.setCell ⟨b,0,none⟩ u0).setCell ⟨b,1,none⟩ u1).setCell ⟨b,0,none⟩ u0).setCell ⟨b,1,none⟩ u1).setCell ⟨c,0,none⟩ v0).setCell ⟨c,1,none⟩ v1) b u0 u1 ∧
  Box2 ((((((w.setCell ⟨b,0,none⟩ u0).setCell ⟨b,1,none⟩ u1).setCell ⟨b,0,none⟩ u0).setCell ⟨b,1,none⟩ u1).setCell ⟨c,0,none⟩ v0).setCell ⟨c,1,none⟩ v1) c v0 v1 :=
 ⟨(((h2.put u0 u1).put u0 u1).other (p:=⟨c,0,none⟩) hne v0).other (p:=⟨c,1,none⟩) hne v1,
  ((((h3.other (p:=⟨b,0,none⟩) (Ne.symm hne) u0).other (p:=⟨b,1,none⟩) (Ne.symm hne) u1).other (p:=⟨b,0,none⟩) (Ne.symm hne) u0).other (p:=⟨b,1,none⟩) (Ne.symm hne) u1).put v0 v1⟩
def AlignR (w':World) (r:Ending) (ea eb za zb:Int):Prop :=
 ∃ (n1:Bool) (a1:Option Addr) (l1 c1:Nat) (n2:Bool) (a2:Option Addr) (l2 c2:Nat) (er:Int),r = .returned (.tuple #[.agg #[.bool n1,.slice a1 l1 c1],.agg #[.bool n2,.slice a2 l2 c2],.int .i64 er])∧(ea = 0→eb = 0→er = 0∧IsNum 0 w' (.agg #[.bool n1,.slice a1 l1 c1]) za∧IsNum 0 w' (.agg #[.bool n2,.slice a2 l2 c2]) zb)∧(¬ (ea = 0∧eb = 0)→er = 2)
theorem align_any (na nb:Bool) (ao bo:Option Addr) (ca cb:Nat) (A B:List Nat) (x y l:Int) (w:World) (hA:LimbsAt w ao ca A) (hB:LimbsAt w bo cb B) (ra:rightB na A = true) (rb:rightB nb B = true) (bx:-16384≤x∧x≤16384) (by':-16384≤y∧y≤16384) (hl:l = min x y) :
  Calls Tryz.prog 310 #[.agg #[.bool na,.slice ao A.length ca,.int .i64 x],.agg #[.bool nb,.slice bo B.length cb,.int .i64 y]] w fun r w'=>AlignR w' r (upE (sval na A) x l) (upE (sval nb B) y l) (up (sval na A) x l) (up (sval nb B) y l)∧Below w.heap.size w w':=by
 have la:=(right_canon ra).1
 have lb:=(right_canon rb).1
 have hxl:l≤x:=by omega
 have hyl:l≤y:=by omega
 have CA:=hide (fun n w' h (e:n = x - l)=>show Calls Tryz.prog 268 #[.agg #[.bool na,.slice ao A.length ca],.int .i64 n] w' fun e w''=>∃ v,e = .returned (.tuple #[v,.int .i64 (upE (sval na A) x l)])∧IsNum w'.heap.size w'' v (upN (sval na A) x l)∧Below w'.heap.size w' w'' by
  have:=shift_any na ao ca A n w' h (by omega) (by omega)
  rwa [e,(shift_up na A x l ra hxl).1,(shift_up na A x l ra hxl).2,← e] at this)
 have CB:=hide (fun n w' h (e:n = y - l)=>show Calls Tryz.prog 268 #[.agg #[.bool nb,.slice bo B.length cb],.int .i64 n] w' fun e w''=>∃ v,e = .returned (.tuple #[v,.int .i64 (upE (sval nb B) y l)])∧IsNum w'.heap.size w'' v (upN (sval nb B) y l)∧Below w'.heap.size w' w'' by
  have:=shift_any nb bo cb B n w' h (by omega) (by omega)
  rwa [e,(shift_up nb B y l rb hyl).1,(shift_up nb B y l rb hyl).2,← e] at this)
 have HA:=hide (up_cases (sval na A) x l)
 have HB:=hide (up_cases (sval nb B) y l)
 have HL:=hide hl
 clear hl ra rb hxl hyl
 generalize upE (sval na A) x l = ea at *
 generalize upE (sval nb B) y l = eb at *
 generalize upN (sval na A) x l = ua at *
 generalize upN (sval nb B) y l = ub at *
 generalize up (sval na A) x l = za at *
 generalize up (sval nb B) y l = zb at *
 obtain ⟨bx1,bx2⟩:=bx
 obtain ⟨by1,by2⟩:=by'
 have hb0:Below w.heap.size w ((((w.alloc (.cells #[.bool na,.slice ao A.length ca,.int .i64 x] 41)).alloc (.cells #[.bool nb,.slice bo B.length cb,.int .i64 y] 41)).alloc (.cells #[.bool false,.slice none 0 0] 39)).alloc (.cells #[.bool false,.slice none 0 0] 39)) :=
  ((((Below.refl _ _).alloc (Nat.le_refl _) _).alloc (by simp) _).alloc (by simp;omega) _).alloc (by simp;omega) _
 have x1:Box3 ((((w.alloc (.cells #[.bool na,.slice ao A.length ca,.int .i64 x] 41)).alloc (.cells #[.bool nb,.slice bo B.length cb,.int .i64 y] 41)).alloc (.cells #[.bool false,.slice none 0 0] 39)).alloc (.cells #[.bool false,.slice none 0 0] 39)) (w.heap.size+1) (.bool nb) (.slice bo B.length cb) (.int .i64 y):=by
  have:=((Box3.new (w.alloc (.cells #[.bool na,.slice ao A.length ca,.int .i64 x] 41)) (.bool nb) (.slice bo B.length cb) (.int .i64 y)).old (.cells #[.bool false,.slice none 0 0] 39)).old (.cells #[.bool false,.slice none 0 0] 39)
  simpa using this
 have x2:Box2 ((((w.alloc (.cells #[.bool na,.slice ao A.length ca,.int .i64 x] 41)).alloc (.cells #[.bool nb,.slice bo B.length cb,.int .i64 y] 41)).alloc (.cells #[.bool false,.slice none 0 0] 39)).alloc (.cells #[.bool false,.slice none 0 0] 39)) (w.heap.size+1+1) (.bool false) (.slice none 0 0):=by
  have:=(Box2.new ((w.alloc (.cells #[.bool na,.slice ao A.length ca,.int .i64 x] 41)).alloc (.cells #[.bool nb,.slice bo B.length cb,.int .i64 y] 41)) (.bool false) (.slice none 0 0)).old (.cells #[.bool false,.slice none 0 0] 39)
  simpa using this
 have x3:Box2 ((((w.alloc (.cells #[.bool na,.slice ao A.length ca,.int .i64 x] 41)).alloc (.cells #[.bool nb,.slice bo B.length cb,.int .i64 y] 41)).alloc (.cells #[.bool false,.slice none 0 0] 39)).alloc (.cells #[.bool false,.slice none 0 0] 39)) (w.heap.size+1+1+1) (.bool false) (.slice none 0 0):=by
  have:=Box2.new (((w.alloc (.cells #[.bool na,.slice ao A.length ca,.int .i64 x] 41)).alloc (.cells #[.bool nb,.slice bo B.length cb,.int .i64 y] 41)).alloc (.cells #[.bool false,.slice none 0 0] 39)) (.bool false) (.slice none 0 0)
  simpa using this
 have B0:=hide hb0;have X1:=hide x1;have X2:=hide x2;have X3:=hide x3
 clear hb0 x1 x2 x3
 rcases (show x < y ∨ x = y ∨ y < x by omega) with hxy | hxy | hxy
 all_goals
  first | subst hxy | skip
  go_enter Tryz.func310,Tryz.ntmps310
  go_wp2_with fail
  refine (uH CA _ _ (hA.below (uH B0)) (by have:=uH HL;omega)).mono ?_
  rintro r w1 ⟨v1,rfl,⟨n1,a1,c1,L1,rfl,i1⟩,hb1⟩
  have x1:=(uH X1).all hb1;have x2:=(uH X2).all hb1;have x3:=(uH X3).all hb1
  have b1:=(uH B0).trans (hb1.mono (uH B0).size)
  have hs:w.heap.size+4≤w1.heap.size:=by have:=hb1.size;simp at this;omega
  have i1':IsNum (w.heap.size+4) w1 (.agg #[.bool n1,.slice a1 L1.length c1]) ua:=by
   refine IsNum.mono ⟨n1,a1,c1,L1,rfl,i1⟩ (by simp)
  have p0:=x1.c0;have p1:=x1.c1;have p2:=x1.c2
  have q0:=x2.c0;have q1:=x2.c1;have f0:=x2.free 0;have f1:=x2.free 1
  have X1':=hide x1;have X2':=hide x2;have X3':=hide x3;have B1:=hide b1;have I1:=hide i1'
  clear hb1 x1 x2 x3 b1 i1 i1' X1 X2 X3 B0
  have s0:=(uH X3').c0;have s1:=(uH X3').c1;have g0:=(uH X3').free 0;have g1:=(uH X3').free 1
  rcases uH HA with ⟨rfl,hu⟩ | rfl
  ·have HU:=hide hu
   clear HA CA hu
   go_wp2_with fail
   have b2:=below_put2 (uH B1) (show w.heap.size≤w.heap.size+1+1 by omega) (.bool n1) (.slice a1 L1.length c1)
   refine (uH CB _ _ (hB.below b2) (by have:=uH HL;omega)).mono ?_
   rintro r w2 ⟨v2,rfl,⟨n2,a2,c2,L2,rfl,i2⟩,hb2⟩
   have hs2:w.heap.size+4≤w2.heap.size:=by have:=hb2.size;simp at this;omega
   have y2:=((uH X2').put (.bool n1) (.slice a1 L1.length c1)).all hb2
   have y3:=(((uH X3').other (p:=⟨w.heap.size+1+1,0,none⟩) (by simp) (.bool n1)).other (p:=⟨w.heap.size+1+1,1,none⟩) (by simp) (.slice a1 L1.length c1)).all hb2
   have b3:=b2.trans (hb2.mono b2.size)
   have j1:IsNum (w.heap.size+4) w2 (.agg #[.bool n1,.slice a1 L1.length c1]) ua:=((uH I1).put2 (p:=⟨w.heap.size+1+1,0,none⟩) (q:=⟨w.heap.size+1+1,1,none⟩) (by simp) (by simp) (.bool n1) (.slice a1 L1.length c1)).below hb2
   have j2:IsNum (w.heap.size+4) w2 (.agg #[.bool n2,.slice a2 L2.length c2]) ub:=IsNum.mono ⟨n2,a2,c2,L2,rfl,i2⟩ (by simp;omega)
   clear q0 q1 f0 f1 s0 s1 g0 g1 p0 p1 p2 X1' X2' X3' I1 B1 hb2 i2 CB
   have q0:=y2.c0;have q1:=y2.c1;have f0:=y2.free 0;have f1:=y2.free 1
   have s0:=y3.c0;have s1:=y3.c1;have g0:=y3.free 0;have g1:=y3.free 1
   have B3:=hide b3;have J1:=hide j1;have J2:=hide j2
   have EE:=hide (fun u0 u1 v0 v1=>ends_a y2 y3 (by omega) u0 u1 v0 v1)
   clear b2 b3 y2 y3 j1 j2
   rcases uH HB with ⟨rfl,hv⟩ | rfl
   ·have HV:=hide hv
    clear HB hv
    go_wp2
    go_region_with fail
    all_goals
     go_wp2
     obtain ⟨E1,E2⟩:=uH EE (.bool n1) (.slice a1 L1.length c1) (.bool n2) (.slice a2 L2.length c2)
     have z0:=E1.c0;have z1:=E1.c1;have z2:=E2.c0;have z3:=E2.c1
     refine bodyPost_ret (v:=.tuple #[.agg #[.bool n1,.slice a1 L1.length c1],.agg #[.bool n2,.slice a2 L2.length c2],.int .i64 0]) (by simp [results,Tryz.results310,go_sem,z0,z1,z2,z3]) rfl ⟨⟨n1,a1,L1.length,c1,n2,a2,L2.length,c2,0,rfl,?_,?_⟩,?_⟩
     ·intro _ _
      rw [← uH HU,← uH HV]
      exact ⟨rfl,((((((uH J1).put2 (by simp) (by simp) _ _).put2 (by simp) (by simp) _ _).put2 (by simp) (by simp) _ _).below ((Below.refl _ _).drew)).mono (Nat.zero_le _)),((((((uH J2).put2 (by simp) (by simp) _ _).put2 (by simp) (by simp) _ _).put2 (by simp) (by simp) _ _).below ((Below.refl _ _).drew)).mono (Nat.zero_le _))⟩
     ·intro h;exact absurd ⟨rfl,rfl⟩ h
     ·exact (below_put2 (below_put2 (below_put2 (uH B3) (by omega) _ _) (by omega) _ _) (by omega) _ _).drew
   ·clear HB
    go_wp2
    go_region_with fail
    all_goals
     go_wp2
     obtain ⟨E1,E2⟩:=uH EE (.bool n1) (.slice a1 L1.length c1) (.bool n2) (.slice a2 L2.length c2)
     have z0:=E1.c0;have z1:=E1.c1;have z2:=E2.c0;have z3:=E2.c1
     refine bodyPost_ret (v:=.tuple #[.agg #[.bool n1,.slice a1 L1.length c1],.agg #[.bool n2,.slice a2 L2.length c2],.int .i64 2]) (by simp [results,Tryz.results310,go_sem,z0,z1,z2,z3]) rfl ⟨⟨n1,a1,L1.length,c1,n2,a2,L2.length,c2,2,rfl,?_,fun _=>rfl⟩,?_⟩
     ·intro _ h;exact absurd h (by decide)
     ·exact (below_put2 (below_put2 (below_put2 (uH B3) (by omega) _ _) (by omega) _ _) (by omega) _ _).drew
  ·clear HA HB CA CB
   go_wp2
   go_region_with fail
   all_goals
    go_wp2
    obtain ⟨E1,E2⟩:=ends_b (uH X2') (uH X3') (by omega) (.bool n1) (.slice a1 L1.length c1) (.bool false) (.slice none 0 0)
    have z0:=E1.c0;have z1:=E1.c1;have z2:=E2.c0;have z3:=E2.c1
    refine bodyPost_ret (v:=.tuple #[.agg #[.bool n1,.slice a1 L1.length c1],.agg #[.bool false,.slice none 0 0],.int .i64 2]) (by simp [results,Tryz.results310,go_sem,z0,z1,z2,z3]) rfl ⟨⟨n1,a1,L1.length,c1,false,none,0,0,2,rfl,?_,fun _=>rfl⟩,?_⟩
    ·intro h;exact absurd h (by decide)
    ·exact (below_put2 (below_put2 (below_put2 (uH B1) (by omega) _ _) (by omega) _ _) (by omega) _ _).drew
end Go.Proofs.YtdhmglmccafbnaaGreatDoor
namespace Go.Proofs.YtdhmglmccafbnaaGreatDoor
open Go.RowKit
attribute [local go_sem ↓] Go.wp_at_zero Go.wp_at_succ
def lowE (sa x sb y:Int):Int:=if sa = 0 then y else if sb = 0 then x else min x y
def sumZ (sa x sb y:Int):Int:=up sa x (lowE sa x sb y)+up sb y (lowE sa x sb y)
def fitsB (sa x sb y:Int):Bool:=decide (upE sa x (lowE sa x sb y) = 0∧upE sb y (lowE sa x sb y) = 0∧(sumZ sa x sb y).natAbs < TOP)
def adE (sa x sb y:Int):Int:=if fitsB sa x sb y then dErr (sumZ sa x sb y) (lowE sa x sb y) else 2
def adM (sa x sb y:Int):Int:=if fitsB sa x sb y then dM (sumZ sa x sb y) (lowE sa x sb y) else 0
def adX (sa x sb y:Int):Int:=if fitsB sa x sb y then dX (sumZ sa x sb y) (lowE sa x sb y) else 0
def DyR (w':World) (r:Ending) (er m e:Int):Prop:=∃ v,r = .returned (.tuple #[v,.int .i64 er])∧IsDy w' v m e
theorem sval_zero_iff {n:Bool} {L:List Nat} (h:rightB n L = true):sval n L = 0 ↔ L.length = 0:=by
 have hc:=(right_canon h).2.1
 constructor
 ·intro e
  have:val L = 0:=by rw [← natAbs_sval n L,e];rfl
  rw [(val_zero_of_canon L hc).1 this];rfl
 ·intro e
  have:L = []:=List.length_eq_zero_iff.1 e
  rw [this,sval_nil]
theorem sval_TOP {w:World} {ao:Option Addr} {cap:Nat} {n:Bool} {L:List Nat} (h:LimbsAt w ao cap L) (hr:rightB n L = true):(sval n L).natAbs < TOP:=by
 rw [natAbs_sval];exact (val_lt_TOP L h.2.1 (right_canon hr).2.1).2 (right_canon hr).1
theorem up_zero (x l:Int):up 0 x l = 0:=by simp [up]
theorem up_self (s x:Int):up s x x = s:=by simp [up]
theorem upE_ok (s x l:Int) (h1:(up s x l).natAbs < TOP) (h2:x - l≤16384):upE s x l = 0:=by unfold upE;rw [if_pos ⟨h1,h2⟩]
theorem upE_TOP {s x l:Int} (h:upE s x l = 0):(up s x l).natAbs < TOP:=by
 unfold upE at h
 by_cases h1:(up s x l).natAbs < TOP∧x - l≤16384
 ·exact h1.1
 ·rw [if_neg h1] at h;exact absurd h (by decide)
theorem add_zero_l (sb y:Int) (hy:-16384≤y∧y≤16384) (hs:sb.natAbs < TOP):adE 0 0 sb y = dErr sb y∧adM 0 0 sb y = dM sb y∧adX 0 0 sb y = dX sb y:=by
 have hl:lowE 0 0 sb y = y:=by simp [lowE]
 have hz:sumZ 0 0 sb y = sb:=by unfold sumZ;rw [hl,up_zero,up_self];omega
 have hf:fitsB 0 0 sb y = true:=by
  unfold fitsB
  rw [hl,hz]
  exact decide_eq_true ⟨upE_ok _ _ _ (by rw [up_zero];exact TOP_pos) (by omega),upE_ok _ _ _ (by rw [up_self];exact hs) (by omega),hs⟩
 unfold adE adM adX
 rw [hf,hl,hz]
 exact ⟨rfl,rfl,rfl⟩
theorem add_zero_r (sa x:Int) (hx:-16384≤x∧x≤16384) (hs:sa.natAbs < TOP) (h0:sa ≠ 0):adE sa x 0 0 = dErr sa x∧adM sa x 0 0 = dM sa x∧adX sa x 0 0 = dX sa x:=by
 have hl:lowE sa x 0 0 = x:=by simp [lowE,h0]
 have hz:sumZ sa x 0 0 = sa:=by unfold sumZ;rw [hl,up_zero,up_self];omega
 have hf:fitsB sa x 0 0 = true:=by
  unfold fitsB
  rw [hl,hz]
  exact decide_eq_true ⟨upE_ok _ _ _ (by rw [up_self];exact hs) (by omega),upE_ok _ _ _ (by rw [up_zero];exact TOP_pos) (by omega),hs⟩
 unfold adE adM adX
 rw [hf,hl,hz]
 exact ⟨rfl,rfl,rfl⟩
theorem lowE_ne (sa x sb y:Int) (ha:sa ≠ 0) (hb:sb ≠ 0):lowE sa x sb y = min x y:=by unfold lowE;rw [if_neg ha,if_neg hb]
theorem add_ways (sa x sb y l z:Int) (hl:lowE sa x sb y = l) (hz:sumZ sa x sb y = z) :
  (upE sa x l = 0∧upE sb y l = 0∧z.natAbs < TOP∧adE sa x sb y = dErr z l∧adM sa x sb y = dM z l∧adX sa x sb y = dX z l) ∨
  (upE sa x l = 0∧upE sb y l = 0∧¬ z.natAbs < TOP∧adE sa x sb y = 2∧adM sa x sb y = 0∧adX sa x sb y = 0) ∨
  (¬ (upE sa x l = 0∧upE sb y l = 0)∧adE sa x sb y = 2∧adM sa x sb y = 0∧adX sa x sb y = 0):=by
 unfold adE adM adX fitsB
 rw [hl,hz]
 by_cases h1:upE sa x l = 0∧upE sb y l = 0
 ·by_cases h2:z.natAbs < TOP
  ·left
   rw [decide_eq_true (show upE sa x l = 0∧upE sb y l = 0∧z.natAbs < TOP from ⟨h1.1,h1.2,h2⟩)]
   exact ⟨h1.1,h1.2,h2,rfl,rfl,rfl⟩
  ·right;left
   rw [decide_eq_false (show ¬ (upE sa x l = 0∧upE sb y l = 0∧z.natAbs < TOP) from fun h=>h2 h.2.2)]
   exact ⟨h1.1,h1.2,h2,rfl,rfl,rfl⟩
 ·right;right
  rw [decide_eq_false (show ¬ (upE sa x l = 0∧upE sb y l = 0∧z.natAbs < TOP) from fun h=>h1 ⟨h.1,h.2.1⟩)]
  exact ⟨h1,rfl,rfl,rfl⟩
theorem addRight_any (na nb:Bool) (ao bo:Option Addr) (ca cb:Nat) (A B:List Nat) (x y:Int) (w:World) (hA:LimbsAt w ao ca A) (hB:LimbsAt w bo cb B) (ra:rightB na A = true) (rb:rightB nb B = true) (bx:-16384≤x∧x≤16384) (by':-16384≤y∧y≤16384) (zx:A.length = 0→x = 0) (zy:B.length = 0→y = 0) (hT:Tab w) :
  Calls Tryz.prog 305 #[.agg #[.bool na,.slice ao A.length ca,.int .i64 x],.agg #[.bool nb,.slice bo B.length cb,.int .i64 y]] w fun r w'=>DyR w' r (adE (sval na A) x (sval nb B) y) (adM (sval na A) x (sval nb B) y) (adX (sval na A) x (sval nb B) y)∧Below w.heap.size w w':=by
 have ta:=sval_TOP hA ra
 have tb:=sval_TOP hB rb
 have HZ1:=hide (show A.length = 0→adE (sval na A) x (sval nb B) y = dErr (sval nb B) y∧adM (sval na A) x (sval nb B) y = dM (sval nb B) y∧adX (sval na A) x (sval nb B) y = dX (sval nb B) y from fun h=>by
  have:=(sval_zero_iff ra).2 h
  rw [this,zx h];exact add_zero_l _ _ by' tb)
 have HZ2:=hide (show A.length ≠ 0→B.length = 0→adE (sval na A) x (sval nb B) y = dErr (sval na A) x∧adM (sval na A) x (sval nb B) y = dM (sval na A) x∧adX (sval na A) x (sval nb B) y = dX (sval na A) x from fun h0 h=>by
  have:=(sval_zero_iff rb).2 h
  rw [this,zy h];exact add_zero_r _ _ bx ta (fun e=>h0 ((sval_zero_iff ra).1 e)))
 have HL:=hide (show A.length ≠ 0→B.length ≠ 0→lowE (sval na A) x (sval nb B) y = min x y from fun h0 h=>lowE_ne _ _ _ _ (fun e=>h0 ((sval_zero_iff ra).1 e)) (fun e=>h ((sval_zero_iff rb).1 e)))
 obtain ⟨l,hl⟩:∃ l,lowE (sval na A) x (sval nb B) y = l:=⟨_,rfl⟩
 obtain ⟨z,hz⟩:∃ z,sumZ (sval na A) x (sval nb B) y = z:=⟨_,rfl⟩
 have HW:=hide (add_ways _ _ _ _ l z hl hz)
 have HSUM:=hide (show z = up (sval na A) x l+up (sval nb B) y l by rw [← hz,← hl];rfl)
 rw [hl] at HL
 have CMB:=hide (fun w' h t=>make_right nb bo cb B y w' h rb (by omega) t)
 have CMA:=hide (fun w' h t=>make_right na ao ca A x w' h ra (by omega) t)
 have CAL:=hide (fun w' h h' e=>align_any na nb ao bo ca cb A B x y l w' h h' ra rb bx by' e)
 have CADD:=hide (fun w' u v (h1:upE (sval na A) x l = 0) (h2:upE (sval nb B) y l = 0) (iu:IsNum 0 w' u (up (sval na A) x l)) (iv:IsNum 0 w' v (up (sval nb B) y l))=>add_num iu iv (upE_TOP h1) (upE_TOP h2))
 rw [← uH HSUM] at CADD
 have CMK:=hide (fun (hzT:z.natAbs < TOP) e' w' u B' (he:e' = l) (iu:IsNum B' w' u z) (t:Tab w')=>show Calls Tryz.prog 236 #[u,.int .i64 e'] w' fun r w''=>∃ v,r = .returned (.tuple #[v,.int .i64 (dErr z l)])∧IsDy w'' v (dM z l) (dX z l)∧Below w'.heap.size w' w'' by
  subst he
  refine make_num _ iu hzT ?_ t
  have:-16384≤e'∧e'≤16384:=by
   rw [← hl];unfold lowE
   split
   ·omega
   ·split <;> omega
  omega)
 have HES:=hide (fun h:z.natAbs < TOP=>And.intro (errOf_small z h) (numOf_small z h))
 have HEB:=hide (fun h:¬ z.natAbs < TOP=>(show errOf z = 2 by unfold errOf;rw [if_neg h]))
 clear hl hz ta tb ra rb zx zy HSUM
 obtain ⟨bx1,bx2⟩:=bx
 obtain ⟨by1,by2⟩:=by'
 generalize adE (sval na A) x (sval nb B) y = er at *
 generalize adM (sval na A) x (sval nb B) y = am at *
 generalize adX (sval na A) x (sval nb B) y = ax at *
 generalize upE (sval na A) x l = ea at *
 generalize upE (sval nb B) y l = eb at *
 generalize up (sval na A) x l = za at *
 generalize up (sval nb B) y l = zb at *
 have hb0:Below w.heap.size w (((w.alloc (.cells #[.bool na,.slice ao A.length ca,.int .i64 x] 41)).alloc (.cells #[.bool nb,.slice bo B.length cb,.int .i64 y] 41)).alloc (.cells #[.bool false,.slice none 0 0,.int .i64 0] 41)) :=
  (((Below.refl _ _).alloc (Nat.le_refl _) _).alloc (by simp) _).alloc (by simp;omega) _
 have x0:Box3 (((w.alloc (.cells #[.bool na,.slice ao A.length ca,.int .i64 x] 41)).alloc (.cells #[.bool nb,.slice bo B.length cb,.int .i64 y] 41)).alloc (.cells #[.bool false,.slice none 0 0,.int .i64 0] 41)) w.heap.size (.bool na) (.slice ao A.length ca) (.int .i64 x):=((Box3.new _ _ _ _).old _).old _
 have x1:Box3 (((w.alloc (.cells #[.bool na,.slice ao A.length ca,.int .i64 x] 41)).alloc (.cells #[.bool nb,.slice bo B.length cb,.int .i64 y] 41)).alloc (.cells #[.bool false,.slice none 0 0,.int .i64 0] 41)) (w.heap.size+1) (.bool nb) (.slice bo B.length cb) (.int .i64 y):=by
  have:=(Box3.new (w.alloc (.cells #[.bool na,.slice ao A.length ca,.int .i64 x] 41)) (.bool nb) (.slice bo B.length cb) (.int .i64 y)).old (.cells #[.bool false,.slice none 0 0,.int .i64 0] 41)
  simpa using this
 have x2:Box3 (((w.alloc (.cells #[.bool na,.slice ao A.length ca,.int .i64 x] 41)).alloc (.cells #[.bool nb,.slice bo B.length cb,.int .i64 y] 41)).alloc (.cells #[.bool false,.slice none 0 0,.int .i64 0] 41)) (w.heap.size+1+1) (.bool false) (.slice none 0 0) (.int .i64 0):=by
  have:=Box3.new ((w.alloc (.cells #[.bool na,.slice ao A.length ca,.int .i64 x] 41)).alloc (.cells #[.bool nb,.slice bo B.length cb,.int .i64 y] 41)) (.bool false) (.slice none 0 0) (.int .i64 0)
  simpa using this
 have B0:=hide hb0;have X0:=hide x0;have X1:=hide x1;have X2:=hide x2
 clear hb0 x0 x1 x2
 go_enter Tryz.func305,Tryz.ntmps305
 go_wp2_with fail
 refine (isZero_any na ao ca A.length _).mono ?_
 by_cases h0:A.length = 0
 ·rw [decide_eq_true h0]
  rintro r w1 ⟨rfl,hb1⟩
  obtain ⟨rfl,rfl,rfl⟩:=uH HZ1 h0
  have x1:=(uH X1).all hb1;have x2:=(uH X2).all hb1
  have b1:=(uH B0).trans (hb1.mono (uH B0).size)
  have q0:=x1.c0;have q1:=x1.c1;have q2:=x1.c2
  have X2':=hide x2;have B1:=hide b1
  clear h0 HZ1 HZ2 HL HW CMA CAL CADD CMK HES HEB hb1 x1 x2 b1 X0 X1 X2 B0
  go_wp2_with fail
  refine (uH CMB _ (hB.below (uH B1)) (hT.all (uH B1))).mono ?_
  rintro r w2 ⟨v,rfl,iv,hb1⟩
  obtain ⟨n3,a3,c3,L3,rfl,i3⟩:=iv.num
  have x2:=(uH X2').all hb1
  have b2:=(uH B1).trans (hb1.mono (uH B1).size)
  have y0:=x2.c0;have y1:=x2.c1;have y2:=x2.c2;have f0:=x2.free 0;have f1:=x2.free 1;have f2:=x2.free 2
  have X3:=hide x2;have B2:=hide b2;have IV:=hide iv
  clear x2 b2 hb1 iv i3
  go_wp2
  refine bodyPost_ret (v:=.tuple #[.agg #[.bool n3,.slice a3 L3.length c3,.int .i64 (dX (sval nb B) y)],.int .i64 (dErr (sval nb B) y)]) (by simp [results,Tryz.results305,go_sem,y0,y1,y2]) rfl ⟨⟨_,rfl,(uH IV).put3 (uH X3) _ _ _⟩,below_put3 (uH B2) (by omega) _ _ _⟩
 ·rw [decide_eq_false h0]
  rintro r w1 ⟨rfl,hb1⟩
  have x0:=(uH X0).all hb1;have x1:=(uH X1).all hb1;have x2:=(uH X2).all hb1
  have b1:=(uH B0).trans (hb1.mono (uH B0).size)
  have q0:=x1.c0;have q1:=x1.c1;have q2:=x1.c2
  have X0':=hide x0;have X1':=hide x1;have X2':=hide x2;have B1:=hide b1
  have HZ2':=hide (uH HZ2 h0);have HL':=hide (uH HL h0)
  clear h0 HZ1 HZ2 HL CMB hb1 x0 x1 x2 b1 X0 X1 X2 B0
  go_wp2_with fail
  refine (isZero_any nb bo cb B.length _).mono ?_
  by_cases h0:B.length = 0
  ·rw [decide_eq_true h0]
   rintro r w2 ⟨rfl,hb1⟩
   obtain ⟨rfl,rfl,rfl⟩:=uH HZ2' h0
   have x0:=(uH X0').all hb1;have x2:=(uH X2').all hb1
   have b1:=(uH B1).trans (hb1.mono (uH B1).size)
   clear q0 q1 q2 X0' X1' X2' B1
   have q0:=x0.c0;have q1:=x0.c1;have q2:=x0.c2
   have X2':=hide x2;have B1:=hide b1
   clear h0 HZ2' HL' HW CAL CADD CMK HES HEB hb1 x0 x2 b1
   go_wp2_with fail
   refine (uH CMA _ (hA.below (uH B1)) (hT.all (uH B1))).mono ?_
   rintro r w4 ⟨v,rfl,iv,hb1⟩
   obtain ⟨n3,a3,c3,L3,rfl,i3⟩:=iv.num
   have x2:=(uH X2').all hb1
   have b2:=(uH B1).trans (hb1.mono (uH B1).size)
   have y0:=x2.c0;have y1:=x2.c1;have y2:=x2.c2;have f0:=x2.free 0;have f1:=x2.free 1;have f2:=x2.free 2
   have X3:=hide x2;have B2:=hide b2;have IV:=hide iv
   clear x2 b2 hb1 iv i3
   go_wp2
   refine bodyPost_ret (v:=.tuple #[.agg #[.bool n3,.slice a3 L3.length c3,.int .i64 (dX (sval na A) x)],.int .i64 (dErr (sval na A) x)]) (by simp [results,Tryz.results305,go_sem,y0,y1,y2]) rfl ⟨⟨_,rfl,(uH IV).put3 (uH X3) _ _ _⟩,below_put3 (uH B2) (by omega) _ _ _⟩
  ·rw [decide_eq_false h0]
   rintro r w2 ⟨rfl,hb1⟩
   have x0:=(uH X0').all hb1;have x1:=(uH X1').all hb1;have x2:=(uH X2').all hb1
   have b1:=(uH B1).trans (hb1.mono (uH B1).size)
   have hll:=uH HL' h0
   clear q0 q1 q2 X0' X1' X2' B1
   have p0:=x0.c0;have p1:=x0.c1;have p2:=x0.c2
   have q0:=x1.c0;have q1:=x1.c1;have q2:=x1.c2
   have X0':=hide x0;have X1':=hide x1;have X2':=hide x2;have B1:=hide b1;have HLL:=hide hll
   clear h0 HZ2' HL' CMA hb1 x0 x1 x2 b1 hll
   go_wp2_with fail
   refine (uH CAL _ (hA.below (uH B1)) (hB.below (uH B1)) (uH HLL)).mono ?_
   rintro r w3 ⟨⟨n1,a1,l1,c1,n2,a2,l2,c2,ae,rfl,g1,g2⟩,hb1⟩
   have x0:=(uH X0').all hb1;have x1:=(uH X1').all hb1;have x2:=(uH X2').all hb1
   have b1:=(uH B1).trans (hb1.mono (uH B1).size)
   have G1:=hide g1;have G2:=hide g2
   clear p0 p1 p2 q0 q1 q2 X0' X1' X2' B1 CAL hb1 g1 g2
   -- the two boxes of what align answered
   have bA:Below w3.heap.size w3 ((w3.alloc (.cells #[.bool n1,.slice a1 l1 c1] 39)).alloc (.cells #[.bool n2,.slice a2 l2 c2] 39)):=((Below.refl _ _).alloc (Nat.le_refl _) _).alloc (by simp) _
   have X0':=hide (x0.all bA);have X1':=hide (x1.all bA);have X2':=hide (x2.all bA);have B1:=hide (b1.trans (bA.mono b1.size));have BA:=hide bA
   clear x0 x1 x2 b1 bA
   rcases uH HW with ⟨e1,e2,hzT,rfl,rfl,rfl⟩ | ⟨e1,e2,hzT,rfl,rfl,rfl⟩ | ⟨hno,rfl,rfl,rfl⟩
   ·obtain ⟨rfl,iu,iv⟩:=uH G1 e1 e2
    obtain ⟨es1,es2⟩:=uH HES hzT
    have CADD':=hide (fun w' u v iu iv=>uH CADD w' u v e1 e2 iu iv)
    rw [es1,es2] at CADD'
    have CMK':=hide (uH CMK hzT)
    have IU:=hide (iu.below (uH BA));have IV0:=hide (iv.below (uH BA))
    clear HW CADD CMK HES HEB G1 G2 e1 e2 hzT es1 es2 iu iv
    go_wp2_with fail
    refine (uH CADD' _ _ _ (uH IU) (uH IV0)).mono ?_
    rintro r w5 ⟨u,rfl,⟨n4,a4,c4,L4,rfl,i4⟩,hb1⟩
    have x0:=((uH X0').all hb1).old (.cells #[.bool n4,.slice a4 L4.length c4] 39)
    have x1:=((uH X1').all hb1).old (.cells #[.bool n4,.slice a4 L4.length c4] 39)
    have x2:=((uH X2').all hb1).old (.cells #[.bool n4,.slice a4 L4.length c4] 39)
    have b1:=((uH B1).trans (hb1.mono (uH B1).size)).alloc ((uH B1).trans (hb1.mono (uH B1).size)).size (.cells #[.bool n4,.slice a4 L4.length c4] 39)
    have iz:IsNum 0 (w5.alloc (.cells #[.bool n4,.slice a4 L4.length c4] 39)) (.agg #[.bool n4,.slice a4 L4.length c4]) z:=IsNum.mono (IsNum.below ⟨n4,a4,c4,L4,rfl,i4⟩ ((Below.refl _ _).alloc (Nat.le_refl _) _)) (Nat.zero_le _)
    clear X0' X1' X2' B1 hb1 i4 CADD' IU IV0 BA
    have p2:=x0.c2;have q2:=x1.c2
    have X2':=hide x2;have B1:=hide b1;have IZ:=hide iz
    clear x0 x1 x2 b1 iz
    rcases (show x < y ∨ x = y ∨ y < x by omega) with hxy | hxy | hxy
    all_goals
     first | subst hxy | skip
     go_wp2_with fail
     refine (uH CMK' _ _ _ _ (by have:=uH HLL;omega) (uH IZ) (hT.all (uH B1))).mono ?_
     rintro r w4 ⟨v,rfl,iv,hb1⟩
     obtain ⟨n3,a3,c3,L3,rfl,i3⟩:=iv.num
     have x2:=(uH X2').all hb1
     have b2:=(uH B1).trans (hb1.mono (uH B1).size)
     have y0:=x2.c0;have y1:=x2.c1;have y2:=x2.c2;have f0:=x2.free 0;have f1:=x2.free 1;have f2:=x2.free 2
     have X3:=hide x2;have B2:=hide b2;have IV:=hide iv
     clear x2 b2 hb1 iv i3
     go_wp2
     refine bodyPost_ret (v:=.tuple #[.agg #[.bool n3,.slice a3 L3.length c3,.int .i64 (dX z l)],.int .i64 (dErr z l)]) (by simp [results,Tryz.results305,go_sem,y0,y1,y2]) rfl ⟨⟨_,rfl,(uH IV).put3 (uH X3) _ _ _⟩,below_put3 (uH B2) (by omega) _ _ _⟩
   ·obtain ⟨rfl,iu,iv⟩:=uH G1 e1 e2
    have es1:=uH HEB hzT
    have CADD':=hide (fun w' u v iu iv=>uH CADD w' u v e1 e2 iu iv)
    rw [es1] at CADD'
    have IU:=hide (iu.below (uH BA));have IV0:=hide (iv.below (uH BA))
    clear HW CADD CMK HES HEB G1 G2 e1 e2 hzT es1 iu iv
    go_wp2_with fail
    refine (uH CADD' _ _ _ (uH IU) (uH IV0)).mono ?_
    rintro r w5 ⟨u,rfl,⟨n4,a4,c4,L4,rfl,i4⟩,hb1⟩
    have x2:=((uH X2').all hb1).old (.cells #[.bool n4,.slice a4 L4.length c4] 39)
    have b1:=((uH B1).trans (hb1.mono (uH B1).size)).alloc ((uH B1).trans (hb1.mono (uH B1).size)).size (.cells #[.bool n4,.slice a4 L4.length c4] 39)
    have y0:=x2.c0;have y1:=x2.c1;have y2:=x2.c2;have f0:=x2.free 0;have f1:=x2.free 1;have f2:=x2.free 2
    have B2:=hide b1
    clear X0' X1' X2' B1 hb1 i4 CADD' IU IV0 BA x2 b1
    go_wp2
    refine bodyPost_ret (v:=.tuple #[.agg #[.bool false,.slice none 0 0,.int .i64 0],.int .i64 (2)]) (by simp [results,Tryz.results305,go_sem,y0,y1,y2]) rfl ⟨⟨_,rfl,IsDy.zero _ _ _⟩,below_put3 (uH B2) (by omega) _ _ _⟩
   ·have ha:=uH G2 hno
    subst ha
    have x2:=uH X2'
    have y0:=x2.c0;have y1:=x2.c1;have y2:=x2.c2;have f0:=x2.free 0;have f1:=x2.free 1;have f2:=x2.free 2
    have B2:=B1
    clear HW CADD CMK HES HEB G1 G2 hno x2 X0' X1' X2' BA B1
    go_wp2
    refine bodyPost_ret (v:=.tuple #[.agg #[.bool false,.slice none 0 0,.int .i64 0],.int .i64 (2)]) (by simp [results,Tryz.results305,go_sem,y0,y1,y2]) rfl ⟨⟨_,rfl,IsDy.zero _ _ _⟩,below_put3 (uH B2) (by omega) _ _ _⟩
end Go.Proofs.YtdhmglmccafbnaaGreatDoor
namespace Go.Proofs.YtdhmglmccafbnaaGreatDoor
open Go.RowKit
attribute [local go_sem ↓] Go.wp_at_zero Go.wp_at_succ
theorem drB_bounds {neg:Bool} {L:List Nat} {e:Int} (h:drB neg L e = true):rightB neg L = true∧L.length≤512∧-16384≤e∧e≤16384∧(L.length = 0→e = 0):=by
 unfold drB at h
 rw [Bool.and_eq_true] at h
 obtain ⟨h1,h2⟩:=h
 refine ⟨h1,(right_canon h1).1,?_⟩
 by_cases h0:L.length = 0
 ·rw [if_pos h0] at h2
  have:=of_decide_eq_true h2
  omega
 ·rw [if_neg h0,Bool.and_eq_true] at h2
  have:=of_decide_eq_true h2.2
  omega
end Go.Proofs.YtdhmglmccafbnaaGreatDoor
