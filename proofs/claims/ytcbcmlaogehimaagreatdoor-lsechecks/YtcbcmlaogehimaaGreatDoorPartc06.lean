/- Part 6 of the texts. -/
import Derived.Test.YtcbcmlaogehimaaGreatDoorPartc04
import Derived.Test.YtcbcmlaogehimaaGreatDoorPartc02
import Derived.Laws.BitsAllLaws
import Derived.Test.YtcbcmlaogehimaaGreatDoorPartc05
import Derived.Test.YtcbcmlaogehimaaGreatDoorPartc03
set_option maxHeartbeats 2000000
namespace Go.Proofs.YtcbcmlaogehimaaGreatDoor
open Go.RowKit
theorem wrap_wide (x p:Nat) (bx:x < 4294967296) (hp:p≤31):IntKind.u64.wrap ((x:Int) * 2 ^ p) = ((x * 2 ^ p:Nat):Int):=by
 have h:=wide_lt x p bx hp
 have e:(x:Int) * 2 ^ p = ((x * 2 ^ p:Nat):Int):=by simp
 rw [e]
 clear e
 generalize x * 2 ^ p = z at *
 simp only [IntKind.wrap,IntKind.signed,IntKind.bits]
 simp
 omega
theorem up_vals (x p s:Nat) (bx:x < 4294967296) (hp:p≤31) (hs:s < 2 ^ p) :
  bits BinOp.or IntKind.u32 (s:Int) (IntKind.u64.wrap ((x:Int) * 2 ^ p) % 4294967296) = ((s+(x * 2 ^ p) % 4294967296:Nat):Int)∧IntKind.u64.wrap ((x:Int) * 2 ^ p) / 4294967296 % 4294967296 = (((x * 2 ^ p) / 4294967296:Nat):Int)∧s+(x * 2 ^ p) % 4294967296 < 4294967296:=by
 have h:=wide_lt x p bx hp
 have hs2:s < 4294967296:=Nat.lt_of_lt_of_le hs (by have:=Nat.pow_le_pow_right (n:=2) (by decide) (show p≤32 by omega);simpa using this)
 have e:=or_disj s ((x * 2 ^ p) % 4294967296) p hs (wide_low x p (by omega))
 have e2:s ||| (x * 2 ^ p) % 4294967296 < 2 ^ 32:=Nat.or_lt_two_pow (by omega) (by omega)
 rw [wrap_wide x p bx hp]
 generalize x * 2 ^ p = z at *
 have e3:((z:Nat):Int) % 4294967296 = ((z % 4294967296:Nat):Int):=by omega
 rw [e3,u32_or_nat s (z % 4294967296) hs2 (by omega),e]
 refine ⟨rfl,by omega,by omega⟩
theorem shiftUp_any (ao:Option Addr) (ca:Nat) (A:List Nat) (l p:Nat) (m:Int) (w:World) (hA:LimbsAt w ao ca A) (la:A.length≤1073741824) (hm:m = 32 * (l:Int)+(p:Int)) (hp:p≤31) (hl:l≤1073741824) :
  Calls Tryz.prog 268 #[.slice ao A.length ca,.int .i64 m] w fun e w'=>∃ ao' cap' L',e = .returned (.slice ao' L'.length cap')∧LimbsAt w' ao' cap' L'∧NewAt w.heap.size ao' L'∧L'.length = A.length+l+1∧val L' = 4294967296 ^ l * 2 ^ p * val A∧Below w.heap.size w w':=by
 obtain ⟨i0,hi,hz0,hz1,hz2⟩:=info_parts Tryz.info84
 have hd:m / 32 = (l:Int):=by omega
 have hr:m % 32 = (p:Int):=by omega
 have hm0:0≤m:=by omega
 have hm1:m≤68719476735:=by omega
 clear hm
 go_enter Tryz.func268,Tryz.ntmps268
 go_wp2_with (at_make;refine wpList_make_full _ rfl _ _ 31 rfl w.heap.size 84 i0 (.int .u32 0) 1 Tryz.underlying31 hi hz0 hz1 .i64 .i64 _ _ (A.length+l+1) rfl rfl (by omega) (by omega) (by rw [hz2];omega) (by unfold maxLen;omega) (Nat.le_refl _) ?_;intro w1 hown hgrow)
 have hrow:=RowAt.made hown
 have hb1:Below w.heap.size w w1:=(Below.refl _ _).grown hgrow (Nat.le_refl _) (fun k h=>by simp at h)
 clear hown hgrow
 go_wp2
 go_loopw [22] (fun c wr=>∃ (i:Nat) (S:List Nat),i≤A.length∧c = .int .i64 i∧RowAt wr w.heap.size S∧S.length = A.length+l+1∧Fits S∧Below w.heap.size w wr∧Hid (val S = 4294967296 ^ l * 2 ^ p * val (A.take i))∧Hid (S[i+l]?.getD 0 < 2 ^ p)∧Hid (∀ j,i+l < j→S[j]?.getD 0 = 0))
  (fun c _=>A.length - (intOf c).toNat)
 case atStart =>
  refine ⟨0,List.replicate (A.length+l+1) 0,Nat.zero_le _,rfl,hrow,by simp,Fits.zeros _,hb1,?_,?_,?_⟩
  ·unfold Hid
   have:∀ k,val (List.replicate k 0) = 0:=by intro k;induction k with | zero=>rfl | succ k ih=>simp [List.replicate_succ,val,ih]
   rw [this];simp [val]
  ·unfold Hid
   have:(List.replicate (A.length+l+1) 0)[0+l]?.getD 0 = 0:=by rw [List.getElem?_replicate];split <;> rfl
   rw [this];exact Nat.pow_pos (by decide)
  ·intro j _
   rw [List.getElem?_replicate];split <;> rfl
 case round =>
  obtain ⟨i,S,hi1,rfl,hr',hsl,hf,hbel,hv,hlow,hzr⟩:=hrel
  by_cases hlt:i < A.length
  ·obtain ⟨x,hx⟩:∃ x,A[i]?.getD 0 = x:=⟨_,rfl⟩
   have bx:x < 4294967296:=by rw [← hx];exact hA.lt i
   obtain ⟨s,hs⟩:∃ s,S[i+l]?.getD 0 = s:=⟨_,rfl⟩
   obtain ⟨b1,o1,hao,hb1',hc1⟩:=hA.ne (by omega)
   have ca1:=hc1 i hlt
   rw [hx] at ca1
   have dA:wr.cell? ⟨b1,o1+i,none⟩ = some (.int .u32 (x:Int)):=by rw [hbel.cell (p:=⟨b1,o1+i,none⟩) hb1'];exact ca1
   have dS:=hr'.cell (i+l) (by omega)
   rw [hs] at dS
   have dT:=hr'.cell (i+l+1) (by omega)
   rw [hzr.out _ (by omega)] at dT
   have hsp:s < 2 ^ p:=by rw [← hs];exact hlow.out
   obtain ⟨u1,u2,u3⟩:=up_vals x p s bx hp hsp
   have hst:=up_step A S i l p x s (by omega) hx hs (hzr.out _ (by omega)) hv.out
   have hhi:=wide_high x p bx hp
   have hlow2:((S.set (i+l) (s+(x * 2 ^ p) % 4294967296)).set (i+l+1) ((x * 2 ^ p) / 4294967296))[i+1+l]?.getD 0 < 2 ^ p:=by
    rw [show i+1+l = i+l+1 by omega,List.getElem?_set_self (by simp;omega)];exact hhi
   have hzr2:∀ j,i+1+l < j→((S.set (i+l) (s+(x * 2 ^ p) % 4294967296)).set (i+l+1) ((x * 2 ^ p) / 4294967296))[j]?.getD 0 = 0:=fun j hj=>by
    rw [getD_set_ne _ _ _ _ (by omega),getD_set_ne _ _ _ _ (by omega)];exact hzr.out j (by omega)
   have hhi2:(x * 2 ^ p) / 4294967296 < 4294967296:=by have:=wide_lt x p bx hp;omega
   have U1:=hide u1;have U2:=hide u2;have U3:=hide u3;have HST:=hide hst;have HLO:=hide hlow2;have HZ2:=hide hzr2;have HH:=hide hhi2
   have fS:=hr'.free (i+l)
   have fT:=hr'.free (i+l+1)
   have HR:=hide hr'
   clear u1 u2 u3 hst hlow2 hzr2 hhi hhi2 hsp hx hs hr' hv hlow hzr hc1 ca1
   subst hao
   have hltI:(i:Int) < (A.length:Int):=by omega
   go_wp2
   have r1:=((uH HR).set (i+l) (s+(x * 2 ^ p) % 4294967296)).set (i+l+1) ((x * 2 ^ p) / 4294967296)
   rw [← uH U1,← uH U2] at r1
   go_roundw
   case rel=>exact ⟨i+1,_,by omega,by go_num,r1,by simpa using hsl,(hf.set _ _ (uH U3)).set _ _ (uH HH),(hbel.setCell (by simp) _).setCell (by simp) _,uH HST,uH HLO,uH HZ2⟩
   case measure=>simp [intOf];omega
  ·have hii:i = A.length:=by omega
   have hv':=hv.out
   rw [hii,List.take_length] at hv'
   have HV:=hide hv'
   have HR:=hide hr'
   clear hv' hv hzr hr' hii hlow
   go_wp2
   go_ret
   exact ⟨some ⟨w.heap.size,0,none⟩,A.length+l+1,S,by rw [hsl];rfl,(uH HR).limbs hf _ (by omega),.inr ⟨_,_,rfl,Nat.le_refl _⟩,hsl,uH HV,hbel⟩
end Go.Proofs.YtcbcmlaogehimaaGreatDoor
namespace Go.Proofs.YtcbcmlaogehimaaGreatDoor
open Go.RowKit
theorem down_val (d0 d1 p:Nat) (b0:d0 < 4294967296) (b1:d1 < 4294967296) :
  bits BinOp.or IntKind.u64 (d0:Int) ((d1:Int) * 4294967296) / 2 ^ p % 4294967296 = (((d0+4294967296 * d1) / 2 ^ p % 4294967296:Nat):Int):=by
 have e:(d1:Int) * 4294967296 = ((d1 * 2 ^ 32:Nat):Int):=by simp
 have h:=Nat.two_pow_add_eq_or_of_lt (i:=32) (b:=d0) (by omega) d1
 rw [e,u64_or_nat d0 (d1 * 2 ^ 32) (by omega) (by omega),Nat.or_comm,Nat.mul_comm d1,← h]
 rw [show 2 ^ 32 * d1+d0 = d0+4294967296 * d1 by omega]
 simp
theorem shiftDown_any (ao:Option Addr) (ca:Nat) (A:List Nat) (l p:Nat) (m:Int) (w:World) (hA:LimbsAt w ao ca A) (la:A.length≤1073741824) (hm:m = 32 * (l:Int)+(p:Int)) (hp:p≤31) (hl:l≤1073741824) :
  Calls Tryz.prog 267 #[.slice ao A.length ca,.int .i64 m] w fun e w'=>∃ ao' cap' L',e = .returned (.slice ao' L'.length cap')∧LimbsAt w' ao' cap' L'∧NewAt w.heap.size ao' L'∧L'.length≤A.length∧val L' = val A / (4294967296 ^ l * 2 ^ p)∧Below w.heap.size w w':=by
 obtain ⟨i0,hi,hz0,hz1,hz2⟩:=info_parts Tryz.info84
 have hd:m / 32 = (l:Int):=by omega
 have hr:m % 32 = (p:Int):=by omega
 have hm0:0≤m:=by omega
 have hm1:m≤68719476735:=by omega
 clear hm
 by_cases hll:A.length≤l
 ·have hz:val A / (4294967296 ^ l * 2 ^ p) = 0:=by
   apply Nat.div_eq_of_lt
   have h1:=val_lt A hA.2.1
   have h2:(4294967296:Nat) ^ A.length≤4294967296 ^ l:=Nat.pow_le_pow_right (by decide) hll
   have h3:=Nat.mul_le_mul_left (4294967296 ^ l) (show 1≤2 ^ p from Nat.pow_pos (by decide))
   omega
  have HZ:=hide hz
  generalize val A / (4294967296 ^ l * 2 ^ p) = q at *
  clear hz
  have hlI:(A.length:Int)≤(l:Int):=by omega
  go_enter Tryz.func267,Tryz.ntmps267
  go_wp2
  go_ret
  exact ⟨none,0,[],rfl,LimbsAt.nil _ _ _,.inl rfl,by simp,by rw [uH HZ];rfl,Below.refl _ _⟩
 obtain ⟨n,hn⟩:∃ n,n+l = A.length:=⟨A.length - l,by omega⟩
 have hlI:¬ (A.length:Int)≤(l:Int):=by omega
 have hst:=fun (S:List Nat) (k d0 d1:Nat)=>down_step A S hA.2.1 k l p d0 d1 hp
 have hen:=fun (S:List Nat)=>down_end A S hA.2.1 l p
 have HST:=hide hst
 have HEN:=hide hen
 clear hst hen
 have n1:n≤1073741824:=by omega
 have n2:n+l≤A.length:=by omega
 have n3:A.length≤n+l:=by omega
 clear hn hll
 go_enter Tryz.func267,Tryz.ntmps267
 go_wp2_with (at_make;refine wpList_make_full _ rfl _ _ 31 rfl w.heap.size 84 i0 (.int .u32 0) 1 Tryz.underlying31 hi hz0 hz1 .i64 .i64 _ _ n rfl rfl (by omega) (by omega) (by rw [hz2];omega) (by unfold maxLen;omega) (Nat.le_refl _) ?_;intro w1 hown hgrow)
 have hrow:=RowAt.made hown
 have hb1:Below w.heap.size w w1:=(Below.refl _ _).grown hgrow (Nat.le_refl _) (fun k h=>by simp at h)
 clear hown hgrow
 go_wp2
 go_loopw [25] (fun c wr=>∃ (i:Nat) (S:List Nat),i≤n∧c = .int .i64 i∧RowAt wr w.heap.size S∧S.length = n∧Fits S∧Below w.heap.size w wr∧Hid (val (S.take i) = (val A / (4294967296 ^ l * 2 ^ p)) % 4294967296 ^ i))
  (fun c _=>n - (intOf c).toNat)
 case atStart=>exact ⟨0,List.replicate n 0,Nat.zero_le _,rfl,hrow,by simp,Fits.zeros _,hb1,by unfold Hid;simp [val,Nat.mod_one]⟩
 case round =>
  obtain ⟨i,S,hi1,rfl,hr',hsl,hf,hbel,hv⟩:=hrel
  by_cases hlt:i < n
  ·obtain ⟨d0,hd0⟩:∃ x,A[i+l]?.getD 0 = x:=⟨_,rfl⟩
   obtain ⟨d1,hd1⟩:∃ x,A[i+l+1]?.getD 0 = x:=⟨_,rfl⟩
   have b0:d0 < 4294967296:=by rw [← hd0];exact hA.lt _
   have b1':d1 < 4294967296:=by rw [← hd1];exact hA.lt _
   obtain ⟨b1,o1,hao,hb1',hc1⟩:=hA.ne (by omega)
   have ca1:=hc1 (i+l) (by omega)
   rw [hd0] at ca1
   have dA:wr.cell? ⟨b1,o1+(i+l),none⟩ = some (.int .u32 (d0:Int)):=by rw [hbel.cell (p:=⟨b1,o1+(i+l),none⟩) hb1'];exact ca1
   have cA:=hA.below hbel
   have dS:=hr'.cell i (by omega)
   have fS:=hr'.free i
   generalize hsi:S[i]?.getD 0 = s at *
   have HST1:=hide (uH HST S i d0 d1 (by omega) hd0 hd1 hv.out)
   have HD1:=hide hd1
   have HR:=hide hr'
   clear hd0 hd1 hc1 ca1 hr' hv hsi HST HEN
   have hltI:(i:Int)+(l:Int) < (A.length:Int):=by omega
   have hil0:(0:Int)≤(i:Int)+(l:Int):=by omega
   have hltN:(i:Int) < (n:Int):=by omega
   subst hao
   go_wp2
   go_quiet ((go_at_call 285;exact quiet_eq (limbAt_x (some ⟨b1,o1,none⟩) ca A _ (i+l+1) d1 _ (cA.below (below_drewN (Below.refl _ _) _)) (by omega) (by omega) HD1)))
   go_wp2
   have e:=down_val d0 d1 p b0 b1'
   have r1:=((uH HR).drewN nq).set i (((d0+4294967296 * d1) / 2 ^ p) % 4294967296)
   rw [← e] at r1
   have hmod:((d0+4294967296 * d1) / 2 ^ p) % 4294967296 < 4294967296:=Nat.mod_lt _ (by decide)
   go_roundw
   case rel=>exact ⟨i+1,_,by omega,by go_num,r1,by simpa using hsl,hf.set _ _ hmod,(below_drewN hbel nq).setCell (by simp) _,uH HST1⟩
   case measure=>simp [intOf];omega
  ·have hv':=uH HEN S (by omega) (by rw [hsl,show n = i by omega];exact hv.out)
   have HV:=hide hv'
   have HR:=hide hr'
   clear hv' hv hr' HST HEN
   go_wp2
   go_ret
   exact ⟨some ⟨w.heap.size,0,none⟩,n,S,by rw [hsl];rfl,(uH HR).limbs hf _ (by omega),.inr ⟨_,_,rfl,Nat.le_refl _⟩,by omega,uH HV,hbel⟩
end Go.Proofs.YtcbcmlaogehimaaGreatDoor
namespace Go.Proofs.YtcbcmlaogehimaaGreatDoor
open Go.RowKit
attribute [local go_sem ↓] Go.wp_at_zero Go.wp_at_succ
def sg (neg:Bool) (v:Nat):Int:=if neg then -(v:Int) else (v:Int)
theorem sval_sg (neg:Bool) (L:List Nat):sval neg L = sg neg (val L):=rfl
def shV (neg:Bool) (L:List Nat) (n:Int):Int:=sg neg (if 0≤n then val L * 2 ^ n.toNat else val L / 2 ^ (-n).toNat)
def shOk (neg:Bool) (L:List Nat) (n:Int):Bool:=rightB neg L && decide (-16384≤n∧n≤16384)
def shE (neg:Bool) (L:List Nat) (n:Int):Int:=if shOk neg L n then errOf (shV neg L n) else if rightB neg L then 2 else 1
def shN (neg:Bool) (L:List Nat) (n:Int):Int:=if shOk neg L n then numOf (shV neg L n) else 0
theorem shV_up (neg:Bool) (A L:List Nat) (l p:Nat) (n:Int) (hn:n = 32 * (l:Int)+(p:Int)) (h:val L = 4294967296 ^ l * 2 ^ p * val A):sval neg L = shV neg A n:=by
 rw [sval_sg,h,two_pow_32]
 unfold shV
 rw [if_pos (by omega),show n.toNat = 32 * l+p by omega,Nat.mul_comm]
theorem shV_down (neg:Bool) (A L:List Nat) (l p:Nat) (n:Int) (h0:n < 0) (hn:-n = 32 * (l:Int)+(p:Int)) (h:val L = val A / (4294967296 ^ l * 2 ^ p)):sval neg L = shV neg A n:=by
 rw [sval_sg,h,two_pow_32]
 unfold shV
 rw [if_neg (by omega),show (-n).toNat = 32 * l+p by omega]
theorem shift_any (na:Bool) (ao:Option Addr) (ca:Nat) (A:List Nat) (n:Int) (w:World) (hA:LimbsAt w ao ca A) (la:A.length≤35184372088830) (bn:-9223372036854775808≤n∧n≤9223372036854775807) :
  Calls Tryz.prog 238 #[.agg #[.bool na,.slice ao A.length ca],.int .i64 n] w fun e w'=>∃ v,e = .returned (.tuple #[v,.int .i64 (shE na A n)])∧IsNum w.heap.size w' v (shN na A n)∧Below w.heap.size w w':=by
 have hC1:rightB na A = false→chkE na A = 1∧shE na A n = 1∧shN na A n = 0:=fun h=>by simp [chkE,shE,shN,shOk,h]
 have hC2:rightB na A = true→¬ (-16384≤n∧n≤16384)→chkE na A = 0∧shE na A n = 2∧shN na A n = 0:=fun h h'=>by simp only [chkE,shE,shN,shOk,h,decide_eq_false h'];simp
 have hC3:rightB na A = true→(-16384≤n∧n≤16384)→chkE na A = 0∧A.length≤512∧shE na A n = errOf (shV na A n)∧shN na A n = numOf (shV na A n):=fun h h'=>by
  refine ⟨by simp [chkE,h],(right_canon h).1,?_,?_⟩
  ·unfold shE shOk;rw [h,decide_eq_true h',Bool.and_self,if_pos rfl]
  ·unfold shN shOk;rw [h,decide_eq_true h',Bool.and_self,if_pos rfl]
 have hUp:=fun (L:List Nat) (l p:Nat)=>shV_up na A L l p n
 have hDn:=fun (L:List Nat) (l p:Nat)=>shV_down na A L l p n
 have HC1:=hide hC1;have HC2:=hide hC2;have HC3:=hide hC3;have HUp:=hide hUp;have HDn:=hide hDn
 have hck:=fun w' h'=>check_any na ao ca A w' h' la
 have HCK:=hide hck
 clear hC1 hC2 hC3 hUp hDn hck
 generalize shV na A n = z at *
 generalize shE na A n = er at *
 generalize shN na A n = nu at *
 generalize chkE na A = ck at *
 generalize rightB na A = rb at *
 go_enter Tryz.func238,Tryz.ntmps238
 go_wp2_with fail
 have hb0:Below w.heap.size w ((w.alloc (.cells #[.bool na,.slice ao A.length ca] 33)).alloc (.cells #[.bool false,.slice none 0 0] 33)):=((Below.refl _ _).alloc (Nat.le_refl _) _).alloc (by simp) _
 refine (uH HCK _ (hA.below hb0)).mono ?_
 rintro e w1 ⟨rfl,hb1⟩
 have hs1:w.heap.size+2≤w1.heap.size:=by have:=hb1.size;simpa using this
 have hb2:Below w.heap.size w w1:=hb0.trans (hb1.mono (by simp;omega))
 have x0:Box2 w1 w.heap.size (.bool na) (.slice ao A.length ca):=((Box2.new _ _ _).old _).below hb1 (by simp;omega)
 have r2:Box2 w1 (w.heap.size+1) (.bool false) (.slice none 0 0):=by
  have:=Box2.new (w.alloc (.cells #[.bool na,.slice ao A.length ca] 33)) (.bool false) (.slice none 0 0)
  exact Box2.below (by simpa using this) hb1 (by simp)
 have p0:=x0.c0;have p1:=x0.c1
 clear hb1 hb0 HCK
 cases rb
 ·obtain ⟨c1,c2,c3⟩:=uH HC1 rfl
  have HT:=hide (And.intro c2 c3)
  rw [c1]
  have y0:=r2.c0;have y1:=r2.c1;have f0:=r2.free 0;have f1:=r2.free 1
  clear HC1 HC2 HC3 HUp HDn c1 c2 c3
  go_wp2
  refine bodyPost_ret (v:=.tuple #[.agg #[.bool false,.slice none 0 0],.int .i64 1]) (by simp [results,Tryz.results238,go_sem,y0,y1]) rfl ⟨.agg #[.bool false,.slice none 0 0],by rw [(uH HT).1],by rw [(uH HT).2];exact IsNum.zero _ _ _ _,?_⟩
  exact (hb2.setCell (by simp) _).setCell (by simp) _
 by_cases hin:-16384≤n∧n≤16384
 case neg =>
  obtain ⟨c1,c2,c3⟩:=uH HC2 rfl hin
  have HT:=hide (And.intro c2 c3)
  rw [c1]
  have y0:=r2.c0;have y1:=r2.c1;have f0:=r2.free 0;have f1:=r2.free 1
  clear HC1 HC2 HC3 HUp HDn c1 c2 c3
  rcases (show n < -16384 ∨ (¬ n < -16384∧16384 < n) by omega) with hx | ⟨hx,hx'⟩
  all_goals
   go_wp2
   refine bodyPost_ret (v:=.tuple #[.agg #[.bool false,.slice none 0 0],.int .i64 2]) (by simp [results,Tryz.results238,go_sem,y0,y1]) rfl ⟨.agg #[.bool false,.slice none 0 0],by rw [(uH HT).1],by rw [(uH HT).2];exact IsNum.zero _ _ _ _,?_⟩
   exact (hb2.setCell (by simp) _).setCell (by simp) _
 obtain ⟨c1,c4,c2,c3⟩:=uH HC3 rfl hin
 have HT:=hide (And.intro c2 c3)
 rw [c1]
 obtain ⟨hn1,hn2⟩:=hin
 clear HC1 HC2 HC3 c1 c2 c3
 by_cases hneg:n < 0
 ·obtain ⟨l,hl⟩:∃ l:Nat,(l:Int) = (-n) / 32:=⟨((-n) / 32).toNat,by omega⟩
  obtain ⟨p,hp⟩:∃ p:Nat,(p:Int) = (-n) % 32:=⟨((-n) % 32).toNat,by omega⟩
  have q1:-n = 32 * (l:Int)+(p:Int):=by omega
  have HSV:=hide (fun L h=>uH HDn L l p hneg q1 h)
  have q2:p≤31:=by omega
  have q3:l≤512:=by omega
  have q4:n = -(32 * (l:Int)+(p:Int)):=by omega
  have Q4:=hide q4
  have hwn:IntKind.i64.wrap (-n) = -n:=by
   simp only [IntKind.wrap,IntKind.signed,IntKind.bits]
   simp
   omega
  clear HUp HDn hl hp q1 q4
  go_wp2
  refine at_world (fun W=>W = w1) rfl ?_
  rintro W0 e0
  subst e0
  have hK:∀ w',Below (w.heap.size+1) W0 w'→Below (w.heap.size+1) W0 w'∧w'.cell? ⟨w.heap.size,0,none⟩ = some (.bool na)∧w'.cell? ⟨w.heap.size,1,none⟩ = some (.slice ao A.length ca):=fun w' h =>
   ⟨h,(x0.below h (by omega)).c0,(x0.below h (by omega)).c1⟩
  have HK:=hide hK
  have HA:=hide (hA.below hb2)
  have X2:=hide r2
  have HW0:=hide hb2
  clear hK hA x0 r2 hb2 p0 p1
  go_region_held3 (fun w'=>Below (w.heap.size+1) W0 w'∧w'.cell? ⟨w.heap.size,0,none⟩ = some (.bool na)∧w'.cell? ⟨w.heap.size,1,none⟩ = some (.slice ao A.length ca))
   (first | exact uH HK _ (Below.refl _ _).drew | exact uH HK _ (by assumption) | exact uH HK _ ((hB2.setCell (by simp) _).setCell (by simp) _))
   (first | (go_at_call 267;refine (shiftDown_any ao ca A l p _ _ ((uH HA).below ((Below.refl _ _).drew)) (by omega) (by have:=uH Q4;omega) (by omega) (by omega)).mono ?_;rintro e w3 ⟨ao',cap',L',rfl,g1,g2,g3,g4,hb1⟩;have hB1:Below (w.heap.size+1) W0 w3:=((Below.refl _ _).drew).trans (hb1.mono (by simp;omega));have X3:=hide ((uH X2).drew.below hb1 (by simp;omega));have G1:=hide g1;have G2:=hide g2;have G4:=hide g4;have L4:L'.length≤35184372088832:=(by omega);have s1:=hb1.size;clear g1 g2 g4 g3 hb1) | (go_at_call 266;refine (fit_any _ na _ _ _ _ (uH G1) (uH G2) L4).mono ?_;rintro e w4 ⟨v,rfl,⟨n2,a2,c2,L2,rfl,i1⟩,hb2⟩;have hB2:Below (w.heap.size+1) W0 w4:=hB1.trans (hb2.mono (by simp at s1;omega));have X4:=(uH X3).below hb2 (by simp at s1;omega);have y0:=X4.c0;have y1:=X4.c1;have f0:=X4.free 0;have f1:=X4.free 1;have I1:=hide i1;clear i1 hb2 X4))
  have hz:=uH HSV L' (uH G4)
  have HI:=hide (hz ▸ uH I1)
  have HE:=hide (show errOf (sval na L') = errOf z by rw [hz])
  clear hz
  go_wp2
  refine bodyPost_ret (v:=.tuple #[.agg #[.bool n2,.slice a2 L2.length c2],.int .i64 (errOf (sval na L'))]) (by simp [results,Tryz.results238,go_sem,y0,y1]) rfl ⟨.agg #[.bool n2,.slice a2 L2.length c2],?_,?_,?_⟩
  ·rw [(uH HT).1,uH HE]
  ·rw [(uH HT).2];exact IsNum.stored (uH HI) (by simp;omega) (by simp;omega) (by simp;omega) _ _
  ·exact (((uH HW0).trans (hB2.mono (by omega))).setCell (by simp) _).setCell (by simp) _
 ·obtain ⟨l,hl⟩:∃ l:Nat,(l:Int) = n / 32:=⟨(n / 32).toNat,by omega⟩
  obtain ⟨p,hp⟩:∃ p:Nat,(p:Int) = n % 32:=⟨(n % 32).toNat,by omega⟩
  have q1:n = 32 * (l:Int)+(p:Int):=by omega
  have HSV:=hide (fun L h=>uH HUp L l p q1 h)
  have q2:p≤31:=by omega
  have q3:l≤512:=by omega
  have Q4:=hide q1
  clear HUp HDn hl hp q1
  go_wp2
  refine at_world (fun W=>W = w1) rfl ?_
  rintro W0 e0
  subst e0
  have hK:∀ w',Below (w.heap.size+1) W0 w'→Below (w.heap.size+1) W0 w'∧w'.cell? ⟨w.heap.size,0,none⟩ = some (.bool na)∧w'.cell? ⟨w.heap.size,1,none⟩ = some (.slice ao A.length ca):=fun w' h =>
   ⟨h,(x0.below h (by omega)).c0,(x0.below h (by omega)).c1⟩
  have HK:=hide hK
  have HA:=hide (hA.below hb2)
  have X2:=hide r2
  have HW0:=hide hb2
  clear hK hA x0 r2 hb2 p0 p1
  go_region_held3 (fun w'=>Below (w.heap.size+1) W0 w'∧w'.cell? ⟨w.heap.size,0,none⟩ = some (.bool na)∧w'.cell? ⟨w.heap.size,1,none⟩ = some (.slice ao A.length ca))
   (first | exact uH HK _ (Below.refl _ _).drew | exact uH HK _ (by assumption) | exact uH HK _ ((hB2.setCell (by simp) _).setCell (by simp) _))
   (first | (go_at_call 268;refine (shiftUp_any ao ca A l p _ _ ((uH HA).below ((Below.refl _ _).drew)) (by omega) (by have:=uH Q4;omega) (by omega) (by omega)).mono ?_;rintro e w3 ⟨ao',cap',L',rfl,g1,g2,g3,g4,hb1⟩;have hB1:Below (w.heap.size+1) W0 w3:=((Below.refl _ _).drew).trans (hb1.mono (by simp;omega));have X3:=hide ((uH X2).drew.below hb1 (by simp;omega));have G1:=hide g1;have G2:=hide g2;have G4:=hide g4;have L4:L'.length≤35184372088832:=(by omega);have s1:=hb1.size;clear g1 g2 g4 g3 hb1) | (go_at_call 266;refine (fit_any _ na _ _ _ _ (uH G1) (uH G2) L4).mono ?_;rintro e w4 ⟨v,rfl,⟨n2,a2,c2,L2,rfl,i1⟩,hb2⟩;have hB2:Below (w.heap.size+1) W0 w4:=hB1.trans (hb2.mono (by simp at s1;omega));have X4:=(uH X3).below hb2 (by simp at s1;omega);have y0:=X4.c0;have y1:=X4.c1;have f0:=X4.free 0;have f1:=X4.free 1;have I1:=hide i1;clear i1 hb2 X4))
  have hz:=uH HSV L' (uH G4)
  have HI:=hide (hz ▸ uH I1)
  have HE:=hide (show errOf (sval na L') = errOf z by rw [hz])
  clear hz
  go_wp2
  refine bodyPost_ret (v:=.tuple #[.agg #[.bool n2,.slice a2 L2.length c2],.int .i64 (errOf (sval na L'))]) (by simp [results,Tryz.results238,go_sem,y0,y1]) rfl ⟨.agg #[.bool n2,.slice a2 L2.length c2],?_,?_,?_⟩
  ·rw [(uH HT).1,uH HE]
  ·rw [(uH HT).2];exact IsNum.stored (uH HI) (by simp;omega) (by simp;omega) (by simp;omega) _ _
  ·exact (((uH HW0).trans (hB2.mono (by omega))).setCell (by simp) _).setCell (by simp) _
end Go.Proofs.YtcbcmlaogehimaaGreatDoor
namespace Go.Proofs.YtcbcmlaogehimaaGreatDoor
open Go.RowKit
theorem mulLimbs_any (ao bo:Option Addr) (ca cb:Nat) (A B:List Nat) (w:World) (hA:LimbsAt w ao ca A) (hB:LimbsAt w bo cb B) (la:A.length≤1073741824) (lb:B.length≤1073741824) :
  Calls Tryz.prog 297 #[.slice ao A.length ca,.slice bo B.length cb] w fun e w'=>∃ ao' cap' L',e = .returned (.slice ao' L'.length cap')∧LimbsAt w' ao' cap' L'∧NewAt w.heap.size ao' L'∧L'.length = A.length+B.length∧val L' = val A * val B∧Below w.heap.size w w':=by
 obtain ⟨i0,hi,hz0,hz1,hz2⟩:=info_parts Tryz.info84
 obtain ⟨n,hn⟩:∃ n,n = A.length+B.length:=⟨_,rfl⟩
 have HN:=hide hn
 have n1:n≤2147483648:=by omega
 have n2:A.length+B.length≤n:=by omega
 clear hn
 go_enter Tryz.func297,Tryz.ntmps297
 go_wp2_with (at_make;have hn:=uH HN;refine wpList_make_full _ rfl _ _ 31 rfl w.heap.size 84 i0 (.int .u32 0) 1 Tryz.underlying31 hi hz0 hz1 .i64 .i64 _ _ n rfl rfl (by omega) (by omega) (by rw [hz2];omega) (by unfold maxLen;omega) (Nat.le_refl _) ?_;clear hn;intro w1 hown hgrow)
 have hrow:=RowAt.made hown
 have hb1:Below w.heap.size w w1:=(Below.refl _ _).grown hgrow (Nat.le_refl _) (fun k h=>by simp at h)
 clear hown hgrow
 go_wp2
 go_loopw [17] (fun c wr=>∃ (i:Nat) (P:List Nat),i≤A.length∧c = .int .i64 i∧RowAt wr w.heap.size P∧P.length = n∧Fits P∧Below w.heap.size w wr∧Hid (val P = val (A.take i) * val B)∧Hid (∀ j,i+B.length≤j→P[j]?.getD 0 = 0))
  (fun c _=>A.length - (intOf c).toNat)
 case atStart =>
  refine ⟨0,List.replicate n 0,Nat.zero_le _,rfl,hrow,by simp,Fits.zeros _,hb1,?_,?_⟩
  ·unfold Hid
   have:∀ k,val (List.replicate k 0) = 0:=by intro k;induction k with | zero=>rfl | succ k ih=>simp [List.replicate_succ,val,ih]
   rw [this];simp [val]
  ·intro j _
   rw [List.getElem?_replicate];split <;> rfl
 case round =>
  obtain ⟨i,P,hi1,rfl,hr,hpl,hf,hbel,hv,hzr⟩:=hrel
  by_cases hlt:i < A.length
  ·obtain ⟨x,hx⟩:∃ x,A[i]?.getD 0 = x:=⟨_,rfl⟩
   have bx:x < 4294967296:=by rw [← hx];exact hA.lt i
   obtain ⟨b1,o1,hao,hb1',hc1⟩:=hA.ne (by omega)
   have ca1:=hc1 i hlt
   rw [hx] at ca1
   have HX:=hide hx
   have HC1:=hide ca1
   have HR:=hide hr
   have HLT:=hide hlt
   clear hx hc1 ca1 hr hrow hb1
   subst hao
   have hltI:(i:Int) < (A.length:Int):=by omega
   go_wp2
   go_loopw [7,22] (fun c k wq=>∃ (y:Nat) (kk:Nat) (Q:List Nat),kk≤B.length∧k = .int .i64 kk∧c = .int .u64 y∧y < 4294967296∧RowAt wq w.heap.size Q∧Q.length = n∧Fits Q∧Below w.heap.size w wq∧Hid (val Q+4294967296 ^ (i+kk) * y = val (A.take i) * val B+4294967296 ^ i * x * val (B.take kk))∧Hid (∀ j,i+B.length≤j→Q[j]?.getD 0 = 0))
    (fun _ k _=>B.length - (intOf k).toNat)
   case atStart=>exact ⟨0,0,P,Nat.zero_le _,rfl,rfl,by omega,uH HR,hpl,hf,hbel,by unfold Hid;simp [val];exact hv.out,hzr⟩
   case round =>
    obtain ⟨y,kk,Q,hk1,rfl,rfl,hy,hrq,hql,hfq,hbq,hvq,hzq⟩:=hrel
    by_cases hkl:kk < B.length
    ·obtain ⟨z,hz⟩:∃ z,B[kk]?.getD 0 = z:=⟨_,rfl⟩
     have bz:z < 4294967296:=by rw [← hz];exact hB.lt kk
     obtain ⟨q,hq⟩:∃ q,Q[i+kk]?.getD 0 = q:=⟨_,rfl⟩
     obtain ⟨b2,o2,hbo,hb2',hc2⟩:=hB.ne (by omega)
     have cb2:=hc2 kk hkl
     rw [hz] at cb2
     have bq:q < 4294967296:=by
      rw [← hq]
      by_cases hh:i+kk < Q.length
      ·rw [List.getElem?_eq_getElem hh];exact hfq _ (List.getElem_mem hh)
      ·rw [List.getElem?_eq_none (by omega)];decide
     have dA:wr.cell? ⟨b1,o1+i,none⟩ = some (.int .u32 (x:Int)):=by rw [hbq.cell (p:=⟨b1,o1+i,none⟩) hb1'];exact uH HC1
     have dB:wr.cell? ⟨b2,o2+kk,none⟩ = some (.int .u32 (z:Int)):=by rw [hbq.cell (p:=⟨b2,o2+kk,none⟩) hb2'];exact cb2
     have dQ:=hrq.cell (i+kk) (by omega)
     rw [hq] at dQ
     have fQ:=hrq.free (i+kk)
     have hxz:=mul_lt x z bx bz
     obtain ⟨hxzI,hxz0⟩:=mul_ltI x z bx bz
     have hst:=mul_step B Q (val (A.take i) * val B) x i kk y z q (by omega) hz hq hvq.out
     have hzz:∀ j,i+B.length≤j→(Q.set (i+kk) ((y+(x * z+q)) % 4294967296))[j]?.getD 0 = 0:=fun j hj=>by rw [getD_set_ne _ _ _ _ (by omega)];exact hzq.out j hj
     have HST:=hide hst
     have HZZ:=hide hzz
     have HRQ:=hide hrq
     obtain ⟨ec,ed⟩:=mul_casts x y z q
     have EC:=hide ec
     have ED:=hide ed
     have by':(y+(x * z+q)) / 4294967296 < 4294967296:=by omega
     have BY:=hide by'
     clear hst hzz hrq ec ed hz hq hc2 cb2 hvq hzq by' hxz hv hzr
     subst hbo
     have hkI:(kk:Int) < (B.length:Int):=by omega
     have hqI:(i:Int)+(kk:Int) < (n:Int):=by omega
     go_wp2
     go_quiet (fail)
     go_wp2
     have hr':=((uH HRQ).drewN nq).set (i+kk) ((y+(x * z+q)) % 4294967296)
     rw [uH EC] at hr'
     go_roundw
     case rel=>exact ⟨(y+(x * z+q)) / 4294967296,kk+1,Q.set (i+kk) ((y+(x * z+q)) % 4294967296),by omega,by go_num,int_eq (uH ED).symm,uH BY,hr',by simpa using hql,hfq.set _ _ (by omega),(below_drewN hbq nq).setCell (by simp) _,uH HST,uH HZZ⟩
     case measure=>simp [intOf];omega
    ·have hkk:kk = B.length:=by omega
     rw [hkk] at hvq
     have hz0:=hzq.out (i+B.length) (by omega)
     have htop:=mul_top A B Q x i y (by omega) (uH HX) hz0 hvq.out
     have hzz:∀ j,i+1+B.length≤j→(Q.set (i+B.length) y)[j]?.getD 0 = 0:=fun j hj=>by rw [getD_set_ne _ _ _ _ (by omega)];exact hzq.out j (by omega)
     have dQ:=hrq.cell (i+B.length) (by omega)
     rw [hz0] at dQ
     have fQ:=hrq.free (i+B.length)
     have HTOP:=hide htop
     have HZZ:=hide hzz
     have HRQ:=hide hrq
     have hqI:(i:Int)+(B.length:Int) < (n:Int):=by omega
     clear htop hzz hrq hvq hzq hz0 hkk hv hzr HC1
     go_wp2
     have hr':=(uH HRQ).set (i+B.length) y
     go_roundw
     case rel=>exact ⟨i+1,Q.set (i+B.length) y,by omega,by go_num,hr',by simpa using hql,hfq.set _ _ hy,hbq.setCell (by simp) _,uH HTOP,uH HZZ⟩
     case measure=>simp [intOf];omega
  ·have hii:i = A.length:=by omega
   have hv':=hv.out
   rw [hii,List.take_length] at hv'
   have HV:=hide hv'
   have HR:=hide hr
   clear hv' hv hzr hr hii
   go_wp2
   go_ret
   exact ⟨some ⟨w.heap.size,0,none⟩,n,P,by rw [hpl];rfl,(uH HR).limbs hf _ (by omega),.inr ⟨_,_,rfl,Nat.le_refl _⟩,by rw [hpl];exact uH HN,uH HV,hbel⟩
end Go.Proofs.YtcbcmlaogehimaaGreatDoor
namespace Go.Proofs.YtcbcmlaogehimaaGreatDoor
open Go.RowKit
attribute [local go_sem ↓] Go.wp_at_zero Go.wp_at_succ
theorem mul_big (A B:List Nat) (cA:Canon A) (cB:Canon B) (lA:A.length≤512) (lB:B.length≤512) (h:512 < A.length+B.length - 1):¬ val A * val B < TOP:=by
 have a1:A ≠ []:=by rintro rfl;simp at h;omega
 have b1:B ≠ []:=by rintro rfl;simp at h;omega
 have hA:=val_ge A (cA.resolve_left a1)
 have hB:=val_ge B (cB.resolve_left b1)
 have hm:=Nat.mul_le_mul hA hB
 rw [← Nat.pow_add] at hm
 have hp:TOP≤4294967296 ^ (A.length - 1+(B.length - 1)):=by
  unfold TOP
  exact Nat.pow_le_pow_right (by decide) (show TOPN≤A.length - 1+(B.length - 1) by unfold TOPN;omega)
 omega
theorem mul_any (na nb:Bool) (ao bo:Option Addr) (ca cb:Nat) (A B:List Nat) (w:World) (hA:LimbsAt w ao ca A) (hB:LimbsAt w bo cb B) (la:A.length≤35184372088830) (lb:B.length≤35184372088830) :
  Calls Tryz.prog 291 #[.agg #[.bool na,.slice ao A.length ca],.agg #[.bool nb,.slice bo B.length cb]] w fun e w'=>∃ v,e = .returned (.tuple #[v,.int .i64 (opErr (rightB na A && rightB nb B) (sval na A * sval nb B))])∧IsNum w.heap.size w' v (opNum (rightB na A && rightB nb B) (sval na A * sval nb B))∧Below w.heap.size w w':=by
 have hC:(rightB na A && rightB nb B) = true→Canon A∧Canon B:=fun h=>by
  simp only [Bool.and_eq_true] at h;exact ⟨(right_canon h.1).2.1,(right_canon h.2).2.1⟩
 have hL:(rightB na A && rightB nb B) = true→A.length≤512∧B.length≤512∧(512 < A.length+B.length - 1→errOf (sval na A * sval nb B) = 2∧numOf (sval na A * sval nb B) = 0):=fun h=>by
  simp only [Bool.and_eq_true] at h
  have r1:=right_canon h.1
  have r2:=right_canon h.2
  refine ⟨r1.1,r2.1,fun hb=>?_⟩
  have big:¬ (sval na A * sval nb B).natAbs < TOP:=by
   rw [Int.natAbs_mul,natAbs_sval,natAbs_sval]
   exact mul_big A B r1.2.1 r2.2.1 r1.1 r2.1 hb
  constructor
  ·unfold errOf;rw [if_neg big]
  ·unfold numOf;rw [if_neg big]
 have hsv:∀ L:List Nat,val L = val A * val B→sval (na != nb) L = sval na A * sval nb B:=by
  intro L h;unfold sval;rw [h];cases na <;> cases nb <;> simp [Int.neg_mul,Int.mul_neg]
 have HC:=hide hC
 have HL:=hide hL
 have HSV:=hide hsv
 clear hL hsv
 have H2:=hide (show chk2 na A nb B = if (rightB na A && rightB nb B) then 0 else 1 from rfl)
 clear hC
 generalize hok:(rightB na A && rightB nb B) = ok at *
 generalize sval na A * sval nb B = z at *
 clear hok
 go_enter Tryz.func291,Tryz.ntmps291
 go_wp2_with fail
 have hb0:Below w.heap.size w (((w.alloc (.cells #[.bool na,.slice ao A.length ca] 33)).alloc (.cells #[.bool nb,.slice bo B.length cb] 33)).alloc (.cells #[.bool false,.slice none 0 0] 33)) :=
  (((Below.refl _ _).alloc (Nat.le_refl _) _).alloc (by simp) _).alloc (by simp;omega) _
 refine (checkBoth_any na nb ao bo ca cb A B _ (hA.below hb0) (hB.below hb0) la lb).mono ?_
 rintro e w1 ⟨rfl,hb1⟩
 have hs1:w.heap.size+3≤w1.heap.size:=by have:=hb1.size;simpa using this
 have hb2:Below w.heap.size w w1:=hb0.trans (hb1.mono (by simp;omega))
 have p0:w1.cell? ⟨w.heap.size,0,none⟩ = some (.bool na):=by rw [hb1.cell (p:=⟨w.heap.size,0,none⟩) (by simp;omega)];simp [go_sem]
 have p1:w1.cell? ⟨w.heap.size,1,none⟩ = some (.slice ao A.length ca):=by rw [hb1.cell (p:=⟨w.heap.size,1,none⟩) (by simp;omega)];simp [go_sem]
 have q0:w1.cell? ⟨w.heap.size+1,0,none⟩ = some (.bool nb):=by rw [hb1.cell (p:=⟨w.heap.size+1,0,none⟩) (by simp)];simp [go_sem]
 have q1:w1.cell? ⟨w.heap.size+1,1,none⟩ = some (.slice bo B.length cb):=by rw [hb1.cell (p:=⟨w.heap.size+1,1,none⟩) (by simp)];simp [go_sem]
 have r2:Box2 w1 (w.heap.size+2) (.bool false) (.slice none 0 0):=by
  have:=Box2.new ((w.alloc (.cells #[.bool na,.slice ao A.length ca] 33)).alloc (.cells #[.bool nb,.slice bo B.length cb] 33)) (.bool false) (.slice none 0 0)
  exact Box2.below (by simpa using this) hb1 (by simp)
 have PA:Hid (Box2 w1 w.heap.size (.bool na) (.slice ao A.length ca)):=(((Box2.new _ _ _).old _).old _).below hb1 (by simp;omega)
 have PB:Hid (Box2 w1 (w.heap.size+1) (.bool nb) (.slice bo B.length cb)):=by
  have:=(Box2.new (w.alloc (.cells #[.bool na,.slice ao A.length ca] 33)) (.bool nb) (.slice bo B.length cb)).old (.cells #[.bool false,.slice none 0 0] 33)
  exact Box2.below (by simpa using this) hb1 (by simp)
 rw [uH H2]
 clear hb1 H2 hb0
 cases ok
 ·simp only [Bool.false_eq_true,if_false]
  have y0:=r2.c0;have y1:=r2.c1;have f0:=r2.free 0;have f1:=r2.free 1
  go_wp2
  refine bodyPost_ret (v:=.tuple #[.agg #[.bool false,.slice none 0 0],.int .i64 1]) (by simp [results,Tryz.results291,go_sem,y0,y1]) rfl ⟨.agg #[.bool false,.slice none 0 0],by rw [opErr_false],by rw [opNum_false];exact IsNum.zero _ _ _ _,?_⟩
  exact (hb2.setCell (by simp;omega) _).setCell (by simp;omega) _
 ·obtain ⟨cA,cB⟩:=uH HC rfl
  obtain ⟨l1,l2,hbig⟩:=uH HL rfl
  have HBIG:=hide hbig
  clear cA cB hbig HC HL
  simp only [if_true]
  by_cases hlen:512 < A.length+B.length - 1
  ·have hE:=hide (uH HBIG hlen)
   have y0:=r2.c0;have y1:=r2.c1;have f0:=r2.free 0;have f1:=r2.free 1
   have hlenI:(512:Int) < (A.length:Int)+(B.length:Int) - 1:=by omega
   clear HBIG
   go_wp2
   refine bodyPost_ret (v:=.tuple #[.agg #[.bool false,.slice none 0 0],.int .i64 2]) (by simp [results,Tryz.results291,go_sem,y0,y1]) rfl ⟨.agg #[.bool false,.slice none 0 0],by rw [opErr_true,(uH hE).1],by rw [opNum_true,(uH hE).2];exact IsNum.zero _ _ _ _,?_⟩
   exact (hb2.setCell (by simp;omega) _).setCell (by simp;omega) _
  have hlenI:¬ (512:Int) < (A.length:Int)+(B.length:Int) - 1:=by omega
  clear HBIG
  go_wp2
  refine at_world (fun W=>W = w1) rfl ?_
  rintro W0 e0
  subst e0
  have x0:Box2 W0 w.heap.size (.bool na) (.slice ao A.length ca):=uH PA
  have x1:Box2 W0 (w.heap.size+1) (.bool nb) (.slice bo B.length cb):=uH PB
  have hK:∀ w',Below (w.heap.size+2) W0 w'→Below (w.heap.size+2) W0 w'∧w'.cell? ⟨w.heap.size,0,none⟩ = some (.bool na)∧w'.cell? ⟨w.heap.size+1,0,none⟩ = some (.bool nb)∧w'.cell? ⟨w.heap.size,1,none⟩ = some (.slice ao A.length ca)∧w'.cell? ⟨w.heap.size+1,1,none⟩ = some (.slice bo B.length cb):=fun w' h =>
   ⟨h,(x0.below h (by omega)).c0,(x1.below h (by omega)).c0,(x0.below h (by omega)).c1,(x1.below h (by omega)).c1⟩
  have HK:=hide hK
  have HA:=hide (hA.below hb2)
  have HB:=hide (hB.below hb2)
  have X2:=hide r2
  have HW0:=hide hb2
  clear hK hA hB x0 x1 r2 hb2 p0 p1 q0 q1 PA PB
  go_region_held3 (fun w'=>Below (w.heap.size+2) W0 w'∧w'.cell? ⟨w.heap.size,0,none⟩ = some (.bool na)∧w'.cell? ⟨w.heap.size+1,0,none⟩ = some (.bool nb)∧w'.cell? ⟨w.heap.size,1,none⟩ = some (.slice ao A.length ca)∧w'.cell? ⟨w.heap.size+1,1,none⟩ = some (.slice bo B.length cb))
   (first | exact uH HK _ (Below.refl _ _).drew | exact uH HK _ (by assumption) | exact uH HK _ ((hB2.setCell (by simp) _).setCell (by simp) _))
   (first | (go_at_call 297;refine (mulLimbs_any ao bo ca cb A B _ ((uH HA).below ((Below.refl _ _).drew)) ((uH HB).below ((Below.refl _ _).drew)) (by omega) (by omega)).mono ?_;rintro e w3 ⟨ao',cap',L',rfl,g1,g2,g3,g4,hb1⟩;have hB1:Below (w.heap.size+2) W0 w3:=((Below.refl _ _).drew).trans (hb1.mono (by simp;omega));have X3:=hide ((uH X2).drew.below hb1 (by simp;omega));have G1:=hide g1;have G2:=hide g2;have G4:=hide g4;have L4:L'.length≤35184372088832:=(by omega);have s1:=hb1.size;clear g1 g2 g4 g3 hb1) | (go_at_call 266;refine (fit_any _ (na != nb) _ _ _ _ (uH G1) (uH G2) L4).mono ?_;rintro e w4 ⟨v,rfl,⟨n2,a2,c2,L2,rfl,i1⟩,hb2⟩;have hB2:Below (w.heap.size+2) W0 w4:=hB1.trans (hb2.mono (by simp at s1;omega));have X4:=(uH X3).below hb2 (by simp at s1;omega);have y0:=X4.c0;have y1:=X4.c1;have f0:=X4.free 0;have f1:=X4.free 1;have I1:=hide i1;clear i1 hb2 X4))
  have hz:=uH HSV L' (uH G4)
  have HI:=hide (hz ▸ uH I1)
  have HE:=hide (show errOf (sval (na != nb) L') = errOf z by rw [hz])
  clear hz
  go_wp2
  refine bodyPost_ret (v:=.tuple #[.agg #[.bool n2,.slice a2 L2.length c2],.int .i64 (errOf (sval (na != nb) L'))]) (by simp [results,Tryz.results291,go_sem,y0,y1]) rfl ⟨.agg #[.bool n2,.slice a2 L2.length c2],?_,?_,?_⟩
  ·rw [opErr_true,uH HE]
  ·rw [opNum_true];exact IsNum.stored (uH HI) (by simp;omega) (by simp;omega) (by simp;omega) _ _
  ·exact (((uH HW0).trans (hB2.mono (by omega))).setCell (by simp;omega) _).setCell (by simp;omega) _
end Go.Proofs.YtcbcmlaogehimaaGreatDoor
namespace Go.Proofs.YtcbcmlaogehimaaGreatDoor
open Go.RowKit
theorem two_row (w:World) (g:Nat) (a b:Int) (lo hi:Nat) (hg:w.heap.size = g) (ha:a = (lo:Int)) (hb:b = (hi:Int)) :
  RowAt (w.alloc (.cells #[.int .u32 a,.int .u32 b] 84)) g [lo,hi]:=by
 subst hg;subst ha;subst hb
 exact heap_alloc_new w _
theorem wrap_neg (n:Int) (h0:-9223372036854775808≤n) (h1:n < 0):IntKind.u64.wrap (-IntKind.u64.wrap n) = -n:=by
 simp only [IntKind.wrap,IntKind.signed,IntKind.bits]
 simp
 omega
theorem val_two (m:Nat):val [m % 4294967296,m / 4294967296] = m:=by simp only [val];omega
theorem of_any (n:Int) (w:World) (h0:-9223372036854775808≤n) (h1:n≤9223372036854775807) :
  Calls Tryz.prog 207 #[.int .i64 n] w fun e w'=>∃ v,e = .returned v∧IsNum w.heap.size w' v n∧Below w.heap.size w w':=by
 obtain ⟨m,hm⟩:∃ m,m = n.natAbs:=⟨_,rfl⟩
 have hf:Fits [m % 4294967296,m / 4294967296]:=by intro x hx;simp at hx;omega
 have HF:=hide hf
 have HM:=hide hm
 clear hf hm
 by_cases hn:n < 0
 ·have hw:=wrap_neg n h0 hn
  have HW:=hide hw
  clear hw
  go_enter Tryz.func207,Tryz.ntmps207
  go_wp2_with fail
  have hm:=uH HM
  have hR:=two_row (w.alloc (.cells #[.bool false,.slice none 0 0] 33)) (w.heap.size+1) (IntKind.u64.wrap (-IntKind.u64.wrap n) % 4294967296) (IntKind.u64.wrap (-IntKind.u64.wrap n) / 4294967296 % 4294967296) (m % 4294967296) (m / 4294967296) (by simp) (by rw [uH HW];omega) (by rw [uH HW];omega)
  refine (trim_any (some ⟨w.heap.size+1,0,none⟩) 2 [m % 4294967296,m / 4294967296] _ (hR.limbs (uH HF) 2 (by simp)) (by simp)).mono ?_
  rintro e w' ⟨v,rfl,⟨ao',cap',L',rfl,g1,g2,g3,g4,g5⟩,rfl⟩
  have G4:=hide g4
  have G1:=hide g1
  have G2:=hide g2
  have G5:=hide g5
  clear g1 g2 g4 g5 hR hm
  go_wp2
  refine bodyPost_ret (v:=.agg #[.bool true,.slice ao' L'.length cap']) (by simp [results,Tryz.results207,go_sem]) rfl ⟨.agg #[.bool true,.slice ao' L'.length cap'],rfl,⟨true,ao',cap',L',rfl,uH G4 _ ?_,uH G5 _ (.inr ⟨_,_,rfl,by omega⟩),uH G1,by simp [hn],?_⟩,?_⟩
  ·refine (two_row _ (w.heap.size+1) _ _ _ _ (by simp) ?_ ?_).limbs (uH HF) 2 (by simp)
   ·have hm:=uH HM;rw [uH HW];omega
   ·have hm:=uH HM;rw [uH HW];omega
  ·exact ⟨by rw [uH G2,val_two];exact uH HM,by simp at g3;omega⟩
  ·exact ((Below.refl _ _).alloc (Nat.le_refl _) _).alloc (by simp) _
 ·go_enter Tryz.func207,Tryz.ntmps207
  go_wp2_with fail
  have hm:=uH HM
  have hR:=two_row (w.alloc (.cells #[.bool false,.slice none 0 0] 33)) (w.heap.size+1) (n % 4294967296) (n / 4294967296) (m % 4294967296) (m / 4294967296) (by simp) (by omega) (by omega)
  refine (trim_any (some ⟨w.heap.size+1,0,none⟩) 2 [m % 4294967296,m / 4294967296] _ (hR.limbs (uH HF) 2 (by simp)) (by simp)).mono ?_
  rintro e w' ⟨v,rfl,⟨ao',cap',L',rfl,g1,g2,g3,g4,g5⟩,rfl⟩
  have G4:=hide g4
  have G1:=hide g1
  have G2:=hide g2
  have G5:=hide g5
  clear g1 g2 g4 g5 hR hm
  go_wp2
  refine bodyPost_ret (v:=.agg #[.bool false,.slice ao' L'.length cap']) (by simp [results,Tryz.results207,go_sem]) rfl ⟨.agg #[.bool false,.slice ao' L'.length cap'],rfl,⟨false,ao',cap',L',rfl,uH G4 _ ?_,uH G5 _ (.inr ⟨_,_,rfl,by omega⟩),uH G1,by simp;omega,?_⟩,?_⟩
  ·refine (two_row _ (w.heap.size+1) _ _ _ _ (by simp) ?_ ?_).limbs (uH HF) 2 (by simp)
   ·have hm:=uH HM;omega
   ·have hm:=uH HM;omega
  ·exact ⟨by rw [uH G2,val_two];exact uH HM,by simp at g3;omega⟩
  ·exact ((Below.refl _ _).alloc (Nat.le_refl _) _).alloc (by simp) _
end Go.Proofs.YtcbcmlaogehimaaGreatDoor
namespace Go.Proofs.YtcbcmlaogehimaaGreatDoor
open Go.RowKit
theorem IsNum.right {B:Nat} {w:World} {v:Value} {x:Int} (h:IsNum B w v x) (hx:x.natAbs < TOP) :
  ∃ neg ao cap L,v = .agg #[.bool neg,.slice ao L.length cap]∧LimbsAt w ao cap L∧rightB neg L = true∧sval neg L = x∧L.length≤512:=by
 obtain ⟨neg,ao,cap,L,rfl,h1,h2,h3,h4,h5,h6⟩:=h
 have hl:L.length≤512:=(val_lt_TOP L h1.2.1 h3).1 (by omega)
 refine ⟨neg,ao,cap,L,rfl,h1,?_,?_,hl⟩
 ·have e0:L.length = 0→neg = false:=fun e=>by
   have:L = []:=List.length_eq_zero_iff.1 e
   subst this
   rw [h4];simp [val] at h5;simp;omega
  have e1:L.length = 0 ∨ L[L.length - 1]?.getD 0 ≠ 0:=by
   rcases h3 with h | h
   ·left;rw [h];rfl
   ·exact .inr h
  simp only [rightB,Bool.and_eq_true,decide_eq_true_eq,Bool.not_eq_true',Bool.and_eq_false_iff,decide_eq_false_iff_not,Bool.or_eq_true]
  refine ⟨⟨hl,?_⟩,e1⟩
  by_cases e:L.length = 0
  ·exact .inr (e0 e)
  ·exact .inl e
 ·unfold sval
  rw [h4]
  by_cases hx0:x < 0
  ·simp [hx0];omega
  ·simp [hx0];omega
theorem add_num {B B':Nat} {w:World} {v u:Value} {x y:Int} (hv:IsNum B w v x) (hu:IsNum B' w u y) (hx:x.natAbs < TOP) (hy:y.natAbs < TOP) :
  Calls Tryz.prog 295 #[v,u] w fun e w'=>∃ r,e = .returned (.tuple #[r,.int .i64 (errOf (x+y))])∧IsNum w.heap.size w' r (numOf (x+y))∧Below w.heap.size w w':=by
 obtain ⟨na,ao,ca,A,rfl,a1,a2,a3,a4⟩:=hv.right hx
 obtain ⟨nb,bo,cb,C,rfl,b1,b2,b3,b4⟩:=hu.right hy
 have:=add_any na nb ao bo ca cb A C w a1 b1 (by omega) (by omega)
 rwa [a2,b2,a3,b3,Bool.and_self,opErr_true,opNum_true] at this
theorem small_TOP (x:Nat) (h:x < 18446744073709551616):x < TOP:=by
 have:(4294967296 ^ 2:Nat)≤4294967296 ^ TOPN:=Nat.pow_le_pow_right (by decide) (by decide)
 unfold TOP
 omega
theorem errOf_small (x:Int) (h:x.natAbs < TOP):errOf x = 0:=by unfold errOf;rw [if_pos h]
theorem numOf_small (x:Int) (h:x.natAbs < TOP):numOf x = x:=by unfold numOf;rw [if_pos h]
end Go.Proofs.YtcbcmlaogehimaaGreatDoor
