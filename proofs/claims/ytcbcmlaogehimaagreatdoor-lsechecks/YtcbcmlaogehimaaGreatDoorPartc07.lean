/- Part 7 of the texts. -/
import Derived.Test.YtcbcmlaogehimaaGreatDoorPartc05
import Derived.Test.YtcbcmlaogehimaaGreatDoorPartc06
import Derived.Test.YtcbcmlaogehimaaGreatDoorPartc04
import Derived.RegionTactic
import Derived.BigRegion
import Derived.Deep.AppendLies
import Derived.Deep.RegionLaw
set_option maxHeartbeats 4000000
set_option maxRecDepth 4000
namespace Go.Proofs.YtcbcmlaogehimaaGreatDoor
open Go.RowKit
attribute [local go_sem ↓] Go.wp_at_zero Go.wp_at_succ
theorem double_any (na:Bool) (ao:Option Addr) (ca:Nat) (A:List Nat) (w:World) (hA:LimbsAt w ao ca A) (la:A.length≤35184372088830) :
  Calls Tryz.prog 166 #[.agg #[.bool na,.slice ao A.length ca]] w fun e w'=>∃ v,e = .returned v∧IsNumM (A.length+1) w.heap.size w' v (sg na (val A+val A))∧Below w.heap.size w w':=by
 have hsum:∀ L:List Nat,val L = val A+val A→sval na L = sg na (val A+val A):=by
  intro L h;rw [sval_sg,h]
 have HS:=hide hsum
 clear hsum
 generalize sg na (val A+val A) = z at *
 go_enter Tryz.func166,Tryz.ntmps166
 go_wp2
 refine at_world (fun W=>Below w.heap.size w W∧W.heap.size = w.heap.size+2∧Box2 W w.heap.size (.bool na) (.slice ao A.length ca)∧Box2 W (w.heap.size+1) (.bool false) (.slice none 0 0)) ?_ ?_
 ·refine ⟨((Below.refl _ _).alloc (Nat.le_refl _) _).alloc (by simp) _,by simp,(Box2.new _ _ _).old _,?_⟩
  have:=Box2.new (w.alloc (.cells #[.bool na,.slice ao A.length ca] 33)) (.bool false) (.slice none 0 0)
  simpa using this
 rintro W0 ⟨hw0,hs0,x0,x2⟩
 have hK:∀ w',Below (w.heap.size+1) W0 w'→Below (w.heap.size+1) W0 w'∧w'.cell? ⟨w.heap.size,0,none⟩ = some (.bool na)∧w'.cell? ⟨w.heap.size,1,none⟩ = some (.slice ao A.length ca):=fun w' h =>
  ⟨h,(x0.below h (by omega)).c0,(x0.below h (by omega)).c1⟩
 have HK:=hide hK
 have HA:=hide (hA.below hw0)
 have X2:=hide x2
 have HW0:=hide hw0
 clear hK hA x0 x2 hw0
 go_region_held3 (fun w'=>Below (w.heap.size+1) W0 w'∧w'.cell? ⟨w.heap.size,0,none⟩ = some (.bool na)∧w'.cell? ⟨w.heap.size,1,none⟩ = some (.slice ao A.length ca))
  (first | exact uH HK _ (Below.refl _ _).drew | exact uH HK _ (by assumption) | exact uH HK _ ((hB2.setCell (by simp) _).setCell (by simp) _))
  (first | (go_at_call 107;refine (plus_any ao ao ca ca A A _ ((uH HA).below ((Below.refl _ _).drew)) ((uH HA).below ((Below.refl _ _).drew)) la la).mono ?_;rintro e w1 ⟨ao',cap',L',rfl,g1,g2,g3,g4,hb1⟩;have hB1:Below (w.heap.size+1) W0 w1:=((Below.refl _ _).drew).trans (hb1.mono (by simp [hs0]));have X3:=hide ((uH X2).drew.below hb1 (by simp [hs0]));have G1:=hide g1;have G2:=hide g2;have G4:=hide g4;have L4:L'.length≤35184372088832:=(by omega);have L5:L'.length≤A.length+1:=(by omega);have s1:=hb1.size;clear g1 g2 g4 g3 hb1) | (go_at_call 65;refine (made_any _ na _ _ _ _ (uH G1) (uH G2) L4).mono ?_;rintro e w2 ⟨v,rfl,⟨n2,a2,c2,L2,rfl,i1⟩,hb2⟩;have hB2:Below (w.heap.size+1) W0 w2:=hB1.trans (hb2.mono (by simp at s1;omega));have X4:=(uH X3).below hb2 (by simp at s1;omega);have y0:=X4.c0;have y1:=X4.c1;have f0:=X4.free 0;have f1:=X4.free 1;have I1:=hide i1;clear i1 hb2 X4))
 have hz:=uH HS L' (uH G4)
 have HI:=hide (hz ▸ uH I1)
 clear hz
 go_wp2
 refine bodyPost_ret (v:=.agg #[.bool n2,.slice a2 L2.length c2]) (by simp [results,Tryz.results166,go_sem,y0,y1]) rfl ⟨.agg #[.bool n2,.slice a2 L2.length c2],rfl,?_,?_⟩
 ·exact (IsNumM.stored (uH HI) (by simp;omega) (by simp;omega) (by simp;omega) _ _).more (by have:=L5;omega)
 ·exact (((uH HW0).trans (hB2.mono (by omega))).setCell (by simp) _).setCell (by simp) _
theorem Box2.other {w:World} {b:Nat} {x y:Value} (h:Box2 w b x y) {p:Addr} (hp:b ≠ p.block) (u:Value):Box2 (w.setCell p u) b x y:=(Below.heap_setCell w p u b hp).trans h
theorem half_limb (d0 d1:Nat):((d1 % 2 * 4294967296+d0) / 2) % 4294967296 = ((d0+4294967296 * d1) / 2 ^ 1) % 4294967296:=by omega
end Go.Proofs.YtcbcmlaogehimaaGreatDoor
namespace Go.Proofs.YtcbcmlaogehimaaGreatDoor
open Go.RowKit
attribute [local go_sem ↓] Go.wp_at_zero Go.wp_at_succ
theorem half_any (na:Bool) (ao:Option Addr) (ca:Nat) (A:List Nat) (w:World) (hA:LimbsAt w ao ca A) (la:A.length≤1073741824) :
  Calls Tryz.prog 67 #[.agg #[.bool na,.slice ao A.length ca]] w fun e w'=>∃ v,e = .returned v∧IsNumM A.length w.heap.size w' v (sg na (val A / 2))∧Below w.heap.size w w':=by
 obtain ⟨i0,hi,hz0,hz1,hz2⟩:=info_parts Tryz.info84
 have hst:∀ (S:List Nat) (k d0 d1:Nat),k < S.length→A[k]?.getD 0 = d0→A[k+1]?.getD 0 = d1→val (S.take k) = (val A / (4294967296 ^ 0 * 2 ^ 1)) % 4294967296 ^ k→val ((S.set k (((d1 % 2 * 4294967296+d0) / 2) % 4294967296)).take (k+1)) = (val A / (4294967296 ^ 0 * 2 ^ 1)) % 4294967296 ^ (k+1):=by
  intro S k d0 d1 h1 h2 h3 h4
  rw [half_limb]
  exact down_step A S hA.2.1 k 0 1 d0 d1 (by omega) h1 h2 h3 h4
 have hen:∀ (S:List Nat),S.length = A.length→val (S.take S.length) = (val A / (4294967296 ^ 0 * 2 ^ 1)) % 4294967296 ^ S.length→sval na S = sg na (val A / 2):=by
  intro S h1 h2
  have:=down_end A S hA.2.1 0 1 (by omega) h2
  rw [sval_sg,this]
 have HST:=hide hst
 have HEN:=hide hen
 clear hst hen
 generalize sg na (val A / 2) = z at *
 go_enter Tryz.func67,Tryz.ntmps67
 go_wp2_with (at_make;refine wpList_make_full _ rfl _ _ 31 rfl (w.heap.size+2) 84 i0 (.int .u32 0) 1 Tryz.underlying31 hi hz0 hz1 .i64 .i64 _ _ A.length rfl rfl (by omega) (by omega) (by rw [hz2];omega) (by unfold maxLen;omega) (by simp) ?_;intro w1 hown hgrow)
 have hrow0:=RowAt.made hown
 have hrow:RowAt w1 (w.heap.size+1+1) (List.replicate A.length 0):=by simpa using hrow0
 clear hrow0
 have hb0:Below w.heap.size w ((w.alloc (.cells #[.bool na,.slice ao A.length ca] 33)).alloc (.cells #[.bool false,.slice none 0 0] 33)):=((Below.refl _ _).alloc (Nat.le_refl _) _).alloc (by simp) _
 have hb1:Below w.heap.size w w1:=hb0.grown hgrow (by simp;omega) (fun k h=>by simp at h)
 have x0:Box2 w1 w.heap.size (.bool na) (.slice ao A.length ca):=(hgrow.block w.heap.size (by simp;omega) (by simp)).trans ((Box2.new _ _ _).old _)
 have x1:Box2 w1 (w.heap.size+1) (.bool false) (.slice none 0 0):=by
  have h:=Box2.new (w.alloc (.cells #[.bool na,.slice ao A.length ca] 33)) (.bool false) (.slice none 0 0)
  have h':Box2 ((w.alloc (.cells #[.bool na,.slice ao A.length ca] 33)).alloc (.cells #[.bool false,.slice none 0 0] 33)) (w.heap.size+1) (.bool false) (.slice none 0 0):=by simpa using h
  exact (hgrow.block (w.heap.size+1) (by simp) (by simp)).trans h'
 clear hown hgrow hb0
 go_loopw [4] (fun c wr=>∃ (i:Nat) (S:List Nat),i≤A.length∧c = .int .i64 i∧RowAt wr (w.heap.size+1+1) S∧Box2 wr w.heap.size (.bool na) (.slice ao A.length ca)∧Box2 wr (w.heap.size+1) (.bool false) (.slice none 0 0)∧S.length = A.length∧Fits S∧Below w.heap.size w wr∧Hid (val (S.take i) = (val A / (4294967296 ^ 0 * 2 ^ 1)) % 4294967296 ^ i))
  (fun c _=>A.length - (intOf c).toNat)
 case atStart=>exact ⟨0,List.replicate A.length 0,Nat.zero_le _,rfl,hrow,x0,x1,by simp,Fits.zeros _,hb1,by unfold Hid;simp [val,Nat.mod_one]⟩
 case round =>
  obtain ⟨i,S,hi1,rfl,hr',z0,z1,hsl,hf,hbel,hv⟩:=hrel
  have p0:=z0.c0;have p1:=z0.c1
  by_cases hlt:i < A.length
  ·obtain ⟨d0,hd0⟩:∃ x,A[i]?.getD 0 = x:=⟨_,rfl⟩
   obtain ⟨d1,hd1⟩:∃ x,A[i+1]?.getD 0 = x:=⟨_,rfl⟩
   have b0:d0 < 4294967296:=by rw [← hd0];exact hA.lt _
   have b1':d1 < 4294967296:=by rw [← hd1];exact hA.lt _
   have cA:=(hA.below hbel).below ((Below.refl _ _).drew)
   have dS:=hr'.cell i (by omega)
   have fS:=hr'.free i
   generalize hsi:S[i]?.getD 0 = s at *
   have HST1:=hide (uH HST S i d0 d1 (by omega) hd0 hd1 hv.out)
   have HD0:=hide hd0
   have HD1:=hide hd1
   have HR:=hide hr';have Z0:=hide z0;have Z1:=hide z1;have BEL:=hide hbel;have CA:=hide cA
   clear hd0 hd1 hr' hv hsi HST HEN x0 x1 hrow hb1 z0 z1 hbel cA hA
   have hltI:(i:Int) < (A.length:Int):=by omega
   have hwi:IntKind.i64.wrap ((i:Int)+1) = (i:Int)+1:=by
    simp only [IntKind.wrap,IntKind.signed,IntKind.bits]
    simp
    omega
   have hK:∀ w',w' = wr.drew ∨ (∃ u,w' = (wr.drew).setCell ⟨w.heap.size+1+1,i,none⟩ u)→(w' = wr.drew ∨ (∃ u,w' = (wr.drew).setCell ⟨w.heap.size+1+1,i,none⟩ u))∧w'.cell? ⟨w.heap.size,1,none⟩ = some (.slice ao A.length ca):=fun w' h=>by
    refine ⟨h,?_⟩
    rcases h with rfl | ⟨u,rfl⟩
    ·exact (uH Z0).drew.c1
    ·exact ((uH Z0).drew.other (by simp;omega) u).c1
   have HK:=hide hK
   clear hK
   go_wp2
   go_region_held3 (fun w'=>(w' = wr.drew ∨ (∃ u,w' = (wr.drew).setCell ⟨w.heap.size+1+1,i,none⟩ u))∧w'.cell? ⟨w.heap.size,1,none⟩ = some (.slice ao A.length ca))
    (first | exact uH HK _ (.inl rfl) | exact uH HK _ (.inr ⟨_,rfl⟩))
    (first | (go_at_call 126;have hq:=HD1;clear HD1;refine (limb_x ao ca A _ (i+1) d1 _ (uH CA) (by omega) (by omega) hq).mono ?_;rintro e w' ⟨rfl,rfl⟩;clear hq) | (go_at_call 126;refine (limb_x ao ca A _ i d0 _ (uH CA) (by omega) rfl HD0).mono ?_;rintro e w' ⟨rfl,rfl⟩))
   have r1:=(uH HR).set i (((d1 % 2 * 4294967296+d0) / 2) % 4294967296)
   rw [show (((d1 % 2 * 4294967296+d0) / 2 % 4294967296:Nat):Int) = ((d1:Int) % 2 * 4294967296+(d0:Int)) / 2 by omega] at r1
   have hmod:((d1 % 2 * 4294967296+d0) / 2) % 4294967296 < 4294967296:=Nat.mod_lt _ (by decide)
   have R1:=hide r1
   have HM:=hide hmod
   clear r1 hmod
   go_wp2
   go_roundw
   case rel=>exact ⟨i+1,S.set i (((d1 % 2 * 4294967296+d0) / 2) % 4294967296),by omega,by go_num,(uH R1:_),(uH Z0).other (by simp;omega) _,(uH Z1).other (by simp) _,by simpa using hsl,hf.set _ _ (uH HM),((uH BEL).setCell (by simp;omega) _).drew,uH HST1⟩
   case measure=>simp [intOf];omega
  ·have hii:i = A.length:=by omega
   have hv':=uH HEN S hsl (by rw [hsl,← hii];exact hv.out)
   have HR:=hide (hr'.limbs hf A.length (by omega))
   have HV:=hide hv'
   have Z1:=hide z1
   have BEL:=hide hbel
   have hgt:¬ (i:Int) < (A.length:Int):=by omega
   have HL:=hide hsl
   have zlt:=z1.lt
   have rlt:=hr'.lt
   clear hv' hv hr' HST HEN x0 x1 hrow hb1 z1 hbel hA z0
   go_wp2_with fail
   have hN:NewAt (w.heap.size+1+1) (some ⟨w.heap.size+1+1,0,none⟩) S:=.inr ⟨_,_,rfl,Nat.le_refl _⟩
   have hcall:=made_any (w.heap.size+1+1) na (some ⟨w.heap.size+1+1,0,none⟩) A.length S wr (uH HR) hN (by omega)
   rw [uH HV,uH HL] at hcall
   refine hcall.mono ?_
   rintro e w2 ⟨v,rfl,⟨n2,a2,c2,L2,rfl,i1⟩,hb2⟩
   have X4:=(uH Z1).below hb2 (uH Z1).lt
   have y0:=X4.c0;have y1:=X4.c1;have f0:=X4.free 0;have f1:=X4.free 1
   have HB2:=hide ((uH BEL).trans (hb2.mono (by omega)))
   have I1:=hide i1
   clear hcall X4 hb2 i1 hN
   go_wp2
   refine bodyPost_ret (v:=.agg #[.bool n2,.slice a2 L2.length c2]) (by simp [results,Tryz.results67,go_sem,y0,y1]) rfl ⟨.agg #[.bool n2,.slice a2 L2.length c2],rfl,?_,?_⟩
   ·exact IsNumM.stored (uH I1) (by simp) (by simp) (by omega) _ _
   ·exact ((uH HB2).setCell (by simp) _).setCell (by simp) _
end Go.Proofs.YtcbcmlaogehimaaGreatDoor
namespace Go.Proofs.YtcbcmlaogehimaaGreatDoor
open Go.RowKit
theorem bits_nat (a b:Int):∃ y:Nat,y < 4294967296∧bits BinOp.xor IntKind.u32 a b = (y:Int):=by
 refine ⟨(bits BinOp.xor IntKind.u32 a b).toNat,?_,?_⟩
 all_goals
  have h:0≤bits BinOp.xor IntKind.u32 a b∧bits BinOp.xor IntKind.u32 a b < 4294967296:=by
   simp only [bits,IntKind.wrap,IntKind.signed,IntKind.bits]
   simp
   omega
  omega
end Go.Proofs.YtcbcmlaogehimaaGreatDoor
namespace Go.Proofs.YtcbcmlaogehimaaGreatDoor
open Go.RowKit
theorem own_at {w:World} {base g n c:Nat} {S:List Nat} (h:w.ownsRow base 84 1 (.slice (some ⟨g,0,none⟩) n c) n (S.map limbV)) (hf:Fits S):LimbsAt w (some ⟨g,0,none⟩) c S∧S.length = n∧base≤g∧g < w.heap.size:=by
 obtain ⟨ao,cap,e1,e2,e3,e4⟩:=own_limbs h hf
 simp only [Value.slice.injEq] at e1
 obtain ⟨rfl,_,rfl⟩:=e1
 exact ⟨e2,e4,h.lt g rfl⟩
end Go.Proofs.YtcbcmlaogehimaaGreatDoor
namespace Go.Proofs.YtcbcmlaogehimaaGreatDoor
open Go.RowKit
def shF (v:Nat) (m:Int):Nat:=if 0≤m then v * 2 ^ m.toNat else v / 2 ^ (-m).toNat
theorem shV_shF (neg:Bool) (L:List Nat) (n:Int):shV neg L n = sg neg (shF (val L) n):=rfl
theorem shF_zero (m:Int):shF 0 m = 0:=by unfold shF;split <;> simp
theorem shF_end (v:Nat):shF v 0 = v:=by unfold shF;simp
theorem shF_up32 (v:Nat) (m:Int) (h:32≤m):shF (4294967296 * v) (m - 32) = shF v m:=by
 unfold shF
 rw [if_pos (by omega),if_pos (by omega),show m.toNat = 32+(m - 32).toNat by omega,Nat.pow_add,← Nat.mul_assoc,Nat.mul_comm v,show (2:Nat) ^ 32 = 4294967296 from rfl]
theorem shF_up1 (v:Nat) (m:Int) (h:1≤m):shF (v+v) (m - 1) = shF v m:=by
 unfold shF
 rw [if_pos (by omega),if_pos (by omega),show m.toNat = 1+(m - 1).toNat by omega,Nat.pow_add,← Nat.mul_assoc,show v * 2 ^ 1 = v+v by omega]
theorem shF_dn32 (v:Nat) (m:Int) (h:m≤-32):shF (v / 4294967296) (m+32) = shF v m:=by
 unfold shF
 rw [if_neg (show ¬ 0≤m by omega),show (-m).toNat = 32+(-(m+32)).toNat by omega,Nat.pow_add,← Nat.div_div_eq_div_mul,show (2:Nat) ^ 32 = 4294967296 from rfl]
 by_cases h0:0≤m+32
 ·rw [if_pos h0,show (m+32).toNat = 0 by omega,show (-(m+32)).toNat = 0 by omega];simp
 ·rw [if_neg h0]
theorem shF_dn1 (v:Nat) (m:Int) (h:m≤-1):shF (v / 2) (m+1) = shF v m:=by
 unfold shF
 rw [if_neg (show ¬ 0≤m by omega),show (-m).toNat = 1+(-(m+1)).toNat by omega,Nat.pow_add,← Nat.div_div_eq_div_mul,show (2:Nat) ^ 1 = 2 from rfl]
 by_cases h0:0≤m+1
 ·rw [if_pos h0,show (m+1).toNat = 0 by omega,show (-(m+1)).toNat = 0 by omega];simp
 ·rw [if_neg h0]
theorem sg_sign (nn:Bool) (v:Nat) (m:Int):sg (decide (sg nn v < 0)) (shF v m) = sg nn (shF v m):=by
 by_cases hv:v = 0
 ·subst hv;rw [shF_zero];unfold sg;simp
 ·have:decide (sg nn v < 0) = nn:=by unfold sg;cases nn <;> simp <;> omega
  rw [this]
theorem natAbs_sg (nn:Bool) (v:Nat):(sg nn v).natAbs = v:=by unfold sg;cases nn <;> simp
def ShI (w wr:World) (z m:Int) (nn:Bool) (a:Option Addr) (c:Nat) (L:List Nat):Prop :=
 Box2 wr w.heap.size (.bool nn) (.slice a L.length c)∧Box2 wr (w.heap.size+1) (.bool false) (.slice none 0 0)∧LimbsAt wr a c L∧Canon L∧(nn = true→L ≠ [])∧L.length+m.toNat≤20000∧sg nn (shF (val L) m) = z∧Below w.heap.size w wr
theorem Box2.put {w:World} {b:Nat} {x y:Value} (h:Box2 w b x y) (u u':Value):Box2 ((w.setCell ⟨b,0,none⟩ u).setCell ⟨b,1,none⟩ u') b u u':=by
 have h1:=heap_setCell_same w b 0 _ _ u h
 have h2:=heap_setCell_same (w.setCell ⟨b,0,none⟩ u) b 1 _ _ u' h1
 unfold Box2
 rw [h2]
 simp
theorem ShI.step {w w2:World} {z m x:Int} {nn n0 n':Bool} {a0 a':Option Addr} {l0 c0 c' v M B:Nat} {L':List Nat}
  (hb:Box2 w2 w.heap.size (.bool n0) (.slice a0 l0 c0)) (hr:Box2 w2 (w.heap.size+1) (.bool false) (.slice none 0 0))
  (i:LimbsAt w2 a' c' L'∧NewAt B a' L'∧Canon L'∧n' = decide (x < 0)∧val L' = x.natAbs∧L'.length≤M) (hx:x = sg nn v) (hz:sg nn (shF v m) = z) (hl:M+m.toNat≤20000) (hbel:Below w.heap.size w w2) :
  ShI w ((w2.setCell ⟨w.heap.size,0,none⟩ (.bool n')).setCell ⟨w.heap.size,1,none⟩ (.slice a' L'.length c')) z m n' a' c' L':=by
 obtain ⟨i1,i2,i3,i4,i5,i6⟩:=i
 subst hx
 rw [natAbs_sg] at i5
 refine ⟨hb.put _ _,(hr.other (by simp) _).other (by simp) _,i1.box hb _ _,i3,?_,by omega,?_,(hbel.setCell (by simp) _).setCell (by simp) _⟩
 ·rintro e rfl
  rw [e] at i4
  simp [val] at i5
  have:=of_decide_eq_true i4.symm
  rw [← i5] at this
  unfold sg at this
  simp at this
 ·rw [i4,i5,sg_sign];exact hz
theorem ShI.last {w wr:World} {z m:Int} {nn:Bool} {a:Option Addr} {c:Nat} {L:List Nat} (h:ShI w wr z m nn a c L) (he:m = 0 ∨ L = []):IsNum 0 wr (.agg #[.bool nn,.slice a L.length c]) z:=by
 obtain ⟨h1,h2,h3,h4,h5,h6,h7,h8⟩:=h
 by_cases h0:L = []
 ·subst h0
  have:nn = false:=by cases nn <;> simp_all
  subst this
  simp only [val,shF_zero] at h7
  rw [← h7]
  exact IsNum.zero _ _ _ _
 ·rcases he with rfl | he
  ·rw [shF_end] at h7
   rw [← h7,← sval_sg]
   exact IsNum.mk h3 (NewAt.zero h3) h4 h0 (by omega)
  ·exact absurd he h0
theorem LimbsAt.drop1 {w:World} {b off c:Nat} {L:List Nat} (h:LimbsAt w (some ⟨b,off,none⟩) c L):LimbsAt w (some ⟨b,off+1,none⟩) (c - 1) (L.drop 1):=by
 refine ⟨by have:=h.1;simp;omega,fun x hx=>h.2.1 x (List.mem_of_mem_drop hx),?_⟩
 rcases h.2.2 with h0 | ⟨b',off',h1,h2,h3⟩
 ·left;simp [h0]
 ·simp only [Option.some.injEq,Addr.mk.injEq,and_true] at h1
  obtain ⟨rfl,rfl⟩:=h1
  refine .inr ⟨b,off+1,rfl,h2,fun i hi=>?_⟩
  simp at hi
  have:=h3 (i+1) (by omega)
  rw [show off+1+i = off+(i+1) by omega,this,List.getElem?_drop,Nat.add_comm 1 i]
theorem made_drop (neg:Bool) (b off c:Nat) (L:List Nat) (w:World) (h:LimbsAt w (some ⟨b,off,none⟩) c L) (hl:L.length≤30000) :
  Calls Tryz.prog 65 #[.bool neg,.slice (some ⟨b,off+1,none⟩) (L.length - 1) (c - 1)] w fun e w'=>∃ v,e = .returned v∧IsNumM L.length 0 w' v (sg neg (val L / 4294967296))∧Below w.heap.size w w':=by
 have:=made_any 0 neg _ _ (L.drop 1) w h.drop1 (NewAt.zero h.drop1) (by simp;omega)
 rw [sval_sg,val_drop L h.2.1 1] at this
 simp only [List.length_drop,Nat.pow_one] at this
 exact this.mono fun e w' ⟨v,h1,h2,h3⟩=>⟨v,h1,h2.more (by omega),h3⟩
theorem made_drop1 (neg:Bool) (b off:Nat) (L:List Nat) (w:World) (h:LimbsAt w (some ⟨b,off,none⟩) 1 L) :
  Calls Tryz.prog 65 #[.bool neg,.slice (some ⟨b,off,none⟩) 0 0] w fun e w'=>∃ v,e = .returned v∧IsNumM L.length 0 w' v (sg neg (val L / 4294967296))∧Below w.heap.size w w':=by
 have:=made_any 0 neg (some ⟨b,off,none⟩) 0 [] w (LimbsAt.nil _ _ _) (.inl rfl) (by simp)
 have hv:val L / 4294967296 = 0:=by
  have h1:=val_lt L h.2.1
  have h2:=Nat.pow_le_pow_right (n:=4294967296) (by decide) h.1
  exact Nat.div_eq_of_lt (by omega)
 rw [hv]
 rw [sval_sg] at this
 exact this.mono fun e w' ⟨v,h1,h2,h3⟩=>⟨v,h1,h2.more (by simp),h3⟩
theorem zero_limbs (L:List Nat):val (0 :: L) = 4294967296 * val L:=by simp [val]
end Go.Proofs.YtcbcmlaogehimaaGreatDoor
namespace Go.Proofs.YtcbcmlaogehimaaGreatDoor
open Go.RowKit
attribute [local go_sem ↓] Go.wp_at_zero Go.wp_at_succ
theorem own_one (W:World) (base g:Nat) (hs:W.heap.size = g) (hb:base≤g):((W.alloc (.cells #[.int .u32 0] 84)).drew).ownsRow base 84 1 (.slice (some ⟨g,0,none⟩) 1 1) 1 [.int .u32 0]:=by
 subst hs
 exact ⟨by simp,.inr ⟨W.heap.size,1,#[.int .u32 0],rfl,hb,heap_alloc_new W _,Nat.le_refl _,by simp [maxLen],by simp,by simp⟩⟩
theorem made_own (neg:Bool) (g n c base:Nat) (S:List Nat) (w:World) (h:w.ownsRow base 84 1 (.slice (some ⟨g,0,none⟩) n c) n (S.map limbV)) (hf:Fits S) (hl:n≤35184372088832) :
  Calls Tryz.prog 65 #[.bool neg,.slice (some ⟨g,0,none⟩) n c] w fun e w'=>∃ v,e = .returned v∧IsNumM n base w' v (sval neg S)∧Below w.heap.size w w':=by
 obtain ⟨h1,h2,h3,h4⟩:=own_at h hf
 have:=made_any base neg (some ⟨g,0,none⟩) c S w h1 (.inr ⟨g,0,rfl,h3⟩) (by omega)
 rw [h2] at this
 exact this
theorem ne_of_val {L:List Nat} (h:val L ≠ 0):L ≠ []:=by
 rintro rfl
 simp [val] at h
theorem refShift_some (na:Bool) (ao:Option Addr) (ca:Nat) (A:List Nat) (n:Int) (w:World) (hA:LimbsAt w ao ca A) (h0:A ≠ []) (hc:Canon A) (la:A.length≤3000) (hn:-16384≤n∧n≤16384) :
  Calls Tryz.prog 111 #[.agg #[.bool na,.slice ao A.length ca],.int .i64 n] w fun e w'=>∃ v,e = .returned v∧IsNum 0 w' v (shV na A n)∧Below w.heap.size w w':=by
 obtain ⟨i0,hi,hz0,hz1,hz2⟩:=info_parts Tryz.info84
 have HZ:=hide (shV_shF na A n).symm
 generalize shV na A n = z at *
 have HH0:=hide h0;have HC:=hide hc
 clear h0 hc
 go_enter Tryz.func111,Tryz.ntmps111
 go_wp2
 go_loopw [1] (fun i wr=>∃ (m:Int) (nn:Bool) (a:Option Addr) (c:Nat) (L:List Nat),i = .int .i64 m∧-16384≤m∧m≤16384∧L ≠ []∧Hid (ShI w wr z m nn a c L)) (fun i _=>(intOf i).toNat)
 case atStart =>
  refine ⟨n,na,ao,ca,A,rfl,hn.1,hn.2,uH HH0,(Box2.new _ _ _).old _,?_,hA.below (((Below.refl _ _).alloc (Nat.le_refl _) _).alloc (by simp) _),uH HC,fun _=>uH HH0,by omega,uH HZ,((Below.refl _ _).alloc (Nat.le_refl _) _).alloc (by simp) _⟩
  have:=Box2.new (w.alloc (.cells #[.bool na,.slice ao A.length ca] 33)) (.bool false) (.slice none 0 0)
  simpa using this
 case round =>
  obtain ⟨m,nn,a,c,L,rfl,hm1,hm2,hne,hI⟩:=hrel
  clear HZ HC HH0 hA la hn
  obtain ⟨x0,x1,hL,hC,hS,hlen,hz,hbel⟩:=uH hI
  have hp:0 < L.length:=List.length_pos_iff.2 hne
  have hpI:(0:Int) < (L.length:Int):=by omega
  have p0:=x0.c0;have p1:=x0.c1
  have HV:Hid (val L ≠ 0):=fun e=>hne ((val_zero_of_canon L hC).1 e)
  by_cases hg:32≤m
  ·obtain ⟨b,off,rfl,hb,hcl⟩:=hL.ne hp
   have hz':=hz
   rw [← shF_up32 _ _ hg] at hz'
   have HZ2:=hide hz'
   have zlt:=x0.lt
   have zlt1:=x1.lt
   have hN:∀ j u,(L.map limbV)[j]? = some u→((wr.alloc (.cells #[.int .u32 0] 84)).drew).cell? ((⟨b,off,none⟩:Addr).add j) = some u:=by
    intro j u hu
    rw [List.getElem?_map] at hu
    have hj:j < L.length:=by
     rcases Nat.lt_or_ge j L.length with e | e
     ·exact e
     ·rw [List.getElem?_eq_none e] at hu;simp at hu
    have e3:(⟨b,off,none⟩:Addr).add j = ⟨b,off+j,none⟩:=by simp [Addr.add]
    rw [e3,((((Below.refl wr.heap.size wr).alloc (Nat.le_refl _) _).drew).cell (p:=⟨b,off+j,none⟩) hb),hcl j hj]
    rw [List.getElem?_eq_getElem hj] at hu ⊢
    simpa [limbV] using hu
   have hone:∀ u ∈ L.map limbV,u.oneCell' = true:=by
    intro u hu
    obtain ⟨y,_,rfl⟩:=List.mem_map.1 hu
    rfl
   have HF:Hid (Fits (0 :: L)):=by
    intro y hy
    rcases List.mem_cons.1 hy with rfl | hy
    ·decide
    ·exact hL.2.1 y hy
   have HN:=hide hN;have HONE:=hide hone;have BEL:=hide hbel;have X0:=hide x0;have X1:=hide x1;have HLEN:=hide hlen
   clear hz hz' hN hone x0 x1 hL hC hS hbel hI hcl
   have ll:L.length≤20000:=by have:=uH HLEN;omega
   clear hlen
   go_wp2
   go_region_law (first | (refine step_append_lies _ (by rfl) _ _ _ (by rfl) wr.heap.size 84 i0 (.int .u32 0) 1 4 Tryz.underlying31 hi hz0 hz1 hz2 rfl (by omega) (.slice (some ⟨wr.heap.size,0,none⟩) 1 1) 1 [.int .u32 0] (by rfl) (own_one wr wr.heap.size wr.heap.size rfl (Nat.le_refl _)) ⟨b,off,none⟩ L.length c (L.map limbV) (by rfl) (by simp) (uH HN) (uH HONE) hp (by unfold maxLen;omega) (by omega) (by simp) (wr.heap.size+1) (by simp) ?_;intro g cp w1 hown1 hgrow hat hlt;have y0:Box2 w1 w.heap.size (.bool nn) (.slice (some ⟨b,off,none⟩) L.length c):=(hgrow.block w.heap.size (by simp;omega) (by simp [Value.ownBlock];omega)).trans (((uH X0).old _).drew);have y1:Box2 w1 (w.heap.size+1) (.bool false) (.slice none 0 0):=(hgrow.block (w.heap.size+1) (by simp;omega) (by simp [Value.ownBlock];omega)).trans (((uH X1).old _).drew);have q0:=y0.c0;have q1:=y0.c1;have Y0:=hide y0;have Y1:=hide y1;have B1:=hide ((((uH BEL).alloc (by omega) _).drew).grown hgrow (by simp;omega) (fun k hk=>by simp [Value.ownBlock] at hk;omega));have OWN1:=hide hown1;clear hown1 hgrow hat y0 y1) | (go_simp;go_at_call 65;refine (made_own nn g (1+L.length) cp _ (0 :: L) _ (uH OWN1) (uH HF) (by omega)).mono ?_;rintro e w2 ⟨v,rfl,⟨n2,a2,c2,L2,rfl,i1⟩,hb2⟩;have I1:=hide i1;have Z0:=(uH Y0).below hb2 (uH Y0).lt;have Z1:=(uH Y1).below hb2 (uH Y1).lt;have r0:=Z0.c0;have r1:=Z0.c1;have f0:=Z0.free 0;have f1:=Z0.free 1;have B2:=hide ((uH B1).trans (hb2.mono (uH B1).size));have ZZ0:=hide Z0;have ZZ1:=hide Z1;clear i1 hb2 Z0 Z1))
   all_goals
    go_wp2
    go_roundw
    case rel =>
     refine ⟨m - 32,n2,a2,c2,L2,by go_num,by omega,by omega,ne_of_val ?_,ShI.step (v:=4294967296 * val L) (uH ZZ0) (uH ZZ1) (uH I1) (by rw [sval_sg,zero_limbs]) (uH HZ2) (by have:=uH HLEN;omega) (uH B2)⟩
     have h5:=(uH I1).2.2.2.2.1
     rw [natAbs_sval,zero_limbs] at h5
     have:=uH HV
     omega
    case measure=>simp [intOf];omega
  ·have HI:=hI
   have hgI:¬ (32:Int)≤m:=by omega
   clear hI x0 x1 hL hC hS hlen hz hbel
   go_wp2
   go_loopw [1] (fun i wr=>∃ (m:Int) (nn:Bool) (a:Option Addr) (c:Nat) (L:List Nat),i = .int .i64 m∧-16384≤m∧m≤31∧L ≠ []∧Hid (ShI w wr z m nn a c L)) (fun i _=>(intOf i).toNat)
   case atStart=>exact ⟨m,nn,a,c,L,rfl,by omega,by omega,hne,HI⟩
   case round =>
    clear HI HV p0 p1 hpI hp hne hgI hg hm1 hm2
    obtain ⟨m,nn,a,c,L,rfl,hm1,hm2,hne,hI⟩:=hrel
    obtain ⟨x0,x1,hL,hC,hS,hlen,hz,hbel⟩:=uH hI
    have hp:0 < L.length:=List.length_pos_iff.2 hne
    have hpI:(0:Int) < (L.length:Int):=by omega
    have p0:=x0.c0;have p1:=x0.c1
    by_cases hg:0 < m
    ·have HV:Hid (val L ≠ 0):=fun e=>hne ((val_zero_of_canon L hC).1 e)
     have hz':=hz
     rw [← shF_up1 _ _ (by omega)] at hz'
     have HZ2:=hide hz'
     have BEL:=hide hbel;have X0:=hide x0;have X1:=hide x1;have HLEN:=hide hlen;have HLL:=hide hL
     clear hz hz' x0 x1 hL hC hS hbel hI hlen
     go_wp2_with fail
     refine (double_any nn a c L wr (uH HLL) (by have:=uH HLEN;omega)).mono ?_
     rintro e w2 ⟨v,rfl,⟨n2,a2,c2,L2,rfl,i1⟩,hb2⟩
     have I1:=hide i1
     have Z0:=(uH X0).below hb2 (uH X0).lt
     have Z1:=(uH X1).below hb2 (uH X1).lt
     have r0:=Z0.c0;have r1:=Z0.c1;have f0:=Z0.free 0;have f1:=Z0.free 1
     have B2:=hide ((uH BEL).trans (hb2.mono (uH BEL).size))
     have ZZ0:=hide Z0;have ZZ1:=hide Z1
     clear i1 hb2 Z0 Z1
     go_wp2
     go_roundw
     case rel =>
      refine ⟨m - 1,n2,a2,c2,L2,by go_num,by omega,by omega,ne_of_val ?_,ShI.step (v:=val L+val L) (uH ZZ0) (uH ZZ1) (uH I1) rfl (uH HZ2) (by have:=uH HLEN;omega) (uH B2)⟩
      have h5:=(uH I1).2.2.2.2.1
      rw [natAbs_sg] at h5
      have:=uH HV
      omega
     case measure=>simp [intOf];omega
    ·have HI:=hI
     clear hI x0 x1 hL hC hS hlen hz hbel
     go_wp2
     go_loopw [1] (fun i wr=>∃ (m:Int) (nn:Bool) (a:Option Addr) (c:Nat) (L:List Nat),i = .int .i64 m∧-16384≤m∧m≤0∧Hid (ShI w wr z m nn a c L)) (fun i _=>(-(intOf i)).toNat)
     case atStart=>exact ⟨m,nn,a,c,L,rfl,by omega,by omega,HI⟩
     case round =>
      clear HI p0 p1 hpI hp hne hg hm1 hm2
      obtain ⟨m,nn,a,c,L,rfl,hm1,hm2,hI⟩:=hrel
      obtain ⟨x0,x1,hL,hC,hS,hlen,hz,hbel⟩:=uH hI
      have p0:=x0.c0;have p1:=x0.c1
      by_cases hgp:m≤-32∧0 < L.length
      ·obtain ⟨hg,hp⟩:=hgp
       ·have hpI:(0:Int) < (L.length:Int):=by omega
        have hcap:=hL.1
        obtain ⟨b,off,rfl,hb,hcl⟩:=hL.ne hp
        have hz':=hz
        rw [← shF_dn32 _ _ hg] at hz'
        have HZ2:=hide hz'
        have BEL:=hide hbel;have X0:=hide x0;have X1:=hide x1;have HLEN:=hide hlen;have HLL:=hide (hL.below ((Below.refl _ _).drew))
        clear hz hz' x0 x1 hL hC hS hbel hI hlen hcl
        go_wp2
        have h1I:(1:Int)≤(L.length:Int):=by omega
        have h2I:(L.length:Int)≤(c:Int):=by omega
        have h3I:(1:Int)≤(c:Int):=by omega
        by_cases hc1:c = 1
        ·subst hc1
         go_region_with (go_at_call 65;refine (made_drop1 nn b off L _ (uH HLL)).mono ?_;rintro e w2 ⟨v,rfl,⟨n2,a2,c2,L2,rfl,i1⟩,hb2⟩;have I1:=hide i1;have Z0:=(uH X0).drew.below hb2 (uH X0).drew.lt;have Z1:=(uH X1).drew.below hb2 (uH X1).drew.lt;have r0:=Z0.c0;have r1:=Z0.c1;have f0:=Z0.free 0;have f1:=Z0.free 1;have B2:=hide (((uH BEL).drew).trans (hb2.mono ((uH BEL).drew).size));have ZZ0:=hide Z0;have ZZ1:=hide Z1;clear i1 hb2 Z0 Z1)
         all_goals
          go_wp2
          go_roundw
          case rel=>exact ⟨m+32,n2,a2,c2,L2,by go_num,by omega,by omega,ShI.step (v:=val L / 4294967296) (uH ZZ0) (uH ZZ1) (uH I1) rfl (uH HZ2) (by have:=uH HLEN;omega) (uH B2)⟩
          case measure=>simp [intOf];omega
        ·have hc1I:¬ (c:Int) = 1:=by omega
         go_region_with (go_at_call 65;refine (made_drop nn b off c L _ (uH HLL) (by have:=uH HLEN;omega)).mono ?_;rintro e w2 ⟨v,rfl,⟨n2,a2,c2,L2,rfl,i1⟩,hb2⟩;have I1:=hide i1;have Z0:=(uH X0).drew.below hb2 (uH X0).drew.lt;have Z1:=(uH X1).drew.below hb2 (uH X1).drew.lt;have r0:=Z0.c0;have r1:=Z0.c1;have f0:=Z0.free 0;have f1:=Z0.free 1;have B2:=hide (((uH BEL).drew).trans (hb2.mono ((uH BEL).drew).size));have ZZ0:=hide Z0;have ZZ1:=hide Z1;clear i1 hb2 Z0 Z1)
         all_goals
          go_wp2
          go_roundw
          case rel=>exact ⟨m+32,n2,a2,c2,L2,by go_num,by omega,by omega,ShI.step (v:=val L / 4294967296) (uH ZZ0) (uH ZZ1) (uH I1) rfl (uH HZ2) (by have:=uH HLEN;omega) (uH B2)⟩
          case measure=>simp [intOf];omega
      ·have HI:=hI
       rcases (show (m≤-32∧¬ (0:Int) < (L.length:Int)) ∨ ¬ m≤-32 by omega) with ⟨hg,hp⟩ | hg
       all_goals
        clear hI x0 x1 hL hC hS hlen hz hbel hgp
        go_wp2
        go_loopw [1] (fun i wr=>∃ (m:Int) (nn:Bool) (a:Option Addr) (c:Nat) (L:List Nat),i = .int .i64 m∧-16384≤m∧m≤0∧Hid (ShI w wr z m nn a c L)) (fun i _=>(-(intOf i)).toNat)
        case atStart=>exact ⟨m,nn,a,c,L,rfl,by omega,by omega,HI⟩
        case round =>
         clear HI p0 p1 hg hm1 hm2
         obtain ⟨m,nn,a,c,L,rfl,hm1,hm2,hI⟩:=hrel
         obtain ⟨x0,x1,hL,hC,hS,hlen,hz,hbel⟩:=uH hI
         have p0:=x0.c0;have p1:=x0.c1
         by_cases hgq:m < 0∧0 < L.length
         ·obtain ⟨hg,hp⟩:=hgq
          have hpI:(0:Int) < (L.length:Int):=by omega
          have hz':=hz
          rw [← shF_dn1 _ _ (by omega)] at hz'
          have HZ2:=hide hz'
          have BEL:=hide hbel;have X0:=hide x0;have X1:=hide x1;have HLEN:=hide hlen;have HLL:=hide hL
          clear hz hz' x0 x1 hL hC hS hbel hI hlen
          go_wp2_with fail
          refine (half_any nn a c L wr (uH HLL) (by have:=uH HLEN;omega)).mono ?_
          rintro e w2 ⟨v,rfl,⟨n2,a2,c2,L2,rfl,i1⟩,hb2⟩
          have I1:=hide i1
          have Z0:=(uH X0).below hb2 (uH X0).lt
          have Z1:=(uH X1).below hb2 (uH X1).lt
          have r0:=Z0.c0;have r1:=Z0.c1;have f0:=Z0.free 0;have f1:=Z0.free 1
          have B2:=hide ((uH BEL).trans (hb2.mono (uH BEL).size))
          have ZZ0:=hide Z0;have ZZ1:=hide Z1
          clear i1 hb2 Z0 Z1
          go_wp2
          go_roundw
          case rel=>exact ⟨m+1,n2,a2,c2,L2,by go_num,by omega,by omega,ShI.step (v:=val L / 2) (uH ZZ0) (uH ZZ1) (uH I1) rfl (uH HZ2) (by have:=uH HLEN;omega) (uH B2)⟩
          case measure=>simp [intOf];omega
         ·have hlast:=hI.out.last (by rcases Nat.eq_zero_or_pos L.length with e | e;(right;exact List.length_eq_zero_iff.1 e);(left;omega))
          have HLA:=hide hlast
          have X1:=hide x1;have BEL:=hide hbel;have HLL:=hide hL
          have y0:=x1.c0;have y1:=x1.c1;have f0:=x1.free 0;have f1:=x1.free 1
          rcases (show (m < 0∧¬ (0:Int) < (L.length:Int)) ∨ ¬ m < 0 by omega) with ⟨hg,hp⟩ | hg
          all_goals
           clear hI x0 x1 hL hC hS hlen hz hbel hgq hlast
           go_wp2
           refine bodyPost_ret (v:=.agg #[.bool nn,.slice a L.length c]) (by simp [results,Tryz.results111,go_sem,y0,y1]) rfl ⟨.agg #[.bool nn,.slice a L.length c],rfl,?_,?_⟩
           ·obtain ⟨neg,a',c',L',e1,e2,e3⟩:=uH HLA
            refine ⟨neg,a',c',L',e1,e2.box (uH X1) _ _,e3⟩
           ·exact ((uH BEL).setCell (by simp) _).setCell (by simp) _
end Go.Proofs.YtcbcmlaogehimaaGreatDoor
namespace Go.Proofs.YtcbcmlaogehimaaGreatDoor
open Go.RowKit
attribute [local go_sem ↓] Go.wp_at_zero Go.wp_at_succ
theorem refShift_none (ao:Option Addr) (ca:Nat) (n:Int) (w:World) :
  Calls Tryz.prog 111 #[.agg #[.bool false,.slice ao 0 ca],.int .i64 n] w fun e w'=>∃ v,e = .returned v∧IsNum 0 w' v 0∧Below w.heap.size w w':=by
 rcases (show (32≤n∧0 < n∧¬ n≤-32∧¬ n < 0) ∨ (¬ 32≤n∧0 < n∧¬ n≤-32∧¬ n < 0) ∨ (¬ 32≤n∧¬ 0 < n∧¬ n≤-32∧¬ n < 0) ∨ (¬ 32≤n∧¬ 0 < n∧¬ n≤-32∧n < 0) ∨ (¬ 32≤n∧¬ 0 < n∧n≤-32∧n < 0) by omega) with ⟨h1,h2,h3,h4⟩ | ⟨h1,h2,h3,h4⟩ | ⟨h1,h2,h3,h4⟩ | ⟨h1,h2,h3,h4⟩ | ⟨h1,h2,h3,h4⟩
 all_goals
  go_enter Tryz.func111,Tryz.ntmps111
  go_wp2
  go_loopw [1] (fun i wr=>i = .int .i64 n∧wr = (w.alloc (.cells #[.bool false,.slice ao 0 ca] 33)).alloc (.cells #[.bool false,.slice none 0 0] 33)) (fun _ _=>0)
  case atStart=>exact ⟨rfl,rfl⟩
  case round =>
   obtain ⟨rfl,rfl⟩:=hrel
   go_wp2
   go_loopw [1] (fun i wr=>i = .int .i64 n∧wr = (w.alloc (.cells #[.bool false,.slice ao 0 ca] 33)).alloc (.cells #[.bool false,.slice none 0 0] 33)) (fun _ _=>0)
   case atStart=>exact ⟨rfl,rfl⟩
   case round =>
    obtain ⟨rfl,rfl⟩:=hrel
    go_wp2
    go_loopw [1] (fun i wr=>i = .int .i64 n∧wr = (w.alloc (.cells #[.bool false,.slice ao 0 ca] 33)).alloc (.cells #[.bool false,.slice none 0 0] 33)) (fun _ _=>0)
    case atStart=>exact ⟨rfl,rfl⟩
    case round =>
     obtain ⟨rfl,rfl⟩:=hrel
     go_wp2
     go_loopw [1] (fun i wr=>i = .int .i64 n∧wr = (w.alloc (.cells #[.bool false,.slice ao 0 ca] 33)).alloc (.cells #[.bool false,.slice none 0 0] 33)) (fun _ _=>0)
     case atStart=>exact ⟨rfl,rfl⟩
     case round =>
      obtain ⟨rfl,rfl⟩:=hrel
      go_wp2
      refine bodyPost_ret (v:=.agg #[.bool false,.slice ao 0 ca]) (by simp [results,Tryz.results111,go_sem]) rfl ⟨.agg #[.bool false,.slice ao 0 ca],rfl,IsNum.zero _ _ _ _,?_⟩
      exact ((Below.refl _ _).alloc (Nat.le_refl _) _).alloc (by simp) _
theorem refShift_any (na:Bool) (ao:Option Addr) (ca:Nat) (A:List Nat) (n:Int) (w:World) (hA:LimbsAt w ao ca A) (hr:rightB na A = true) (hn:-16384≤n∧n≤16384) :
  Calls Tryz.prog 111 #[.agg #[.bool na,.slice ao A.length ca],.int .i64 n] w fun e w'=>∃ v,e = .returned v∧IsNum 0 w' v (shV na A n)∧Below w.heap.size w w':=by
 have hc:=right_canon hr
 by_cases h0:A = []
 ·subst h0
  have:na = false:=by cases na <;> simp_all
  subst this
  have e:shV false [] n = 0:=by rw [shV_shF];simp [val,shF_zero,sg]
  rw [e]
  exact refShift_none ao ca n w
 ·exact refShift_some na ao ca A n w hA h0 hc.2.1 (by omega) hn
end Go.Proofs.YtcbcmlaogehimaaGreatDoor
