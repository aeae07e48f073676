/- Part 9 of the texts. -/
import Derived.Test.YtlnphkioddknfaaGreatDoorPartq06
import Derived.Test.YtlnphkioddknfaaGreatDoorPartq05
import Derived.Test.YtlnphkioddknfaaGreatDoorPartq07
import Derived.Test.YtlnphkioddknfaaGreatDoorPartq08
import Derived.RegionTactic
import Derived.BigRegion
set_option maxHeartbeats 1000000
namespace Go.Proofs.YtlnphkioddknfaaGreatDoor
open Go.RowKit
theorem two_row (w:World) (g:Nat) (a b:Int) (lo hi:Nat) (hg:w.heap.size = g) (ha:a = (lo:Int)) (hb:b = (hi:Int)) :
  RowAt (w.alloc (.cells #[.int .u32 a,.int .u32 b] 133)) g [lo,hi]:=by
 subst hg;subst ha;subst hb
 exact heap_alloc_new w _
theorem wrap_neg (n:Int) (h0:-9223372036854775808≤n) (h1:n < 0):IntKind.u64.wrap (-IntKind.u64.wrap n) = -n:=by
 simp only [IntKind.wrap,IntKind.signed,IntKind.bits]
 simp
 omega
theorem val_two (m:Nat):val [m % 4294967296,m / 4294967296] = m:=by simp only [val];omega
theorem of_any (n:Int) (w:World) (h0:-9223372036854775808≤n) (h1:n≤9223372036854775807) :
  Calls Tryz.prog 230 #[.int .i64 n] w fun e w'=>∃ v,e = .returned v∧IsNum w.heap.size w' v n∧Below w.heap.size w w':=by
 obtain ⟨m,hm⟩:∃ m,m = n.natAbs:=⟨_,rfl⟩
 have hf:Fits [m % 4294967296,m / 4294967296]:=by intro x hx;simp at hx;omega
 have HF:=hide hf
 have HM:=hide hm
 clear hf hm
 by_cases hn:n < 0
 ·have hw:=wrap_neg n h0 hn
  have HW:=hide hw
  clear hw
  go_enter Tryz.func230,Tryz.ntmps230
  go_wp2_with fail
  have hm:=uH HM
  have hR:=two_row (w.alloc (.cells #[.bool false,.slice none 0 0] 45)) (w.heap.size+1) (IntKind.u64.wrap (-IntKind.u64.wrap n) % 4294967296) (IntKind.u64.wrap (-IntKind.u64.wrap n) / 4294967296 % 4294967296) (m % 4294967296) (m / 4294967296) (by simp) (by rw [uH HW];omega) (by rw [uH HW];omega)
  refine (trim_any (some ⟨w.heap.size+1,0,none⟩) 2 [m % 4294967296,m / 4294967296] _ (hR.limbs (uH HF) 2 (by simp)) (by simp)).mono ?_
  rintro e w' ⟨v,rfl,⟨ao',cap',L',rfl,g1,g2,g3,g4,g5⟩,rfl⟩
  have G4:=hide g4
  have G1:=hide g1
  have G2:=hide g2
  have G5:=hide g5
  clear g1 g2 g4 g5 hR hm
  go_wp2
  refine bodyPost_ret (v:=.agg #[.bool true,.slice ao' L'.length cap']) (by simp [results,Tryz.results230,go_sem]) rfl ⟨.agg #[.bool true,.slice ao' L'.length cap'],rfl,⟨true,ao',cap',L',rfl,uH G4 _ ?_,uH G5 _ (.inr ⟨_,_,rfl,by omega⟩),uH G1,by simp [hn],?_⟩,?_⟩
  ·refine (two_row _ (w.heap.size+1) _ _ _ _ (by simp) ?_ ?_).limbs (uH HF) 2 (by simp)
   ·have hm:=uH HM;rw [uH HW];omega
   ·have hm:=uH HM;rw [uH HW];omega
  ·exact ⟨by rw [uH G2,val_two];exact uH HM,by simp at g3;omega⟩
  ·exact ((Below.refl _ _).alloc (Nat.le_refl _) _).alloc (by simp) _
 ·go_enter Tryz.func230,Tryz.ntmps230
  go_wp2_with fail
  have hm:=uH HM
  have hR:=two_row (w.alloc (.cells #[.bool false,.slice none 0 0] 45)) (w.heap.size+1) (n % 4294967296) (n / 4294967296) (m % 4294967296) (m / 4294967296) (by simp) (by omega) (by omega)
  refine (trim_any (some ⟨w.heap.size+1,0,none⟩) 2 [m % 4294967296,m / 4294967296] _ (hR.limbs (uH HF) 2 (by simp)) (by simp)).mono ?_
  rintro e w' ⟨v,rfl,⟨ao',cap',L',rfl,g1,g2,g3,g4,g5⟩,rfl⟩
  have G4:=hide g4
  have G1:=hide g1
  have G2:=hide g2
  have G5:=hide g5
  clear g1 g2 g4 g5 hR hm
  go_wp2
  refine bodyPost_ret (v:=.agg #[.bool false,.slice ao' L'.length cap']) (by simp [results,Tryz.results230,go_sem]) rfl ⟨.agg #[.bool false,.slice ao' L'.length cap'],rfl,⟨false,ao',cap',L',rfl,uH G4 _ ?_,uH G5 _ (.inr ⟨_,_,rfl,by omega⟩),uH G1,by simp;omega,?_⟩,?_⟩
  ·refine (two_row _ (w.heap.size+1) _ _ _ _ (by simp) ?_ ?_).limbs (uH HF) 2 (by simp)
   ·have hm:=uH HM;omega
   ·have hm:=uH HM;omega
  ·exact ⟨by rw [uH G2,val_two];exact uH HM,by simp at g3;omega⟩
  ·exact ((Below.refl _ _).alloc (Nat.le_refl _) _).alloc (by simp) _
end Go.Proofs.YtlnphkioddknfaaGreatDoor
namespace Go.Proofs.YtlnphkioddknfaaGreatDoor
open Go.RowKit
theorem IsNum.right {B:Nat} {w:World} {v:Value} {x:Int} (h:IsNum B w v x) (hx:x.natAbs < TOP) :
  ∃ neg ao cap L,v = .agg #[.bool neg,.slice ao L.length cap]∧LimbsAt w ao cap L∧rightB neg L = true∧sval neg L = x∧L.length≤512:=by
 obtain ⟨neg,ao,cap,L,rfl,h1,h2,h3,h4,h5,h6⟩:=h
 have hl:L.length≤512:=(val_lt_TOP L h1.2.1 h3).1 (by omega)
 refine ⟨neg,ao,cap,L,rfl,h1,?_,?_,hl⟩
 ·have e0:L.length = 0→neg = false:=fun e=>by
   have:L = []:=List.length_eq_zero_iff.1 e
   subst this
   rw [h4];simp [val] at h5;simp;omega
  have e1:L.length = 0 ∨ L[L.length - 1]?.getD 0 ≠ 0:=by
   rcases h3 with h | h
   ·left;rw [h];rfl
   ·exact .inr h
  simp only [rightB,Bool.and_eq_true,decide_eq_true_eq,Bool.not_eq_true',Bool.and_eq_false_iff,decide_eq_false_iff_not,Bool.or_eq_true]
  refine ⟨⟨hl,?_⟩,e1⟩
  by_cases e:L.length = 0
  ·exact .inr (e0 e)
  ·exact .inl e
 ·unfold sval
  rw [h4]
  by_cases hx0:x < 0
  ·simp [hx0];omega
  ·simp [hx0];omega
theorem add_num {B B':Nat} {w:World} {v u:Value} {x y:Int} (hv:IsNum B w v x) (hu:IsNum B' w u y) (hx:x.natAbs < TOP) (hy:y.natAbs < TOP) :
  Calls Tryz.prog 285 #[v,u] w fun e w'=>∃ r,e = .returned (.tuple #[r,.int .i64 (errOf (x+y))])∧IsNum w.heap.size w' r (numOf (x+y))∧Below w.heap.size w w':=by
 obtain ⟨na,ao,ca,A,rfl,a1,a2,a3,a4⟩:=hv.right hx
 obtain ⟨nb,bo,cb,C,rfl,b1,b2,b3,b4⟩:=hu.right hy
 have:=add_any na nb ao bo ca cb A C w a1 b1 (by omega) (by omega)
 rwa [a2,b2,a3,b3,Bool.and_self,opErr_true,opNum_true] at this
theorem small_TOP (x:Nat) (h:x < 18446744073709551616):x < TOP:=by
 have:(4294967296 ^ 2:Nat)≤4294967296 ^ TOPN:=Nat.pow_le_pow_right (by decide) (by decide)
 unfold TOP
 omega
theorem errOf_small (x:Int) (h:x.natAbs < TOP):errOf x = 0:=by unfold errOf;rw [if_pos h]
theorem numOf_small (x:Int) (h:x.natAbs < TOP):numOf x = x:=by unfold numOf;rw [if_pos h]
end Go.Proofs.YtlnphkioddknfaaGreatDoor
namespace Go.Proofs.YtlnphkioddknfaaGreatDoor
open Go.RowKit
attribute [local go_sem ↓] Go.wp_at_zero Go.wp_at_succ
theorem double_any (na:Bool) (ao:Option Addr) (ca:Nat) (A:List Nat) (w:World) (hA:LimbsAt w ao ca A) (la:A.length≤35184372088830) :
  Calls Tryz.prog 186 #[.agg #[.bool na,.slice ao A.length ca]] w fun e w'=>∃ v,e = .returned v∧IsNumM (A.length+1) w.heap.size w' v (sg na (val A+val A))∧Below w.heap.size w w':=by
 have hsum:∀ L:List Nat,val L = val A+val A→sval na L = sg na (val A+val A):=by
  intro L h;rw [sval_sg,h]
 have HS:=hide hsum
 clear hsum
 generalize sg na (val A+val A) = z at *
 go_enter Tryz.func186,Tryz.ntmps186
 go_wp2
 refine at_world (fun W=>Below w.heap.size w W∧W.heap.size = w.heap.size+2∧Box2 W w.heap.size (.bool na) (.slice ao A.length ca)∧Box2 W (w.heap.size+1) (.bool false) (.slice none 0 0)) ?_ ?_
 ·refine ⟨((Below.refl _ _).alloc (Nat.le_refl _) _).alloc (by simp) _,by simp,(Box2.new _ _ _).old _,?_⟩
  have:=Box2.new (w.alloc (.cells #[.bool na,.slice ao A.length ca] 45)) (.bool false) (.slice none 0 0)
  simpa using this
 rintro W0 ⟨hw0,hs0,x0,x2⟩
 have hK:∀ w',Below (w.heap.size+1) W0 w'→Below (w.heap.size+1) W0 w'∧w'.cell? ⟨w.heap.size,0,none⟩ = some (.bool na)∧w'.cell? ⟨w.heap.size,1,none⟩ = some (.slice ao A.length ca):=fun w' h =>
  ⟨h,(x0.below h (by omega)).c0,(x0.below h (by omega)).c1⟩
 have HK:=hide hK
 have HA:=hide (hA.below hw0)
 have X2:=hide x2
 have HW0:=hide hw0
 clear hK hA x0 x2 hw0
 go_region_held3 (fun w'=>Below (w.heap.size+1) W0 w'∧w'.cell? ⟨w.heap.size,0,none⟩ = some (.bool na)∧w'.cell? ⟨w.heap.size,1,none⟩ = some (.slice ao A.length ca))
  (first | exact uH HK _ (Below.refl _ _).drew | exact uH HK _ (by assumption) | exact uH HK _ ((hB2.setCell (by simp) _).setCell (by simp) _))
  (first | (go_at_call 137;refine (plus_any ao ao ca ca A A _ ((uH HA).below ((Below.refl _ _).drew)) ((uH HA).below ((Below.refl _ _).drew)) la la).mono ?_;rintro e w1 ⟨ao',cap',L',rfl,g1,g2,g3,g4,hb1⟩;have hB1:Below (w.heap.size+1) W0 w1:=((Below.refl _ _).drew).trans (hb1.mono (by simp [hs0]));have X3:=hide ((uH X2).drew.below hb1 (by simp [hs0]));have G1:=hide g1;have G2:=hide g2;have G4:=hide g4;have L4:L'.length≤35184372088832:=(by omega);have L5:L'.length≤A.length+1:=(by omega);have s1:=hb1.size;clear g1 g2 g4 g3 hb1) | (go_at_call 134;refine (made_any _ na _ _ _ _ (uH G1) (uH G2) L4).mono ?_;rintro e w2 ⟨v,rfl,⟨n2,a2,c2,L2,rfl,i1⟩,hb2⟩;have hB2:Below (w.heap.size+1) W0 w2:=hB1.trans (hb2.mono (by simp at s1;omega));have X4:=(uH X3).below hb2 (by simp at s1;omega);have y0:=X4.c0;have y1:=X4.c1;have f0:=X4.free 0;have f1:=X4.free 1;have I1:=hide i1;clear i1 hb2 X4))
 have hz:=uH HS L' (uH G4)
 have HI:=hide (hz ▸ uH I1)
 clear hz
 go_wp2
 refine bodyPost_ret (v:=.agg #[.bool n2,.slice a2 L2.length c2]) (by simp [results,Tryz.results186,go_sem,y0,y1]) rfl ⟨.agg #[.bool n2,.slice a2 L2.length c2],rfl,?_,?_⟩
 ·exact (IsNumM.stored (uH HI) (by simp;omega) (by simp;omega) (by simp;omega) _ _).more (by have:=L5;omega)
 ·exact (((uH HW0).trans (hB2.mono (by omega))).setCell (by simp) _).setCell (by simp) _
theorem Box2.other {w:World} {b:Nat} {x y:Value} (h:Box2 w b x y) {p:Addr} (hp:b ≠ p.block) (u:Value):Box2 (w.setCell p u) b x y:=(Below.heap_setCell w p u b hp).trans h
theorem half_limb (d0 d1:Nat):((d1 % 2 * 4294967296+d0) / 2) % 4294967296 = ((d0+4294967296 * d1) / 2 ^ 1) % 4294967296:=by omega
end Go.Proofs.YtlnphkioddknfaaGreatDoor
namespace Go.Proofs.YtlnphkioddknfaaGreatDoor
open Go.RowKit
attribute [local go_sem ↓] Go.wp_at_zero Go.wp_at_succ
theorem half_any (na:Bool) (ao:Option Addr) (ca:Nat) (A:List Nat) (w:World) (hA:LimbsAt w ao ca A) (la:A.length≤1073741824) :
  Calls Tryz.prog 136 #[.agg #[.bool na,.slice ao A.length ca]] w fun e w'=>∃ v,e = .returned v∧IsNumM A.length w.heap.size w' v (sg na (val A / 2))∧Below w.heap.size w w':=by
 obtain ⟨i0,hi,hz0,hz1,hz2⟩:=info_parts Tryz.info133
 have hst:∀ (S:List Nat) (k d0 d1:Nat),k < S.length→A[k]?.getD 0 = d0→A[k+1]?.getD 0 = d1→val (S.take k) = (val A / (4294967296 ^ 0 * 2 ^ 1)) % 4294967296 ^ k→val ((S.set k (((d1 % 2 * 4294967296+d0) / 2) % 4294967296)).take (k+1)) = (val A / (4294967296 ^ 0 * 2 ^ 1)) % 4294967296 ^ (k+1):=by
  intro S k d0 d1 h1 h2 h3 h4
  rw [half_limb]
  exact down_step A S hA.2.1 k 0 1 d0 d1 (by omega) h1 h2 h3 h4
 have hen:∀ (S:List Nat),S.length = A.length→val (S.take S.length) = (val A / (4294967296 ^ 0 * 2 ^ 1)) % 4294967296 ^ S.length→sval na S = sg na (val A / 2):=by
  intro S h1 h2
  have:=down_end A S hA.2.1 0 1 (by omega) h2
  rw [sval_sg,this]
 have HST:=hide hst
 have HEN:=hide hen
 clear hst hen
 generalize sg na (val A / 2) = z at *
 go_enter Tryz.func136,Tryz.ntmps136
 go_wp2_with (at_make;refine wpList_make_full _ rfl _ _ 43 rfl (w.heap.size+2) 133 i0 (.int .u32 0) 1 Tryz.underlying43 hi hz0 hz1 .i64 .i64 _ _ A.length rfl rfl (by omega) (by omega) (by rw [hz2];omega) (by unfold maxLen;omega) (by simp) ?_;intro w1 hown hgrow)
 have hrow0:=RowAt.made hown
 have hrow:RowAt w1 (w.heap.size+1+1) (List.replicate A.length 0):=by simpa using hrow0
 clear hrow0
 have hb0:Below w.heap.size w ((w.alloc (.cells #[.bool na,.slice ao A.length ca] 45)).alloc (.cells #[.bool false,.slice none 0 0] 45)):=((Below.refl _ _).alloc (Nat.le_refl _) _).alloc (by simp) _
 have hb1:Below w.heap.size w w1:=hb0.grown hgrow (by simp;omega) (fun k h=>by simp at h)
 have x0:Box2 w1 w.heap.size (.bool na) (.slice ao A.length ca):=(hgrow.block w.heap.size (by simp;omega) (by simp)).trans ((Box2.new _ _ _).old _)
 have x1:Box2 w1 (w.heap.size+1) (.bool false) (.slice none 0 0):=by
  have h:=Box2.new (w.alloc (.cells #[.bool na,.slice ao A.length ca] 45)) (.bool false) (.slice none 0 0)
  have h':Box2 ((w.alloc (.cells #[.bool na,.slice ao A.length ca] 45)).alloc (.cells #[.bool false,.slice none 0 0] 45)) (w.heap.size+1) (.bool false) (.slice none 0 0):=by simpa using h
  exact (hgrow.block (w.heap.size+1) (by simp) (by simp)).trans h'
 clear hown hgrow hb0
 go_loopw [4] (fun c wr=>∃ (i:Nat) (S:List Nat),i≤A.length∧c = .int .i64 i∧RowAt wr (w.heap.size+1+1) S∧Box2 wr w.heap.size (.bool na) (.slice ao A.length ca)∧Box2 wr (w.heap.size+1) (.bool false) (.slice none 0 0)∧S.length = A.length∧Fits S∧Below w.heap.size w wr∧Hid (val (S.take i) = (val A / (4294967296 ^ 0 * 2 ^ 1)) % 4294967296 ^ i))
  (fun c _=>A.length - (intOf c).toNat)
 case atStart=>exact ⟨0,List.replicate A.length 0,Nat.zero_le _,rfl,hrow,x0,x1,by simp,Fits.zeros _,hb1,by unfold Hid;simp [val,Nat.mod_one]⟩
 case round =>
  obtain ⟨i,S,hi1,rfl,hr',z0,z1,hsl,hf,hbel,hv⟩:=hrel
  have p0:=z0.c0;have p1:=z0.c1
  by_cases hlt:i < A.length
  ·obtain ⟨d0,hd0⟩:∃ x,A[i]?.getD 0 = x:=⟨_,rfl⟩
   obtain ⟨d1,hd1⟩:∃ x,A[i+1]?.getD 0 = x:=⟨_,rfl⟩
   have b0:d0 < 4294967296:=by rw [← hd0];exact hA.lt _
   have b1':d1 < 4294967296:=by rw [← hd1];exact hA.lt _
   have cA:=(hA.below hbel).below ((Below.refl _ _).drew)
   have dS:=hr'.cell i (by omega)
   have fS:=hr'.free i
   generalize hsi:S[i]?.getD 0 = s at *
   have HST1:=hide (uH HST S i d0 d1 (by omega) hd0 hd1 hv.out)
   have HD0:=hide hd0
   have HD1:=hide hd1
   have HR:=hide hr';have Z0:=hide z0;have Z1:=hide z1;have BEL:=hide hbel;have CA:=hide cA
   clear hd0 hd1 hr' hv hsi HST HEN x0 x1 hrow hb1 z0 z1 hbel cA hA
   have hltI:(i:Int) < (A.length:Int):=by omega
   have hwi:IntKind.i64.wrap ((i:Int)+1) = (i:Int)+1:=by
    simp only [IntKind.wrap,IntKind.signed,IntKind.bits]
    simp
    omega
   have hK:∀ w',w' = wr.drew ∨ (∃ u,w' = (wr.drew).setCell ⟨w.heap.size+1+1,i,none⟩ u)→(w' = wr.drew ∨ (∃ u,w' = (wr.drew).setCell ⟨w.heap.size+1+1,i,none⟩ u))∧w'.cell? ⟨w.heap.size,1,none⟩ = some (.slice ao A.length ca):=fun w' h=>by
    refine ⟨h,?_⟩
    rcases h with rfl | ⟨u,rfl⟩
    ·exact (uH Z0).drew.c1
    ·exact ((uH Z0).drew.other (by simp;omega) u).c1
   have HK:=hide hK
   clear hK
   go_wp2
   go_region_held3 (fun w'=>(w' = wr.drew ∨ (∃ u,w' = (wr.drew).setCell ⟨w.heap.size+1+1,i,none⟩ u))∧w'.cell? ⟨w.heap.size,1,none⟩ = some (.slice ao A.length ca))
    (first | exact uH HK _ (.inl rfl) | exact uH HK _ (.inr ⟨_,rfl⟩))
    (first | (go_at_call 185;have hq:=HD1;clear HD1;refine (limb_x ao ca A _ (i+1) d1 _ (uH CA) (by omega) (by omega) hq).mono ?_;rintro e w' ⟨rfl,rfl⟩;clear hq) | (go_at_call 185;refine (limb_x ao ca A _ i d0 _ (uH CA) (by omega) rfl HD0).mono ?_;rintro e w' ⟨rfl,rfl⟩))
   have r1:=(uH HR).set i (((d1 % 2 * 4294967296+d0) / 2) % 4294967296)
   rw [show (((d1 % 2 * 4294967296+d0) / 2 % 4294967296:Nat):Int) = ((d1:Int) % 2 * 4294967296+(d0:Int)) / 2 by omega] at r1
   have hmod:((d1 % 2 * 4294967296+d0) / 2) % 4294967296 < 4294967296:=Nat.mod_lt _ (by decide)
   have R1:=hide r1
   have HM:=hide hmod
   clear r1 hmod
   go_wp2
   go_roundw
   case rel=>exact ⟨i+1,S.set i (((d1 % 2 * 4294967296+d0) / 2) % 4294967296),by omega,by go_num,(uH R1:_),(uH Z0).other (by simp;omega) _,(uH Z1).other (by simp) _,by simpa using hsl,hf.set _ _ (uH HM),((uH BEL).setCell (by simp;omega) _).drew,uH HST1⟩
   case measure=>simp [intOf];omega
  ·have hii:i = A.length:=by omega
   have hv':=uH HEN S hsl (by rw [hsl,← hii];exact hv.out)
   have HR:=hide (hr'.limbs hf A.length (by omega))
   have HV:=hide hv'
   have Z1:=hide z1
   have BEL:=hide hbel
   have hgt:¬ (i:Int) < (A.length:Int):=by omega
   have HL:=hide hsl
   have zlt:=z1.lt
   have rlt:=hr'.lt
   clear hv' hv hr' HST HEN x0 x1 hrow hb1 z1 hbel hA z0
   go_wp2_with fail
   have hN:NewAt (w.heap.size+1+1) (some ⟨w.heap.size+1+1,0,none⟩) S:=.inr ⟨_,_,rfl,Nat.le_refl _⟩
   have hcall:=made_any (w.heap.size+1+1) na (some ⟨w.heap.size+1+1,0,none⟩) A.length S wr (uH HR) hN (by omega)
   rw [uH HV,uH HL] at hcall
   refine hcall.mono ?_
   rintro e w2 ⟨v,rfl,⟨n2,a2,c2,L2,rfl,i1⟩,hb2⟩
   have X4:=(uH Z1).below hb2 (uH Z1).lt
   have y0:=X4.c0;have y1:=X4.c1;have f0:=X4.free 0;have f1:=X4.free 1
   have HB2:=hide ((uH BEL).trans (hb2.mono (by omega)))
   have I1:=hide i1
   clear hcall X4 hb2 i1 hN
   go_wp2
   refine bodyPost_ret (v:=.agg #[.bool n2,.slice a2 L2.length c2]) (by simp [results,Tryz.results136,go_sem,y0,y1]) rfl ⟨.agg #[.bool n2,.slice a2 L2.length c2],rfl,?_,?_⟩
   ·exact IsNumM.stored (uH I1) (by simp) (by simp) (by omega) _ _
   ·exact ((uH HB2).setCell (by simp) _).setCell (by simp) _
end Go.Proofs.YtlnphkioddknfaaGreatDoor
namespace Go.Proofs.YtlnphkioddknfaaGreatDoor
open Go.RowKit
theorem bits_nat (a b:Int):∃ y:Nat,y < 4294967296∧bits BinOp.xor IntKind.u32 a b = (y:Int):=by
 refine ⟨(bits BinOp.xor IntKind.u32 a b).toNat,?_,?_⟩
 all_goals
  have h:0≤bits BinOp.xor IntKind.u32 a b∧bits BinOp.xor IntKind.u32 a b < 4294967296:=by
   simp only [bits,IntKind.wrap,IntKind.signed,IntKind.bits]
   simp
   omega
  omega
end Go.Proofs.YtlnphkioddknfaaGreatDoor
