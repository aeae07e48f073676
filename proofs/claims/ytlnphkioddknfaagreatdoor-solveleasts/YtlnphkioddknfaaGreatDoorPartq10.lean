/- Part 10 of the texts. -/
import Derived.Test.YtlnphkioddknfaaGreatDoorPartq09
import Derived.Test.YtlnphkioddknfaaGreatDoorPartq05
import Derived.Deep.AppendLies
import Derived.Test.YtlnphkioddknfaaGreatDoorPartq07
import Derived.Deep.RegionLaw
import Derived.Laws.BitsAllLaws
set_option maxHeartbeats 4000000
set_option maxRecDepth 4000
namespace Go.Proofs.YtlnphkioddknfaaGreatDoor
open Go.RowKit
theorem own_at {w:World} {base g n c:Nat} {S:List Nat} (h:w.ownsRow base 133 1 (.slice (some ⟨g,0,none⟩) n c) n (S.map limbV)) (hf:Fits S):LimbsAt w (some ⟨g,0,none⟩) c S∧S.length = n∧base≤g∧g < w.heap.size:=by
 obtain ⟨ao,cap,e1,e2,e3,e4⟩:=own_limbs h hf
 simp only [Value.slice.injEq] at e1
 obtain ⟨rfl,_,rfl⟩:=e1
 exact ⟨e2,e4,h.lt g rfl⟩
end Go.Proofs.YtlnphkioddknfaaGreatDoor
namespace Go.Proofs.YtlnphkioddknfaaGreatDoor
open Go.RowKit
def shF (v:Nat) (m:Int):Nat:=if 0≤m then v * 2 ^ m.toNat else v / 2 ^ (-m).toNat
theorem shV_shF (neg:Bool) (L:List Nat) (n:Int):shV neg L n = sg neg (shF (val L) n):=rfl
theorem shF_zero (m:Int):shF 0 m = 0:=by unfold shF;split <;> simp
theorem shF_end (v:Nat):shF v 0 = v:=by unfold shF;simp
theorem shF_up32 (v:Nat) (m:Int) (h:32≤m):shF (4294967296 * v) (m - 32) = shF v m:=by
 unfold shF
 rw [if_pos (by omega),if_pos (by omega),show m.toNat = 32+(m - 32).toNat by omega,Nat.pow_add,← Nat.mul_assoc,Nat.mul_comm v,show (2:Nat) ^ 32 = 4294967296 from rfl]
theorem shF_up1 (v:Nat) (m:Int) (h:1≤m):shF (v+v) (m - 1) = shF v m:=by
 unfold shF
 rw [if_pos (by omega),if_pos (by omega),show m.toNat = 1+(m - 1).toNat by omega,Nat.pow_add,← Nat.mul_assoc,show v * 2 ^ 1 = v+v by omega]
theorem shF_dn32 (v:Nat) (m:Int) (h:m≤-32):shF (v / 4294967296) (m+32) = shF v m:=by
 unfold shF
 rw [if_neg (show ¬ 0≤m by omega),show (-m).toNat = 32+(-(m+32)).toNat by omega,Nat.pow_add,← Nat.div_div_eq_div_mul,show (2:Nat) ^ 32 = 4294967296 from rfl]
 by_cases h0:0≤m+32
 ·rw [if_pos h0,show (m+32).toNat = 0 by omega,show (-(m+32)).toNat = 0 by omega];simp
 ·rw [if_neg h0]
theorem shF_dn1 (v:Nat) (m:Int) (h:m≤-1):shF (v / 2) (m+1) = shF v m:=by
 unfold shF
 rw [if_neg (show ¬ 0≤m by omega),show (-m).toNat = 1+(-(m+1)).toNat by omega,Nat.pow_add,← Nat.div_div_eq_div_mul,show (2:Nat) ^ 1 = 2 from rfl]
 by_cases h0:0≤m+1
 ·rw [if_pos h0,show (m+1).toNat = 0 by omega,show (-(m+1)).toNat = 0 by omega];simp
 ·rw [if_neg h0]
theorem sg_sign (nn:Bool) (v:Nat) (m:Int):sg (decide (sg nn v < 0)) (shF v m) = sg nn (shF v m):=by
 by_cases hv:v = 0
 ·subst hv;rw [shF_zero];unfold sg;simp
 ·have:decide (sg nn v < 0) = nn:=by unfold sg;cases nn <;> simp <;> omega
  rw [this]
theorem natAbs_sg (nn:Bool) (v:Nat):(sg nn v).natAbs = v:=by unfold sg;cases nn <;> simp
def ShI (w wr:World) (z m:Int) (nn:Bool) (a:Option Addr) (c:Nat) (L:List Nat):Prop :=
 Box2 wr w.heap.size (.bool nn) (.slice a L.length c)∧Box2 wr (w.heap.size+1) (.bool false) (.slice none 0 0)∧LimbsAt wr a c L∧Canon L∧(nn = true→L ≠ [])∧L.length+m.toNat≤20000∧sg nn (shF (val L) m) = z∧Below w.heap.size w wr
theorem Box2.put {w:World} {b:Nat} {x y:Value} (h:Box2 w b x y) (u u':Value):Box2 ((w.setCell ⟨b,0,none⟩ u).setCell ⟨b,1,none⟩ u') b u u':=by
 have h1:=heap_setCell_same w b 0 _ _ u h
 have h2:=heap_setCell_same (w.setCell ⟨b,0,none⟩ u) b 1 _ _ u' h1
 unfold Box2
 rw [h2]
 simp
theorem ShI.step {w w2:World} {z m x:Int} {nn n0 n':Bool} {a0 a':Option Addr} {l0 c0 c' v M B:Nat} {L':List Nat}
  (hb:Box2 w2 w.heap.size (.bool n0) (.slice a0 l0 c0)) (hr:Box2 w2 (w.heap.size+1) (.bool false) (.slice none 0 0))
  (i:LimbsAt w2 a' c' L'∧NewAt B a' L'∧Canon L'∧n' = decide (x < 0)∧val L' = x.natAbs∧L'.length≤M) (hx:x = sg nn v) (hz:sg nn (shF v m) = z) (hl:M+m.toNat≤20000) (hbel:Below w.heap.size w w2) :
  ShI w ((w2.setCell ⟨w.heap.size,0,none⟩ (.bool n')).setCell ⟨w.heap.size,1,none⟩ (.slice a' L'.length c')) z m n' a' c' L':=by
 obtain ⟨i1,i2,i3,i4,i5,i6⟩:=i
 subst hx
 rw [natAbs_sg] at i5
 refine ⟨hb.put _ _,(hr.other (by simp) _).other (by simp) _,i1.box hb _ _,i3,?_,by omega,?_,(hbel.setCell (by simp) _).setCell (by simp) _⟩
 ·rintro e rfl
  rw [e] at i4
  simp [val] at i5
  have:=of_decide_eq_true i4.symm
  rw [← i5] at this
  unfold sg at this
  simp at this
 ·rw [i4,i5,sg_sign];exact hz
theorem ShI.last {w wr:World} {z m:Int} {nn:Bool} {a:Option Addr} {c:Nat} {L:List Nat} (h:ShI w wr z m nn a c L) (he:m = 0 ∨ L = []):IsNum 0 wr (.agg #[.bool nn,.slice a L.length c]) z:=by
 obtain ⟨h1,h2,h3,h4,h5,h6,h7,h8⟩:=h
 by_cases h0:L = []
 ·subst h0
  have:nn = false:=by cases nn <;> simp_all
  subst this
  simp only [val,shF_zero] at h7
  rw [← h7]
  exact IsNum.zero _ _ _ _
 ·rcases he with rfl | he
  ·rw [shF_end] at h7
   rw [← h7,← sval_sg]
   exact IsNum.mk h3 (NewAt.zero h3) h4 h0 (by omega)
  ·exact absurd he h0
theorem LimbsAt.drop1 {w:World} {b off c:Nat} {L:List Nat} (h:LimbsAt w (some ⟨b,off,none⟩) c L):LimbsAt w (some ⟨b,off+1,none⟩) (c - 1) (L.drop 1):=by
 refine ⟨by have:=h.1;simp;omega,fun x hx=>h.2.1 x (List.mem_of_mem_drop hx),?_⟩
 rcases h.2.2 with h0 | ⟨b',off',h1,h2,h3⟩
 ·left;simp [h0]
 ·simp only [Option.some.injEq,Addr.mk.injEq,and_true] at h1
  obtain ⟨rfl,rfl⟩:=h1
  refine .inr ⟨b,off+1,rfl,h2,fun i hi=>?_⟩
  simp at hi
  have:=h3 (i+1) (by omega)
  rw [show off+1+i = off+(i+1) by omega,this,List.getElem?_drop,Nat.add_comm 1 i]
theorem made_drop (neg:Bool) (b off c:Nat) (L:List Nat) (w:World) (h:LimbsAt w (some ⟨b,off,none⟩) c L) (hl:L.length≤30000) :
  Calls Tryz.prog 134 #[.bool neg,.slice (some ⟨b,off+1,none⟩) (L.length - 1) (c - 1)] w fun e w'=>∃ v,e = .returned v∧IsNumM L.length 0 w' v (sg neg (val L / 4294967296))∧Below w.heap.size w w':=by
 have:=made_any 0 neg _ _ (L.drop 1) w h.drop1 (NewAt.zero h.drop1) (by simp;omega)
 rw [sval_sg,val_drop L h.2.1 1] at this
 simp only [List.length_drop,Nat.pow_one] at this
 exact this.mono fun e w' ⟨v,h1,h2,h3⟩=>⟨v,h1,h2.more (by omega),h3⟩
theorem made_drop1 (neg:Bool) (b off:Nat) (L:List Nat) (w:World) (h:LimbsAt w (some ⟨b,off,none⟩) 1 L) :
  Calls Tryz.prog 134 #[.bool neg,.slice (some ⟨b,off,none⟩) 0 0] w fun e w'=>∃ v,e = .returned v∧IsNumM L.length 0 w' v (sg neg (val L / 4294967296))∧Below w.heap.size w w':=by
 have:=made_any 0 neg (some ⟨b,off,none⟩) 0 [] w (LimbsAt.nil _ _ _) (.inl rfl) (by simp)
 have hv:val L / 4294967296 = 0:=by
  have h1:=val_lt L h.2.1
  have h2:=Nat.pow_le_pow_right (n:=4294967296) (by decide) h.1
  exact Nat.div_eq_of_lt (by omega)
 rw [hv]
 rw [sval_sg] at this
 exact this.mono fun e w' ⟨v,h1,h2,h3⟩=>⟨v,h1,h2.more (by simp),h3⟩
theorem zero_limbs (L:List Nat):val (0 :: L) = 4294967296 * val L:=by simp [val]
end Go.Proofs.YtlnphkioddknfaaGreatDoor
namespace Go.Proofs.YtlnphkioddknfaaGreatDoor
open Go.RowKit
attribute [local go_sem ↓] Go.wp_at_zero Go.wp_at_succ
theorem own_one (W:World) (base g:Nat) (hs:W.heap.size = g) (hb:base≤g):((W.alloc (.cells #[.int .u32 0] 133)).drew).ownsRow base 133 1 (.slice (some ⟨g,0,none⟩) 1 1) 1 [.int .u32 0]:=by
 subst hs
 exact ⟨by simp,.inr ⟨W.heap.size,1,#[.int .u32 0],rfl,hb,heap_alloc_new W _,Nat.le_refl _,by simp [maxLen],by simp,by simp⟩⟩
theorem made_own (neg:Bool) (g n c base:Nat) (S:List Nat) (w:World) (h:w.ownsRow base 133 1 (.slice (some ⟨g,0,none⟩) n c) n (S.map limbV)) (hf:Fits S) (hl:n≤35184372088832) :
  Calls Tryz.prog 134 #[.bool neg,.slice (some ⟨g,0,none⟩) n c] w fun e w'=>∃ v,e = .returned v∧IsNumM n base w' v (sval neg S)∧Below w.heap.size w w':=by
 obtain ⟨h1,h2,h3,h4⟩:=own_at h hf
 have:=made_any base neg (some ⟨g,0,none⟩) c S w h1 (.inr ⟨g,0,rfl,h3⟩) (by omega)
 rw [h2] at this
 exact this
theorem ne_of_val {L:List Nat} (h:val L ≠ 0):L ≠ []:=by
 rintro rfl
 simp [val] at h
theorem refShift_some (na:Bool) (ao:Option Addr) (ca:Nat) (A:List Nat) (n:Int) (w:World) (hA:LimbsAt w ao ca A) (h0:A ≠ []) (hc:Canon A) (la:A.length≤3000) (hn:-16384≤n∧n≤16384) :
  Calls Tryz.prog 141 #[.agg #[.bool na,.slice ao A.length ca],.int .i64 n] w fun e w'=>∃ v,e = .returned v∧IsNum 0 w' v (shV na A n)∧Below w.heap.size w w':=by
 obtain ⟨i0,hi,hz0,hz1,hz2⟩:=info_parts Tryz.info133
 have HZ:=hide (shV_shF na A n).symm
 generalize shV na A n = z at *
 have HH0:=hide h0;have HC:=hide hc
 clear h0 hc
 go_enter Tryz.func141,Tryz.ntmps141
 go_wp2
 go_loopw [1] (fun i wr=>∃ (m:Int) (nn:Bool) (a:Option Addr) (c:Nat) (L:List Nat),i = .int .i64 m∧-16384≤m∧m≤16384∧L ≠ []∧Hid (ShI w wr z m nn a c L)) (fun i _=>(intOf i).toNat)
 case atStart =>
  refine ⟨n,na,ao,ca,A,rfl,hn.1,hn.2,uH HH0,(Box2.new _ _ _).old _,?_,hA.below (((Below.refl _ _).alloc (Nat.le_refl _) _).alloc (by simp) _),uH HC,fun _=>uH HH0,by omega,uH HZ,((Below.refl _ _).alloc (Nat.le_refl _) _).alloc (by simp) _⟩
  have:=Box2.new (w.alloc (.cells #[.bool na,.slice ao A.length ca] 45)) (.bool false) (.slice none 0 0)
  simpa using this
 case round =>
  obtain ⟨m,nn,a,c,L,rfl,hm1,hm2,hne,hI⟩:=hrel
  clear HZ HC HH0 hA la hn
  obtain ⟨x0,x1,hL,hC,hS,hlen,hz,hbel⟩:=uH hI
  have hp:0 < L.length:=List.length_pos_iff.2 hne
  have hpI:(0:Int) < (L.length:Int):=by omega
  have p0:=x0.c0;have p1:=x0.c1
  have HV:Hid (val L ≠ 0):=fun e=>hne ((val_zero_of_canon L hC).1 e)
  by_cases hg:32≤m
  ·obtain ⟨b,off,rfl,hb,hcl⟩:=hL.ne hp
   have hz':=hz
   rw [← shF_up32 _ _ hg] at hz'
   have HZ2:=hide hz'
   have zlt:=x0.lt
   have zlt1:=x1.lt
   have hN:∀ j u,(L.map limbV)[j]? = some u→((wr.alloc (.cells #[.int .u32 0] 133)).drew).cell? ((⟨b,off,none⟩:Addr).add j) = some u:=by
    intro j u hu
    rw [List.getElem?_map] at hu
    have hj:j < L.length:=by
     rcases Nat.lt_or_ge j L.length with e | e
     ·exact e
     ·rw [List.getElem?_eq_none e] at hu;simp at hu
    have e3:(⟨b,off,none⟩:Addr).add j = ⟨b,off+j,none⟩:=by simp [Addr.add]
    rw [e3,((((Below.refl wr.heap.size wr).alloc (Nat.le_refl _) _).drew).cell (p:=⟨b,off+j,none⟩) hb),hcl j hj]
    rw [List.getElem?_eq_getElem hj] at hu ⊢
    simpa [limbV] using hu
   have hone:∀ u ∈ L.map limbV,u.oneCell' = true:=by
    intro u hu
    obtain ⟨y,_,rfl⟩:=List.mem_map.1 hu
    rfl
   have HF:Hid (Fits (0 :: L)):=by
    intro y hy
    rcases List.mem_cons.1 hy with rfl | hy
    ·decide
    ·exact hL.2.1 y hy
   have HN:=hide hN;have HONE:=hide hone;have BEL:=hide hbel;have X0:=hide x0;have X1:=hide x1;have HLEN:=hide hlen
   clear hz hz' hN hone x0 x1 hL hC hS hbel hI hcl
   have ll:L.length≤20000:=by have:=uH HLEN;omega
   clear hlen
   go_wp2
   go_region_law (first | (refine step_append_lies _ (by rfl) _ _ _ (by rfl) wr.heap.size 133 i0 (.int .u32 0) 1 4 Tryz.underlying43 hi hz0 hz1 hz2 rfl (by omega) (.slice (some ⟨wr.heap.size,0,none⟩) 1 1) 1 [.int .u32 0] (by rfl) (own_one wr wr.heap.size wr.heap.size rfl (Nat.le_refl _)) ⟨b,off,none⟩ L.length c (L.map limbV) (by rfl) (by simp) (uH HN) (uH HONE) hp (by unfold maxLen;omega) (by omega) (by simp) (wr.heap.size+1) (by simp) ?_;intro g cp w1 hown1 hgrow hat hlt;have y0:Box2 w1 w.heap.size (.bool nn) (.slice (some ⟨b,off,none⟩) L.length c):=(hgrow.block w.heap.size (by simp;omega) (by simp [Value.ownBlock];omega)).trans (((uH X0).old _).drew);have y1:Box2 w1 (w.heap.size+1) (.bool false) (.slice none 0 0):=(hgrow.block (w.heap.size+1) (by simp;omega) (by simp [Value.ownBlock];omega)).trans (((uH X1).old _).drew);have q0:=y0.c0;have q1:=y0.c1;have Y0:=hide y0;have Y1:=hide y1;have B1:=hide ((((uH BEL).alloc (by omega) _).drew).grown hgrow (by simp;omega) (fun k hk=>by simp [Value.ownBlock] at hk;omega));have OWN1:=hide hown1;clear hown1 hgrow hat y0 y1) | (go_simp;go_at_call 134;refine (made_own nn g (1+L.length) cp _ (0 :: L) _ (uH OWN1) (uH HF) (by omega)).mono ?_;rintro e w2 ⟨v,rfl,⟨n2,a2,c2,L2,rfl,i1⟩,hb2⟩;have I1:=hide i1;have Z0:=(uH Y0).below hb2 (uH Y0).lt;have Z1:=(uH Y1).below hb2 (uH Y1).lt;have r0:=Z0.c0;have r1:=Z0.c1;have f0:=Z0.free 0;have f1:=Z0.free 1;have B2:=hide ((uH B1).trans (hb2.mono (uH B1).size));have ZZ0:=hide Z0;have ZZ1:=hide Z1;clear i1 hb2 Z0 Z1))
   all_goals
    go_wp2
    go_roundw
    case rel =>
     refine ⟨m - 32,n2,a2,c2,L2,by go_num,by omega,by omega,ne_of_val ?_,ShI.step (v:=4294967296 * val L) (uH ZZ0) (uH ZZ1) (uH I1) (by rw [sval_sg,zero_limbs]) (uH HZ2) (by have:=uH HLEN;omega) (uH B2)⟩
     have h5:=(uH I1).2.2.2.2.1
     rw [natAbs_sval,zero_limbs] at h5
     have:=uH HV
     omega
    case measure=>simp [intOf];omega
  ·have HI:=hI
   have hgI:¬ (32:Int)≤m:=by omega
   clear hI x0 x1 hL hC hS hlen hz hbel
   go_wp2
   go_loopw [1] (fun i wr=>∃ (m:Int) (nn:Bool) (a:Option Addr) (c:Nat) (L:List Nat),i = .int .i64 m∧-16384≤m∧m≤31∧L ≠ []∧Hid (ShI w wr z m nn a c L)) (fun i _=>(intOf i).toNat)
   case atStart=>exact ⟨m,nn,a,c,L,rfl,by omega,by omega,hne,HI⟩
   case round =>
    clear HI HV p0 p1 hpI hp hne hgI hg hm1 hm2
    obtain ⟨m,nn,a,c,L,rfl,hm1,hm2,hne,hI⟩:=hrel
    obtain ⟨x0,x1,hL,hC,hS,hlen,hz,hbel⟩:=uH hI
    have hp:0 < L.length:=List.length_pos_iff.2 hne
    have hpI:(0:Int) < (L.length:Int):=by omega
    have p0:=x0.c0;have p1:=x0.c1
    by_cases hg:0 < m
    ·have HV:Hid (val L ≠ 0):=fun e=>hne ((val_zero_of_canon L hC).1 e)
     have hz':=hz
     rw [← shF_up1 _ _ (by omega)] at hz'
     have HZ2:=hide hz'
     have BEL:=hide hbel;have X0:=hide x0;have X1:=hide x1;have HLEN:=hide hlen;have HLL:=hide hL
     clear hz hz' x0 x1 hL hC hS hbel hI hlen
     go_wp2_with fail
     refine (double_any nn a c L wr (uH HLL) (by have:=uH HLEN;omega)).mono ?_
     rintro e w2 ⟨v,rfl,⟨n2,a2,c2,L2,rfl,i1⟩,hb2⟩
     have I1:=hide i1
     have Z0:=(uH X0).below hb2 (uH X0).lt
     have Z1:=(uH X1).below hb2 (uH X1).lt
     have r0:=Z0.c0;have r1:=Z0.c1;have f0:=Z0.free 0;have f1:=Z0.free 1
     have B2:=hide ((uH BEL).trans (hb2.mono (uH BEL).size))
     have ZZ0:=hide Z0;have ZZ1:=hide Z1
     clear i1 hb2 Z0 Z1
     go_wp2
     go_roundw
     case rel =>
      refine ⟨m - 1,n2,a2,c2,L2,by go_num,by omega,by omega,ne_of_val ?_,ShI.step (v:=val L+val L) (uH ZZ0) (uH ZZ1) (uH I1) rfl (uH HZ2) (by have:=uH HLEN;omega) (uH B2)⟩
      have h5:=(uH I1).2.2.2.2.1
      rw [natAbs_sg] at h5
      have:=uH HV
      omega
     case measure=>simp [intOf];omega
    ·have HI:=hI
     clear hI x0 x1 hL hC hS hlen hz hbel
     go_wp2
     go_loopw [1] (fun i wr=>∃ (m:Int) (nn:Bool) (a:Option Addr) (c:Nat) (L:List Nat),i = .int .i64 m∧-16384≤m∧m≤0∧Hid (ShI w wr z m nn a c L)) (fun i _=>(-(intOf i)).toNat)
     case atStart=>exact ⟨m,nn,a,c,L,rfl,by omega,by omega,HI⟩
     case round =>
      clear HI p0 p1 hpI hp hne hg hm1 hm2
      obtain ⟨m,nn,a,c,L,rfl,hm1,hm2,hI⟩:=hrel
      obtain ⟨x0,x1,hL,hC,hS,hlen,hz,hbel⟩:=uH hI
      have p0:=x0.c0;have p1:=x0.c1
      by_cases hgp:m≤-32∧0 < L.length
      ·obtain ⟨hg,hp⟩:=hgp
       ·have hpI:(0:Int) < (L.length:Int):=by omega
        have hcap:=hL.1
        obtain ⟨b,off,rfl,hb,hcl⟩:=hL.ne hp
        have hz':=hz
        rw [← shF_dn32 _ _ hg] at hz'
        have HZ2:=hide hz'
        have BEL:=hide hbel;have X0:=hide x0;have X1:=hide x1;have HLEN:=hide hlen;have HLL:=hide (hL.below ((Below.refl _ _).drew))
        clear hz hz' x0 x1 hL hC hS hbel hI hlen hcl
        go_wp2
        have h1I:(1:Int)≤(L.length:Int):=by omega
        have h2I:(L.length:Int)≤(c:Int):=by omega
        have h3I:(1:Int)≤(c:Int):=by omega
        by_cases hc1:c = 1
        ·subst hc1
         go_region_with (go_at_call 134;refine (made_drop1 nn b off L _ (uH HLL)).mono ?_;rintro e w2 ⟨v,rfl,⟨n2,a2,c2,L2,rfl,i1⟩,hb2⟩;have I1:=hide i1;have Z0:=(uH X0).drew.below hb2 (uH X0).drew.lt;have Z1:=(uH X1).drew.below hb2 (uH X1).drew.lt;have r0:=Z0.c0;have r1:=Z0.c1;have f0:=Z0.free 0;have f1:=Z0.free 1;have B2:=hide (((uH BEL).drew).trans (hb2.mono ((uH BEL).drew).size));have ZZ0:=hide Z0;have ZZ1:=hide Z1;clear i1 hb2 Z0 Z1)
         all_goals
          go_wp2
          go_roundw
          case rel=>exact ⟨m+32,n2,a2,c2,L2,by go_num,by omega,by omega,ShI.step (v:=val L / 4294967296) (uH ZZ0) (uH ZZ1) (uH I1) rfl (uH HZ2) (by have:=uH HLEN;omega) (uH B2)⟩
          case measure=>simp [intOf];omega
        ·have hc1I:¬ (c:Int) = 1:=by omega
         go_region_with (go_at_call 134;refine (made_drop nn b off c L _ (uH HLL) (by have:=uH HLEN;omega)).mono ?_;rintro e w2 ⟨v,rfl,⟨n2,a2,c2,L2,rfl,i1⟩,hb2⟩;have I1:=hide i1;have Z0:=(uH X0).drew.below hb2 (uH X0).drew.lt;have Z1:=(uH X1).drew.below hb2 (uH X1).drew.lt;have r0:=Z0.c0;have r1:=Z0.c1;have f0:=Z0.free 0;have f1:=Z0.free 1;have B2:=hide (((uH BEL).drew).trans (hb2.mono ((uH BEL).drew).size));have ZZ0:=hide Z0;have ZZ1:=hide Z1;clear i1 hb2 Z0 Z1)
         all_goals
          go_wp2
          go_roundw
          case rel=>exact ⟨m+32,n2,a2,c2,L2,by go_num,by omega,by omega,ShI.step (v:=val L / 4294967296) (uH ZZ0) (uH ZZ1) (uH I1) rfl (uH HZ2) (by have:=uH HLEN;omega) (uH B2)⟩
          case measure=>simp [intOf];omega
      ·have HI:=hI
       rcases (show (m≤-32∧¬ (0:Int) < (L.length:Int)) ∨ ¬ m≤-32 by omega) with ⟨hg,hp⟩ | hg
       all_goals
        clear hI x0 x1 hL hC hS hlen hz hbel hgp
        go_wp2
        go_loopw [1] (fun i wr=>∃ (m:Int) (nn:Bool) (a:Option Addr) (c:Nat) (L:List Nat),i = .int .i64 m∧-16384≤m∧m≤0∧Hid (ShI w wr z m nn a c L)) (fun i _=>(-(intOf i)).toNat)
        case atStart=>exact ⟨m,nn,a,c,L,rfl,by omega,by omega,HI⟩
        case round =>
         clear HI p0 p1 hg hm1 hm2
         obtain ⟨m,nn,a,c,L,rfl,hm1,hm2,hI⟩:=hrel
         obtain ⟨x0,x1,hL,hC,hS,hlen,hz,hbel⟩:=uH hI
         have p0:=x0.c0;have p1:=x0.c1
         by_cases hgq:m < 0∧0 < L.length
         ·obtain ⟨hg,hp⟩:=hgq
          have hpI:(0:Int) < (L.length:Int):=by omega
          have hz':=hz
          rw [← shF_dn1 _ _ (by omega)] at hz'
          have HZ2:=hide hz'
          have BEL:=hide hbel;have X0:=hide x0;have X1:=hide x1;have HLEN:=hide hlen;have HLL:=hide hL
          clear hz hz' x0 x1 hL hC hS hbel hI hlen
          go_wp2_with fail
          refine (half_any nn a c L wr (uH HLL) (by have:=uH HLEN;omega)).mono ?_
          rintro e w2 ⟨v,rfl,⟨n2,a2,c2,L2,rfl,i1⟩,hb2⟩
          have I1:=hide i1
          have Z0:=(uH X0).below hb2 (uH X0).lt
          have Z1:=(uH X1).below hb2 (uH X1).lt
          have r0:=Z0.c0;have r1:=Z0.c1;have f0:=Z0.free 0;have f1:=Z0.free 1
          have B2:=hide ((uH BEL).trans (hb2.mono (uH BEL).size))
          have ZZ0:=hide Z0;have ZZ1:=hide Z1
          clear i1 hb2 Z0 Z1
          go_wp2
          go_roundw
          case rel=>exact ⟨m+1,n2,a2,c2,L2,by go_num,by omega,by omega,ShI.step (v:=val L / 2) (uH ZZ0) (uH ZZ1) (uH I1) rfl (uH HZ2) (by have:=uH HLEN;omega) (uH B2)⟩
          case measure=>simp [intOf];omega
         ·have hlast:=hI.out.last (by rcases Nat.eq_zero_or_pos L.length with e | e;(right;exact List.length_eq_zero_iff.1 e);(left;omega))
          have HLA:=hide hlast
          have X1:=hide x1;have BEL:=hide hbel;have HLL:=hide hL
          have y0:=x1.c0;have y1:=x1.c1;have f0:=x1.free 0;have f1:=x1.free 1
          rcases (show (m < 0∧¬ (0:Int) < (L.length:Int)) ∨ ¬ m < 0 by omega) with ⟨hg,hp⟩ | hg
          all_goals
           clear hI x0 x1 hL hC hS hlen hz hbel hgq hlast
           go_wp2
           refine bodyPost_ret (v:=.agg #[.bool nn,.slice a L.length c]) (by simp [results,Tryz.results141,go_sem,y0,y1]) rfl ⟨.agg #[.bool nn,.slice a L.length c],rfl,?_,?_⟩
           ·obtain ⟨neg,a',c',L',e1,e2,e3⟩:=uH HLA
            refine ⟨neg,a',c',L',e1,e2.box (uH X1) _ _,e3⟩
           ·exact ((uH BEL).setCell (by simp) _).setCell (by simp) _
end Go.Proofs.YtlnphkioddknfaaGreatDoor
namespace Go.Proofs.YtlnphkioddknfaaGreatDoor
open Go.RowKit
attribute [local go_sem ↓] Go.wp_at_zero Go.wp_at_succ
theorem refShift_none (ao:Option Addr) (ca:Nat) (n:Int) (w:World) :
  Calls Tryz.prog 141 #[.agg #[.bool false,.slice ao 0 ca],.int .i64 n] w fun e w'=>∃ v,e = .returned v∧IsNum 0 w' v 0∧Below w.heap.size w w':=by
 rcases (show (32≤n∧0 < n∧¬ n≤-32∧¬ n < 0) ∨ (¬ 32≤n∧0 < n∧¬ n≤-32∧¬ n < 0) ∨ (¬ 32≤n∧¬ 0 < n∧¬ n≤-32∧¬ n < 0) ∨ (¬ 32≤n∧¬ 0 < n∧¬ n≤-32∧n < 0) ∨ (¬ 32≤n∧¬ 0 < n∧n≤-32∧n < 0) by omega) with ⟨h1,h2,h3,h4⟩ | ⟨h1,h2,h3,h4⟩ | ⟨h1,h2,h3,h4⟩ | ⟨h1,h2,h3,h4⟩ | ⟨h1,h2,h3,h4⟩
 all_goals
  go_enter Tryz.func141,Tryz.ntmps141
  go_wp2
  go_loopw [1] (fun i wr=>i = .int .i64 n∧wr = (w.alloc (.cells #[.bool false,.slice ao 0 ca] 45)).alloc (.cells #[.bool false,.slice none 0 0] 45)) (fun _ _=>0)
  case atStart=>exact ⟨rfl,rfl⟩
  case round =>
   obtain ⟨rfl,rfl⟩:=hrel
   go_wp2
   go_loopw [1] (fun i wr=>i = .int .i64 n∧wr = (w.alloc (.cells #[.bool false,.slice ao 0 ca] 45)).alloc (.cells #[.bool false,.slice none 0 0] 45)) (fun _ _=>0)
   case atStart=>exact ⟨rfl,rfl⟩
   case round =>
    obtain ⟨rfl,rfl⟩:=hrel
    go_wp2
    go_loopw [1] (fun i wr=>i = .int .i64 n∧wr = (w.alloc (.cells #[.bool false,.slice ao 0 ca] 45)).alloc (.cells #[.bool false,.slice none 0 0] 45)) (fun _ _=>0)
    case atStart=>exact ⟨rfl,rfl⟩
    case round =>
     obtain ⟨rfl,rfl⟩:=hrel
     go_wp2
     go_loopw [1] (fun i wr=>i = .int .i64 n∧wr = (w.alloc (.cells #[.bool false,.slice ao 0 ca] 45)).alloc (.cells #[.bool false,.slice none 0 0] 45)) (fun _ _=>0)
     case atStart=>exact ⟨rfl,rfl⟩
     case round =>
      obtain ⟨rfl,rfl⟩:=hrel
      go_wp2
      refine bodyPost_ret (v:=.agg #[.bool false,.slice ao 0 ca]) (by simp [results,Tryz.results141,go_sem]) rfl ⟨.agg #[.bool false,.slice ao 0 ca],rfl,IsNum.zero _ _ _ _,?_⟩
      exact ((Below.refl _ _).alloc (Nat.le_refl _) _).alloc (by simp) _
theorem refShift_any (na:Bool) (ao:Option Addr) (ca:Nat) (A:List Nat) (n:Int) (w:World) (hA:LimbsAt w ao ca A) (hr:rightB na A = true) (hn:-16384≤n∧n≤16384) :
  Calls Tryz.prog 141 #[.agg #[.bool na,.slice ao A.length ca],.int .i64 n] w fun e w'=>∃ v,e = .returned v∧IsNum 0 w' v (shV na A n)∧Below w.heap.size w w':=by
 have hc:=right_canon hr
 by_cases h0:A = []
 ·subst h0
  have:na = false:=by cases na <;> simp_all
  subst this
  have e:shV false [] n = 0:=by rw [shV_shF];simp [val,shF_zero,sg]
  rw [e]
  exact refShift_none ao ca n w
 ·exact refShift_some na ao ca A n w hA h0 hc.2.1 (by omega) hn
def lt1 (n:Bool) (L:List Nat):Bool:=decide (L.length≤40) || !rightB n L
end Go.Proofs.YtlnphkioddknfaaGreatDoor
namespace Go.Proofs.YtlnphkioddknfaaGreatDoor
open Go.RowKit
def fits64 (x:Int):Bool:=decide (-9223372036854775808≤x∧x≤9223372036854775807)
def smE (neg:Bool) (L:List Nat):Int:=if rightB neg L then (if fits64 (sval neg L) then 0 else 2) else 1
def smV (neg:Bool) (L:List Nat):Int:=if rightB neg L && fits64 (sval neg L) then sval neg L else 0
theorem or_above (v x i:Nat) (hv:v < 2 ^ i):v ||| x * 2 ^ i = v+x * 2 ^ i:=by
 have:=Nat.two_pow_add_eq_or_of_lt hv x
 rw [Nat.mul_comm x,Nat.or_comm,← this];omega
theorem or_limb (v x k:Nat) (hk:k≤1) (hv:v < 4294967296 ^ k) (hx:x < 4294967296) :
  bits BinOp.or IntKind.u64 (v:Int) (IntKind.u64.wrap ((x:Int) * 2 ^ (k * 32))) = ((v+4294967296 ^ k * x:Nat):Int):=by
 rcases (show k = 0 ∨ k = 1 by omega) with rfl | rfl
 ·have e:IntKind.u64.wrap ((x:Int) * 2 ^ (0 * 32)) = ((x:Nat):Int):=by
   simp only [IntKind.wrap,IntKind.signed,IntKind.bits];simp;omega
  rw [e,u64_or_nat v x (by simp at hv;omega) (by omega)]
  have:v = 0:=by simpa using hv
  subst this;simp
 ·have e:IntKind.u64.wrap ((x:Int) * 2 ^ (1 * 32)) = ((x * 2 ^ 32:Nat):Int):=by
   simp only [IntKind.wrap,IntKind.signed,IntKind.bits];simp;omega
  rw [e,u64_or_nat v (x * 2 ^ 32) (by simp at hv;omega) (by omega),or_above v x 32 (by simpa using hv)]
  congr 1
  simp;omega
theorem wrap_back (v:Nat) (hv:v≤9223372036854775808):wrap64 (IntKind.u64.wrap (-(v:Int))) = -(v:Int):=by
 unfold wrap64
 simp only [IntKind.wrap,IntKind.signed,IntKind.bits]
 simp
 omega
theorem small_right (neg:Bool) (ao:Option Addr) (cap:Nat) (L:List Nat) (w:World) (h:LimbsAt w ao cap L) (hr:rightB neg L = true) (hl:L.length≤2) :
  Calls Tryz.prog 267 #[.agg #[.bool neg,.slice ao L.length cap]] w fun e w'=>e = .returned (.tuple #[.int .i64 (smV neg L),.int .i64 (smE neg L)])∧Below w.heap.size w w':=by
 have hck:=check_any neg ao cap L (w.alloc (.cells #[.bool neg,.slice ao L.length cap] 45)) (h.below ((Below.refl _ _).alloc (Nat.le_refl _) _)) (by omega)
 have hz:chkE neg L = 0:=by simp [chkE,hr]
 rw [hz] at hck
 have hF:(neg = true→val L≤9223372036854775808→smV neg L = -(val L:Int)∧smE neg L = 0)∧(neg = true→9223372036854775808 < val L→smV neg L = 0∧smE neg L = 2)∧(neg = false→val L < 9223372036854775808→smV neg L = (val L:Int)∧smE neg L = 0)∧(neg = false→9223372036854775808≤val L→smV neg L = 0∧smE neg L = 2):=by
  unfold smV smE
  rw [hr]
  refine ⟨?_,?_,?_,?_⟩ <;> (rintro rfl hv;simp only [sval,fits64,if_true,Bool.true_and,Bool.false_eq_true,if_false])
  ·rw [decide_eq_true (by omega)];simp
  ·rw [decide_eq_false (by omega)];simp
  ·rw [decide_eq_true (by omega)];simp
  ·rw [decide_eq_false (by omega)];simp
 have HF:=hide hF
 clear hF
 generalize smV neg L = r at *
 generalize smE neg L = e2 at *
 have HCK:=hide hck
 clear hck hz hr
 go_enter Tryz.func267,Tryz.ntmps267
 go_wp2_with fail
 refine (uH HCK).mono ?_
 rintro e w1 ⟨rfl,hb1⟩
 have x0:Box2 w1 w.heap.size (.bool neg) (.slice ao L.length cap):=(Box2.new _ _ _).below hb1 (by simp)
 have p0:=x0.c0;have p1:=x0.c1
 have bel:Below w.heap.size w w1:=((Below.refl _ _).alloc (Nat.le_refl _) _).trans (hb1.mono (by simp))
 clear x0 hb1 HCK
 go_wp2
 go_loop [5,19] (fun s i=>∃ k:Nat,k≤L.length∧i = .int .i64 k∧s = .int .u64 ((val (L.take k):Nat):Int)) (fun _ i=>L.length - (intOf i).toNat)
 case atStart=>exact ⟨0,Nat.zero_le _,rfl,by simp [val]⟩
 case round =>
  obtain ⟨k,hk,rfl,rfl⟩:=hrel
  by_cases hlt:k < L.length
  ·obtain ⟨b,off,hao,hb,hc⟩:=h.ne (by omega)
   have c1:=hc k hlt
   have d1:w1.cell? ⟨b,off+k,none⟩ = some (.int .u32 ((L[k]?.getD 0:Nat):Int)):=by rw [bel.cell (p:=⟨b,off+k,none⟩) hb];exact c1
   have hx:=h.lt k
   have hv:=val_take_lt L h.2.1 k
   have hvs:=val_take_succ L k
   have HVS:=hide hvs
   clear c1 hc hvs
   generalize L[k]?.getD 0 = x at *
   generalize hvk:val (L.take k) = v at *
   clear hvk h
   subst hao
   have hk1:k≤1:=by omega
   have hor:=or_limb v x k hk1 hv hx
   have HOR:=hide hor
   clear hor
   go_wp2
   go_round
   case rel=>exact ⟨k+1,by omega,by go_num,int_eq (by rw [uH HOR,uH HVS])⟩
   case measure=>simp [intOf];omega
  ·have hkl:k = L.length:=by omega
   rw [hkl,List.take_length]
   clear hkl hk hlt
   have hvl:=val_lt L h.2.1
   have hv64:val L < 18446744073709551616:=by
    refine Nat.lt_of_lt_of_le hvl ?_
    have:=Nat.pow_le_pow_right (n:=4294967296) (by decide) hl
    simpa using this
   generalize val L = v at *
   clear hvl h
   cases neg
   ·rcases Nat.lt_or_ge v 9223372036854775808 with hv | hv
    ·have H:=hide ((uH HF).2.2.1 rfl hv)
     have hv':(v:Int) < 9223372036854775808:=by omega
     clear HF hv hv64
     go_wp2
     go_ret2
     exact ⟨ret_int2 (uH H).1.symm (uH H).2.symm,bel⟩
    ·have H:=hide ((uH HF).2.2.2 rfl hv)
     have hv':¬ (v:Int) < 9223372036854775808:=by omega
     clear HF
     go_wp2
     go_ret2
     exact ⟨ret_int2 (uH H).1.symm (uH H).2.symm,bel⟩
   ·rcases Nat.lt_or_ge 9223372036854775808 v with hv | hv
    ·have H:=hide ((uH HF).2.1 rfl hv)
     have hv':¬ (v:Int)≤9223372036854775808:=by omega
     clear HF
     go_wp2
     go_ret2
     exact ⟨ret_int2 (uH H).1.symm (uH H).2.symm,bel⟩
    ·have H:=hide ((uH HF).1 rfl hv)
     clear HF
     go_wp2
     go_ret2
     refine ⟨ret_int2 ?_ (uH H).2.symm,bel⟩
     rw [(uH H).1]
     exact wrap_back v hv
theorem small_any (neg:Bool) (ao:Option Addr) (cap:Nat) (L:List Nat) (w:World) (h:LimbsAt w ao cap L) (hl:L.length≤35184372088830) :
  Calls Tryz.prog 267 #[.agg #[.bool neg,.slice ao L.length cap]] w fun e w'=>e = .returned (.tuple #[.int .i64 (smV neg L),.int .i64 (smE neg L)])∧Below w.heap.size w w':=by
 cases hr:rightB neg L
 ·have hck:=check_any neg ao cap L (w.alloc (.cells #[.bool neg,.slice ao L.length cap] 45)) (h.below ((Below.refl _ _).alloc (Nat.le_refl _) _)) hl
  have hz:chkE neg L = 1:=by simp [chkE,hr]
  rw [hz] at hck
  have HCK:=hide hck
  have H:=hide (show smV neg L = 0∧smE neg L = 1 by simp [smV,smE,hr])
  generalize smV neg L = r at *
  generalize smE neg L = e2 at *
  clear hck hz hr
  go_enter Tryz.func267,Tryz.ntmps267
  go_wp2_with fail
  refine (uH HCK).mono ?_
  rintro e w1 ⟨rfl,hb1⟩
  go_wp2
  go_ret2
  exact ⟨ret_int2 (uH H).1.symm (uH H).2.symm,((Below.refl _ _).alloc (Nat.le_refl _) _).trans (hb1.mono (by simp))⟩
 ·by_cases h2:L.length≤2
  ·exact small_right neg ao cap L w h hr h2
  ·have hck:=check_any neg ao cap L (w.alloc (.cells #[.bool neg,.slice ao L.length cap] 45)) (h.below ((Below.refl _ _).alloc (Nat.le_refl _) _)) hl
   have hz:chkE neg L = 0:=by simp [chkE,hr]
   rw [hz] at hck
   have HCK:=hide hck
   have hbig:18446744073709551616≤val L:=by
    rcases (right_canon hr).2.1 with e | e
    ·rw [e] at h2;simp at h2
    ·have h3:=val_ge L e
     have h4:=Nat.pow_le_pow_right (n:=4294967296) (by decide) (show 2≤L.length - 1 by omega)
     simp at h4;omega
   have hf:fits64 (sval neg L) = false:=by
    unfold fits64 sval
    rw [decide_eq_false_iff_not]
    cases neg <;> simp <;> omega
   have H:=hide (show smV neg L = 0∧smE neg L = 2 by simp [smV,smE,hr,hf])
   generalize smV neg L = r at *
   generalize smE neg L = e2 at *
   clear hck hz hr hbig hf
   go_enter Tryz.func267,Tryz.ntmps267
   go_wp2_with fail
   refine (uH HCK).mono ?_
   rintro e w1 ⟨rfl,hb1⟩
   have x0:Box2 w1 w.heap.size (.bool neg) (.slice ao L.length cap):=(Box2.new _ _ _).below hb1 (by simp)
   have p0:=x0.c0;have p1:=x0.c1
   have bel:Below w.heap.size w w1:=((Below.refl _ _).alloc (Nat.le_refl _) _).trans (hb1.mono (by simp))
   clear x0 hb1 HCK
   go_wp2
   go_ret2
   exact ⟨ret_int2 (uH H).1.symm (uH H).2.symm,bel⟩
theorem refOf_any (n:Int) (w:World) (h0:-9223372036854775808≤n) (h1:n≤9223372036854775807) :
  Calls Tryz.prog 89 #[.int .i64 n] w fun e w'=>∃ v,e = .returned v∧IsNumM 2 w.heap.size w' v n∧Below w.heap.size w w':=by
 obtain ⟨m,hm⟩:∃ m,m = n.natAbs:=⟨_,rfl⟩
 have hf:Fits [m % 4294967296,m / 4294967296]:=by intro x hx;simp at hx;omega
 have HF:=hide hf
 have HM:=hide hm
 clear hf hm
 by_cases hn:n < 0
 ·have hs:sval true [m % 4294967296,m / 4294967296] = n:=by
   have:=uH HM
   unfold sval;rw [if_pos rfl,val_two];omega
  have HS:=hide hs
  clear hs
  go_enter Tryz.func89,Tryz.ntmps89
  go_wp2_with fail
  have hm:=uH HM
  have hR:=two_row (w.alloc (.cells #[.bool false,.slice none 0 0] 45)) (w.heap.size+1) ((-(n+1)+1) % 4294967296) ((-(n+1)+1) / 4294967296) (m % 4294967296) (m / 4294967296) (by simp) (by omega) (by omega)
  refine (made_any (w.heap.size+1) true (some ⟨w.heap.size+1,0,none⟩) 2 [m % 4294967296,m / 4294967296] _ (hR.limbs (uH HF) 2 (by simp)) (.inr ⟨_,_,rfl,Nat.le_refl _⟩) (by simp)).mono ?_
  rw [uH HS]
  rintro e w1 ⟨v,rfl,⟨n2,a2,c2,L2,rfl,i1⟩,hb1⟩
  have r1:Box2 w1 w.heap.size (.bool false) (.slice none 0 0):=((Box2.new _ _ _).old _).below hb1 (by simp;omega)
  have y0:=r1.c0;have y1:=r1.c1;have f0:=r1.free 0;have f1:=r1.free 1
  have I1:=hide i1
  have HB1:=hide ((((Below.refl _ w).alloc (Nat.le_refl _) (.cells #[.bool false,.slice none 0 0] 45)).alloc (by simp) _).trans (hb1.mono (by simp;omega)))
  clear i1 hb1 r1 hR hm
  go_wp2
  refine bodyPost_ret (v:=.agg #[.bool n2,.slice a2 L2.length c2]) (by simp [results,Tryz.results89,go_sem,y0,y1]) rfl ⟨.agg #[.bool n2,.slice a2 L2.length c2],rfl,?_,?_⟩
  ·exact IsNumM.stored (uH I1) (by simp) (by simp) (by omega) _ _
  ·exact ((uH HB1).setCell (by simp) _).setCell (by simp) _
 ·have hs:sval false [m % 4294967296,m / 4294967296] = n:=by
   have:=uH HM
   unfold sval;rw [if_neg (by decide),val_two];omega
  have HS:=hide hs
  clear hs
  go_enter Tryz.func89,Tryz.ntmps89
  go_wp2_with fail
  have hm:=uH HM
  have hR:=two_row (w.alloc (.cells #[.bool false,.slice none 0 0] 45)) (w.heap.size+1) (n % 4294967296) (n / 4294967296) (m % 4294967296) (m / 4294967296) (by simp) (by omega) (by omega)
  refine (made_any (w.heap.size+1) false (some ⟨w.heap.size+1,0,none⟩) 2 [m % 4294967296,m / 4294967296] _ (hR.limbs (uH HF) 2 (by simp)) (.inr ⟨_,_,rfl,Nat.le_refl _⟩) (by simp)).mono ?_
  rw [uH HS]
  rintro e w1 ⟨v,rfl,⟨n2,a2,c2,L2,rfl,i1⟩,hb1⟩
  have r1:Box2 w1 w.heap.size (.bool false) (.slice none 0 0):=((Box2.new _ _ _).old _).below hb1 (by simp;omega)
  have y0:=r1.c0;have y1:=r1.c1;have f0:=r1.free 0;have f1:=r1.free 1
  have I1:=hide i1
  have HB1:=hide ((((Below.refl _ w).alloc (Nat.le_refl _) (.cells #[.bool false,.slice none 0 0] 45)).alloc (by simp) _).trans (hb1.mono (by simp;omega)))
  clear i1 hb1 r1 hR hm
  go_wp2
  refine bodyPost_ret (v:=.agg #[.bool n2,.slice a2 L2.length c2]) (by simp [results,Tryz.results89,go_sem,y0,y1]) rfl ⟨.agg #[.bool n2,.slice a2 L2.length c2],rfl,?_,?_⟩
  ·exact IsNumM.stored (uH I1) (by simp) (by simp) (by omega) _ _
  ·exact ((uH HB1).setCell (by simp) _).setCell (by simp) _
end Go.Proofs.YtlnphkioddknfaaGreatDoor
