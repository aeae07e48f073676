/- Part 39 of the texts. -/
import Derived.Test.YtdhmglmccafbnaaGreatDoorPartu38
import Derived.Test.YtdhmglmccafbnaaGreatDoorPartu36
import Derived.Test.YtdhmglmccafbnaaGreatDoorPartu18
namespace Go.Proofs.YtdhmglmccafbnaaGreatDoor
open Go.RowKit
def uv (k:Nat):Nat→Rat:=fun i=>if i = k then 1 else 0
theorem dt_uv (n k:Nat) (hk:k < n) (y:Nat→Rat):dt n (uv k) y = y k:=by
 obtain ⟨r,rfl⟩:∃ r,n = k+(r+1):=⟨n - k - 1,by omega⟩
 unfold dt
 rw [sm_split,sm_shift,sm_noughts k _ (fun i hi=>by show uv k i * y i = 0;unfold uv;rw [if_neg (by omega)];grind),
  sm_noughts r _ (fun i _=>by show uv k (k+(i+1)) * y (k+(i+1)) = 0;unfold uv;rw [if_neg (by omega)];grind)]
 show (0:Rat)+(uv k (k+0) * y (k+0)+0) = y k
 rw [Nat.add_zero]
 unfold uv
 rw [if_pos rfl]
 grind
theorem uv_bd (n k:Nat) (hk:k < n):Bd n (uv k) 1:=by
 refine ⟨by grind,?_⟩
 rw [dt_uv n k hk]
 unfold uv
 rw [if_pos rfl]
 grind
end Go.Proofs.YtdhmglmccafbnaaGreatDoor
namespace Go.Proofs.YtdhmglmccafbnaaGreatDoor
open Go.RowKit
def rwV (R:Nat→Nat→Nat) (i m:Nat):List Nat:=(List.range m).map (fun q=>R i (i+1+q))
def xsV (c:Nat) (R:Nat→Nat→Nat) (d:Nat→Nat):Nat→List Nat
 | 0=>[]
 | m+1=>dV (sbV (d (c - m - 1)) (rwV R (c - m - 1) m) (xsV c R d m)) (R (c - m - 1) (c - m - 1)) :: xsV c R d m
theorem rw_len (R:Nat→Nat→Nat) (i m:Nat):(rwV R i m).length = m:=by simp [rwV]
theorem xs_len (c:Nat) (R:Nat→Nat→Nat) (d:Nat→Nat) (m:Nat):(xsV c R d m).length = m:=by
 induction m with
 | zero=>rfl
 | succ m ih=>show (_ :: xsV c R d m).length = m+1;rw [List.length_cons,ih]
theorem da_max (G:Rat):∀ (rs xs:List Nat),(∀ r ∈ rs,ab (fQ r)≤G)→0≤G→daQ rs xs≤G * s1Q xs:=by
 intro rs
 induction rs with
 | nil =>
  intro xs _ hG
  have e1:daQ [] xs = 0:=by cases xs <;> rfl
  rw [e1]
  exact Rat.mul_nonneg hG (s1Q_0 xs)
 | cons r rs ih =>
  intro xs h hG
  cases xs with
  | nil =>
   have e1:daQ (r :: rs) [] = 0:=rfl
   have e2:s1Q [] = 0:=rfl
   rw [e1,e2]
   grind
  | cons x xs =>
   have i:=ih xs (fun w hw=>h w (List.mem_cons_of_mem _ hw)) hG
   have e1:daQ (r :: rs) (x :: xs) = ab (fQ r * fQ x)+daQ rs xs:=rfl
   have e2:s1Q (x :: xs) = ab (fQ x)+s1Q xs:=rfl
   have m:=Rat.mul_le_mul_of_nonneg_left (h r List.mem_cons_self) (ab_0 (fQ x))
   rw [e1,e2,ab_mul]
   grind
structure Tri (c:Nat) (R:Nat→Nat→Nat) (d:Nat→Nat):Prop where
 six:c≤6
 side:∀ i,i < c→d i < 18446744073709551616∧fFin (d i) = true∧ab (fQ (d i))≤p2 62
 nums:∀ i k,i≤k→k < c→R i k < 18446744073709551616∧fFin (R i k) = true∧ab (fQ (R i k))≤p2 62
 diag:∀ i,i < c→p2 (-101)≤ab (fQ (R i i))
theorem tri_consts:p2 62 * p2 (-900)≤p2 (-830)∧9007199254740992 * (4 * p2 (-1075))≤p2 (-900)∧9007199254740992 * (p2 (-1075) * p2 62)≤p2 (-900):=by
 have e53:(9007199254740992:Rat) = p2 53:=by
  rw [show (53:Int) = ((53:Nat):Int) by rfl,p2_nat];rfl
 have e2:(4:Rat) = p2 2:=by rw [show (2:Int) = ((2:Nat):Int) by rfl,p2_nat];rfl
 refine ⟨?_,?_,?_⟩
 ·rw [← p2_add];exact p2_mono (by decide)
 ·rw [e53,e2,← p2_add,← p2_add];exact p2_mono (by decide)
 ·rw [e53,← p2_add,← p2_add];exact p2_mono (by decide)
theorem tri_all {c:Nat} {R:Nat→Nat→Nat} {d:Nat→Nat} (h:Tri c R d):∀ m,m≤c →
  (∀ x ∈ xsV c R d m,x < 18446744073709551616∧fFin x = true)∧s1Q (xsV c R d m)≤p2 (166 * m) ∧
  (∀ q x,q < m→(xsV c R d (q+1)).head? = some x→9007199254740992 * ab (fQ (d (c - q - 1)) - (fQ x * fQ (R (c - q - 1) (c - q - 1))+dtQ (rwV R (c - q - 1) q) (xsV c R d q)))≤23 * (ab (fQ (d (c - q - 1)))+daQ (rwV R (c - q - 1) q) (xsV c R d q)+p2 (-900))):=by
 intro m
 induction m with
 | zero =>
  intro _
  refine ⟨fun x hx=>(by cases hx),?_,fun q x hq=>(by omega)⟩
  show (0:Rat)≤_
  exact Rat.le_of_lt (p2_pos _)
 | succ m ih =>
  intro hm
  obtain ⟨i1,i2,i3⟩:=ih (by omega)
  have h6:=h.six
  obtain ⟨i,hi⟩:∃ i,c - m - 1 = i:=⟨_,rfl⟩
  have hic:i < c:=by omega
  obtain ⟨d1,d2,d3⟩:=h.side i hic
  obtain ⟨r1,r2,r3⟩:=h.nums i i (Nat.le_refl _) hic
  have r4:=h.diag i hic
  have pd:=p2_pos (-101)
  have r0:fK (R i i) ≠ 0:=fun e=>by
   rw [fQ_nought _ e] at r4
   unfold ab at r4
   grind
  have hrs:∀ x ∈ rwV R i m,fFin x = true∧ab (fQ x)≤p2 62:=fun x hx=>by
   obtain ⟨q,hq,rfl⟩:=List.mem_map.1 hx
   have hq:=List.mem_range.1 hq
   exact (h.nums i (i+1+q) (by omega) (by omega)).2
  have hda:=da_max (p2 62) (rwV R i m) (xsV c R d m) (fun x hx=>(hrs x hx).2) (Rat.le_of_lt (p2_pos _))
  have da0:=daQ_0 (rwV R i m) (xsV c R d m)
  obtain ⟨c1,c2,c3⟩:=tri_consts
  have P62:=p2_pos 62
  have P900:=p2_pos (-900)
  have B0:=s1Q_0 (xsV c R d m)
  -- powers of two
  have m1:=Rat.mul_le_mul_of_nonneg_left i2 (Rat.le_of_lt P62)
  rw [← p2_add] at m1
  have pA:=p2_mono (show (62:Int)≤62+166 * (m:Nat) by omega)
  have pB:=p2_mono (show (-900:Int)≤62+166 * (m:Nat) by omega)
  have pT:=p2_pos (62+166 * ((m:Nat):Int))
  obtain ⟨W,hW⟩:∃ W,ab (fQ (d i))+daQ (rwV R i m) (xsV c R d m)+p2 (-900) = W:=⟨_,rfl⟩
  have d0:=ab_0 (fQ (d i))
  have hW3:W≤3 * p2 (62+166 * (m:Nat)):=by grind
  have big1:16 * p2 (62+166 * ((m:Nat):Int))≤p2 898:=by
   have:=p2_mono (show (62+166 * ((m:Nat):Int))+1+1+1+1≤898 by omega)
   simp only [p2_succ] at this
   grind
  have big2:p2 898≤p2 1000:=p2_mono (by decide)
  have big3:p2 898≤p2 1000 * ab (fQ (R i i)):=by
   have k:=Rat.mul_le_mul_of_nonneg_left r4 (Rat.le_of_lt (p2_pos 1000))
   rw [← p2_add] at k
   exact Rat.le_trans (p2_mono (by decide)) k
  have hη2:9007199254740992 * (p2 (-1075) * ab (fQ (R i i)))≤W:=by
   have k:=Rat.mul_le_mul_of_nonneg_left r3 (Rat.le_of_lt (p2_pos (-1075)))
   generalize p2 (-1075) * ab (fQ (R i i)) = z at *
   generalize p2 (-1075) * p2 62 = z2 at *
   clear big1 big2 big3 pA pB m1
   grind
  obtain ⟨t1,t2,t3,t4⟩:=tri_row (d i) (R i i) W (rwV R i m) (xsV c R d m) (by rw [rw_len];omega) d1 r1 d2 r2 r0 (fun x hx=>(hrs x hx).1) (fun x hx=>(i1 x hx).2)
   (by grind) (by grind) hη2 (by grind) (by grind)
  have ex:xsV c R d (m+1) = dV (sbV (d i) (rwV R i m) (xsV c R d m)) (R i i) :: xsV c R d m:=by rw [← hi];rfl
  refine ⟨?_,?_,?_⟩
  ·rw [ex]
   intro x hx
   rcases List.mem_cons.1 hx with rfl | hx
   ·exact ⟨t2,t1⟩
   ·exact i1 x hx
  ·rw [ex]
   have e2:∀ x xs,s1Q (x :: xs) = ab (fQ x)+s1Q xs:=fun _ _=>rfl
   rw [e2]
   generalize dV (sbV (d i) (rwV R i m) (xsV c R d m)) (R i i) = x at *
   have k:=Rat.mul_le_mul_of_nonneg_left r4 (ab_0 (fQ x))
   rw [← ab_mul] at k
   have k2:ab (fQ x) * p2 (-101)≤6 * p2 (62+166 * (m:Nat)):=by grind
   have k3:=Rat.mul_le_mul_of_nonneg_left k2 (Rat.le_of_lt (p2_pos 101))
   have e3:p2 101 * (ab (fQ x) * p2 (-101)) = ab (fQ x):=by
    rw [Rat.mul_comm (ab (fQ x)),← Rat.mul_assoc,← p2_add,show (101+-101:Int) = 0 by rfl,p2_0,Rat.one_mul]
   have e4:p2 101 * (6 * p2 (62+166 * (m:Nat))) = 6 * p2 (163+166 * (m:Nat)):=by
    rw [show p2 101 * (6 * p2 (62+166 * (m:Nat))) = 6 * (p2 101 * p2 (62+166 * (m:Nat))) by grind,← p2_add,show (101+(62+166 * ((m:Nat):Int)):Int) = 163+166 * (m:Nat) by omega]
   rw [e3,e4] at k3
   have p1:=p2_mono (show 166 * ((m:Nat):Int)≤163+166 * (m:Nat) by omega)
   have p3:8 * p2 (163+166 * ((m:Nat):Int)) = p2 (166 * ((m+1:Nat):Int)):=by
    have e:(166 * ((m+1:Nat):Int)) = 163+166 * ((m:Nat):Int)+1+1+1:=by omega
    rw [e]
    simp only [p2_succ]
    grind
   have p4:=p2_pos (163+166 * ((m:Nat):Int))
   grind
  ·intro q x hq hx
   rcases Nat.lt_or_ge q m with g | g
   ·exact i3 q x g hx
   ·have hqm:q = m:=by omega
    subst hqm
    rw [ex] at hx
    simp only [List.head?_cons,Option.some.injEq] at hx
    subst hx
    rw [hi,hW]
    exact t3
theorem sb_noughts:∀ (rs xs:List Nat) (s:Nat),fFin s = true→fQ s = 0→(∀ r ∈ rs,fFin r = true)→(∀ x ∈ xs,fFin x = true∧fQ x = 0)→fFin (sbV s rs xs) = true∧fQ (sbV s rs xs) = 0:=by
 intro rs
 induction rs with
 | nil =>
  intro xs s f1 f2 _ _
  have e:sbV s [] xs = s:=by cases xs <;> rfl
  rw [e]
  exact ⟨f1,f2⟩
 | cons r rs ih =>
  intro xs s f1 f2 hr hx
  cases xs with
  | nil=>exact ⟨f1,f2⟩
  | cons x xs =>
   obtain ⟨y1,y2⟩:=hx x List.mem_cons_self
   obtain ⟨m1,m2⟩:=mul_noughts r x (hr r List.mem_cons_self) y1 (by rw [y2];grind)
   have pl:=mV_lt r x
   have fn:fFin (fN (mV r x)) = true:=by rw [fFin_fN _ pl];exact m1
   have qn:=fQ_fN _ pl
   obtain ⟨a1,a2⟩:=add_noughts s (fN (mV r x)) f1 fn (by rw [f2,qn,m2];grind)
   exact ih xs _ a1 a2 (fun w hw=>hr w (List.mem_cons_of_mem _ hw)) (fun w hw=>hx w (List.mem_cons_of_mem _ hw))
theorem tri_noughts {c:Nat} {R:Nat→Nat→Nat} {d:Nat→Nat} (h:Tri c R d) (h0:∀ i,i < c→fQ (d i) = 0):∀ m,m≤c→∀ x ∈ xsV c R d m,fFin x = true∧fQ x = 0:=by
 intro m
 induction m with
 | zero=>intro _ x hx;cases hx
 | succ m ih =>
  intro hm x hx
  have i1:=ih (by omega)
  obtain ⟨i,hi⟩:∃ i,c - m - 1 = i:=⟨_,rfl⟩
  have hic:i < c:=by omega
  have ex:xsV c R d (m+1) = dV (sbV (d i) (rwV R i m) (xsV c R d m)) (R i i) :: xsV c R d m:=by rw [← hi];rfl
  rw [ex] at hx
  rcases List.mem_cons.1 hx with rfl | hx
  ·obtain ⟨d1,d2,d3⟩:=h.side i hic
   obtain ⟨r1,r2,r3⟩:=h.nums i i (Nat.le_refl _) hic
   have r4:=h.diag i hic
   have pd:=p2_pos (-101)
   have r0:fK (R i i) ≠ 0:=fun e=>by
    rw [fQ_nought _ e] at r4
    unfold ab at r4
    grind
   obtain ⟨s1,s2⟩:=sb_noughts (rwV R i m) (xsV c R d m) (d i) d2 (h0 i hic) (fun r hr=>by
    obtain ⟨q,hq,rfl⟩:=List.mem_map.1 hr
    have hq:=List.mem_range.1 hq
    have:=h.six
    exact (h.nums i (i+1+q) (by omega) (by omega)).2.1) i1
   have sl:=sb_lt (rwV R i m) (xsV c R d m) (d i) d1
   generalize sbV (d i) (rwV R i m) (xsV c R d m) = s at *
   have k0:fK s = 0:=by
    rcases Int.lt_trichotomy (fK s) 0 with g | g | g
    ·exfalso
     unfold fK at g
     repeat' split at g
     all_goals omega
    ·exact g
    ·exfalso
     have kn:fK s ≠ 0:=by omega
     have t:=eX_top s sl s1 kn
     have:=p2_pos (eX s)
     rw [s2] at t
     unfold ab at t
     grind
   obtain ⟨b3,b4⟩:=fin_kind r2
   have e:dV s (R i i) = wrd (fS s ^^ fS (R i i)) 0:=by
    unfold dV
    rw [if_neg (by rintro (k | k);omega;exact b4 k),if_neg (by rintro ⟨k,_⟩;omega),if_neg (by omega),if_pos (.inr k0)]
   rw [e]
   cases fS s ^^ fS (R i i)
   ·rw [wrd_false];exact ⟨by decide,fQ_0⟩
   ·rw [wrd_true];exact ⟨by decide,fQ_nought _ (by decide)⟩
  ·exact i1 x hx
end Go.Proofs.YtdhmglmccafbnaaGreatDoor
namespace Go.Proofs.YtdhmglmccafbnaaGreatDoor
open Go.RowKit
def lin (c:Nat) (A:Nat→Nat→Rat) (x:Nat→Rat):Nat→Rat:=fun i=>sm c (fun k=>x k * A k i)
theorem lin_bd (n:Nat) (A:Nat→Nat→Rat) (x al:Nat→Rat):∀ (c:Nat),(∀ k,k < c→Bd n (A k) (al k))→Bd n (lin c A x) (sm c (fun k=>ab (x k) * al k)):=by
 intro c
 induction c with
 | zero=>intro _;exact Bd.nought n
 | succ c ih =>
  intro h
  exact (ih (fun k hk=>h k (by omega))).add ((h c (by omega)).mul (x c))
theorem run_lin (n:Nat) (ms:List ((Nat→Rat) × Rat)) (A:Nat→Nat→Rat) (x:Nat→Rat):∀ (c:Nat) (i:Nat),i < n→runM n ms (lin c A x) i = lin c (fun k=>runM n ms (A k)) x i:=by
 intro c
 induction c with
 | zero =>
  intro i hi
  show runM n ms (fun _=>0) i = 0
  have:=run_mul n 0 ms (fun _=>0) i hi
  rw [run_congr n ms (fun i=>0 * (fun _=>(0:Rat)) i) (fun _=>0) (fun k _=>by grind) i hi] at this
  rw [this]
  grind
 | succ c ih =>
  intro i hi
  show runM n ms (fun i=>lin c A x i+x c * A c i) i = lin c (fun k=>runM n ms (A k)) x i+x c * runM n ms (A c) i
  rw [run_add n ms _ _ i hi,run_mul n (x c) ms _ i hi,ih i hi]
theorem ab_sm (n:Nat) (f:Nat→Rat):ab (sm n f)≤sm n (fun i=>ab (f i)):=by
 induction n with
 | zero=>show ab 0≤0;unfold ab;grind
 | succ n ih =>
  have:=ab_add (sm n f) (f n)
  show ab (sm n f+f n)≤sm n (fun i=>ab (f i))+ab (f n)
  grind
theorem sm_const (n:Nat) (c:Rat):sm n (fun _=>c) = (n:Rat) * c:=by
 induction n with
 | zero=>show (0:Rat) = ((0:Nat):Rat) * c;have:((0:Nat):Rat) = 0:=rfl;rw [this];grind
 | succ n ih =>
  show sm n (fun _=>c)+c = ((n+1:Nat):Rat) * c
  rw [ih,Rat.natCast_add]
  have:((1:Nat):Rat) = 1:=rfl
  rw [this]
  grind
theorem run_near {n:Nat} {ε a b:Rat} {ms:List ((Nat→Rat) × Rat)} {y z:Nat→Rat} (hm:Mirs n ε ms) (hy:Bd n y a) (hz:Bd n z b) :
  ab (dt n (runM n ms y) (runM n ms z) - dt n y z)≤a * (bk ε ms.length * (ε * b)):=by
 have h:=hy.dot (bak_run ms z b hm hz)
 rw [dt_add2,dt_mul2] at h
 rw [run_sym]
 have e:dt n y (bakM n ms (runM n ms z)) - dt n y z = dt n y (bakM n ms (runM n ms z))+-1 * dt n y z:=by grind
 rw [e]
 exact h
theorem upright_core {n c:Nat} {ε η γ β:Rat} {ms:List ((Nat→Rat) × Rat)} {A R:Nat→Nat→Rat} {b d x al:Nat→Rat} (hc:c≤n) (hc6:c≤6) (hm:Mirs n ε ms) (hη:0≤η) (hγ:0≤γ)
  (hA:∀ k,k < c→Bd n (A k) (al k)) (hb:Bd n b β)
  (hR:∀ k,k < c→Bd n (fun i=>R k i+(-1) * runM n ms (A k) i) (η * al k)) (h0:∀ k i,k < c→k < i→i < n→R k i = 0)
  (hd:∀ i,i < c→ab (d i - runM n ms b i)≤η * β)
  (hx:∀ i,i < c→ab (d i - lin c R x i)≤γ * (β+sm c (fun k=>ab (x k) * al k))) (l:Nat) (hl:l < c) :
  ab (dt n (A l) (fun i=>b i+(-1) * lin c A x i))≤al l * (β+sm c (fun k=>ab (x k) * al k)) * (bk ε ms.length * ε+η * gw ε ms.length+6 * ((gw ε ms.length+η) * (γ+2 * η))):=by
 obtain ⟨ρ,hρ⟩:∃ ρ,ρ = β+sm c (fun k=>ab (x k) * al k):=⟨_,rfl⟩
 rw [← hρ] at hx ⊢
 have al0:=(hA l hl).1
 have β0:=hb.1
 have s0:0≤sm c (fun k=>ab (x k) * al k):=sm_nonneg (fun k hk=>Rat.mul_nonneg (ab_0 _) (hA k hk).1)
 have ρ0:0≤ρ:=by grind
 have g1:=fun h=>gw_1 ε h ms.length
 have hlinA:=lin_bd n A x al c hA
 -- what is left
 have hres:Bd n (fun i=>b i+(-1) * lin c A x i) ρ:=by
  refine (hb.add (hlinA.mul (-1))).mono ?_
  have:ab (-1) = 1:=by unfold ab;grind
  rw [this,hρ]
  grind
 obtain ⟨res,hr⟩:∃ r,r = (fun i=>b i+(-1) * lin c A x i):=⟨_,rfl⟩
 rw [← hr] at hres ⊢
 have k1:=run_near hm (hA l hl) hres
 have hrun:=run_bd ms res ρ hm hres
 have k2:=(hR l hl).dot hrun
 rw [dt_add,dt_mul] at k2
 -- places of what is left,mirrored
 have place:∀ i,i < c→ab (runM n ms res i)≤(γ+2 * η) * ρ:=by
  intro i hi
  have hin:i < n:=by omega
  have e:runM n ms res i = runM n ms b i+(-1) * lin c (fun k=>runM n ms (A k)) x i:=by
   rw [hr,run_add n ms _ _ i hin,run_mul n (-1) ms _ i hin,run_lin n ms A x c i hin]
  have hlR:ab (lin c R x i+(-1) * lin c (fun k=>runM n ms (A k)) x i)≤η * sm c (fun k=>ab (x k) * al k):=by
   have hE:=lin_bd n (fun k i=>R k i+(-1) * runM n ms (A k) i) x (fun k=>η * al k) c hR
   have h1:=hE.at hin
   have e1:lin c (fun k i=>R k i+(-1) * runM n ms (A k) i) x i = lin c R x i+(-1) * lin c (fun k=>runM n ms (A k)) x i:=by
    show sm c _ = sm c _+(-1) * sm c _
    rw [← sm_mul,← sm_add]
    exact sm_congr (fun k _=>by grind)
   have e2:sm c (fun k=>ab (x k) * (η * al k)) = η * sm c (fun k=>ab (x k) * al k):=by
    rw [← sm_mul]
    exact sm_congr (fun k _=>by grind)
   rw [e1,e2] at h1
   exact h1
  have t1:=hd i hi
  have t2:=hx i hi
  have t3:=Rat.mul_nonneg hη s0
  have t4:=Rat.mul_nonneg hη β0
  rw [e]
  have q:ab (runM n ms b i+-1 * lin c (fun k=>runM n ms (A k)) x i)≤ab (d i - runM n ms b i)+ab (d i - lin c R x i)+ab (lin c R x i+-1 * lin c (fun k=>runM n ms (A k)) x i):=by
   unfold ab
   grind
  have q2:(γ+2 * η) * ρ = γ * ρ+2 * (η * β)+2 * (η * sm c (fun k=>ab (x k) * al k)):=by rw [hρ];grind
  rw [q2]
  grind
 -- the triangle's column against it
 have ε0:0≤ε ∨ ms = []:=by
  cases ms with
  | nil=>exact .inr rfl
  | cons m ms=>exact .inl (hm m List.mem_cons_self).eps
 have gw1:1≤gw ε ms.length:=by
  rcases ε0 with h | h
  ·exact g1 h
  ·rw [h];exact Rat.le_refl
 have hRl:Bd n (R l) ((gw ε ms.length+η) * al l):=by
  refine (((run_bd ms (A l) (al l) hm (hA l hl)).add (hR l hl)).congr (fun i _=>?_)).mono ?_
  ·show runM n ms (A l) i+(R l i+(-1) * runM n ms (A l) i) = R l i
   grind
  ·grind
 have k3:ab (dt n (R l) (runM n ms res))≤6 * ((gw ε ms.length+η) * al l * ((γ+2 * η) * ρ)):=by
  have W0:0≤(gw ε ms.length+η) * al l * ((γ+2 * η) * ρ):=Rat.mul_nonneg hRl.1 (Rat.mul_nonneg (by grind) ρ0)
  -- only the first c places count
  have cut:∀ m,c≤m→m≤n→ab (dt m (R l) (runM n ms res))≤(c:Rat) * ((gw ε ms.length+η) * al l * ((γ+2 * η) * ρ)):=by
   have base:∀ m,m≤c→ab (dt m (R l) (runM n ms res))≤(m:Rat) * ((gw ε ms.length+η) * al l * ((γ+2 * η) * ρ)):=by
    intro m hmc
    have h1:=ab_sm m (fun i=>R l i * runM n ms res i)
    have h2:sm m (fun i=>ab (R l i * runM n ms res i))≤sm m (fun _=>(gw ε ms.length+η) * al l * ((γ+2 * η) * ρ)):=by
     refine sm_le (fun i hi=>?_)
     rw [ab_mul]
     have u1:=hRl.at (show i < n by omega)
     have u2:=place i (by omega)
     have v1:=Rat.mul_nonneg (show 0≤(gw ε ms.length+η) * al l - ab (R l i) by grind) (ab_0 (runM n ms res i))
     have v2:=Rat.mul_nonneg hRl.1 (show 0≤(γ+2 * η) * ρ - ab (runM n ms res i) by grind)
     grind
    rw [sm_const] at h2
    unfold dt
    grind
   intro m
   induction m with
   | zero=>intro h1 _;omega
   | succ m ih =>
    intro h1 h2
    by_cases e:c = m+1
    ·rw [← e];exact base c (Nat.le_refl _)
    ·have h3:=ih (by omega) (by omega)
     have h4:dt (m+1) (R l) (runM n ms res) = dt m (R l) (runM n ms res):=by
      show dt m (R l) (runM n ms res)+R l m * runM n ms res m = _
      rw [h0 l m hl (by omega) (by omega)]
      grind
     rw [h4]
     exact h3
  have h5:=cut n hc (Nat.le_refl _)
  have h6:(c:Rat)≤6:=Rat.natCast_le_natCast.2 hc6
  have h7:=Rat.mul_nonneg (show 0≤6 - (c:Rat) by grind) W0
  grind
 have f1:ab (dt n (A l) res)≤ab (dt n (runM n ms (A l)) (runM n ms res) - dt n (A l) res)+ab (dt n (R l) (runM n ms res)+-1 * dt n (runM n ms (A l)) (runM n ms res))+ab (dt n (R l) (runM n ms res)):=by
  generalize dt n (A l) res = p at *
  generalize dt n (runM n ms (A l)) (runM n ms res) = q at *
  generalize dt n (R l) (runM n ms res) = r at *
  unfold ab
  grind
 have f2:al l * ρ * (bk ε ms.length * ε+η * gw ε ms.length+6 * ((gw ε ms.length+η) * (γ+2 * η))) = al l * (bk ε ms.length * (ε * ρ))+η * al l * (gw ε ms.length * ρ)+6 * ((gw ε ms.length+η) * al l * ((γ+2 * η) * ρ)):=by grind
 rw [f2]
 grind
end Go.Proofs.YtdhmglmccafbnaaGreatDoor
namespace Go.Proofs.YtdhmglmccafbnaaGreatDoor
open Go.RowKit
theorem xs_drop (c:Nat) (R:Nat→Nat→Nat) (d:Nat→Nat) (M:Nat):∀ k,k≤M→(xsV c R d M).drop k = xsV c R d (M - k):=by
 intro k
 induction k with
 | zero=>intro _;rfl
 | succ k ih =>
  intro hk
  obtain ⟨j,hj⟩:∃ j,M - k = j+1:=⟨M - k - 1,by omega⟩
  have e:(xsV c R d M).drop (k+1) = ((xsV c R d M).drop k).drop 1:=by rw [List.drop_drop]
  rw [e,ih (by omega),hj,show M - (k+1) = j by omega]
  rfl
theorem fc_rw (R:Nat→Nat→Nat) (i m p:Nat) (h:p < m):fc (rwV R i m) p = fQ (R i (i+1+p)):=by
 unfold fc rwV
 rw [List.getD_eq_getElem?_getD]
 simp [h]
theorem da_sm:∀ (rs xs:List Nat),rs.length = xs.length→daQ rs xs = sm rs.length (fun i=>ab (fc rs i * fc xs i)):=by
 intro rs
 induction rs with
 | nil =>
  intro xs h
  have:xs = []:=by cases xs with | nil=>rfl | cons y ys=>simp at h
  subst this
  rfl
 | cons r rs ih =>
  intro xs h
  cases xs with
  | nil=>simp at h
  | cons x xs =>
   have e:=ih xs (by simpa using h)
   have e2:daQ (r :: rs) (x :: xs) = ab (fQ r * fQ x)+daQ rs xs:=rfl
   rw [e2,e]
   show _ = sm (rs.length+1) _
   rw [sm_shift]
   rfl
def tcQ (R:Nat→Nat→Nat) (k i:Nat):Rat:=if i≤k then fQ (R i k) else 0
theorem tri_vec {c:Nat} {R:Nat→Nat→Nat} {d:Nat→Nat} (h:Tri c R d) (al:Nat→Rat) (β:Rat) (hal:∀ k,k < c→0≤al k) (hR:∀ i k,i≤k→k < c→ab (fQ (R i k))≤2 * al k) (hd:∀ i,i < c→ab (fQ (d i))≤2 * β) (hβ:p2 (-900)≤β) (i:Nat) (hi:i < c) :
  ab (fQ (d i) - lin c (tcQ R) (fc (xsV c R d c)) i)≤69 / 9007199254740992 * (β+sm c (fun k=>ab (fc (xsV c R d c) k) * al k)):=by
 obtain ⟨_,_,t3⟩:=tri_all h c (Nat.le_refl _)
 obtain ⟨q,hq⟩:∃ q,c = i+1+q:=⟨c - i - 1,by omega⟩
 have hqi:c - q - 1 = i:=by omega
 have dq:(xsV c R d c).drop (i+1) = xsV c R d q:=by rw [xs_drop c R d c (i+1) (by omega),show c - (i+1) = q by omega]
 have di:(xsV c R d c).drop i = xsV c R d (q+1):=by rw [xs_drop c R d c i (by omega),show c - i = q+1 by omega]
 have hx:(xsV c R d (q+1)).head? = some ((xsV c R d c).getD i 0):=by
  rw [← di,List.head?_drop,List.getD_eq_getElem?_getD,List.getElem?_eq_getElem (by rw [xs_len];exact hi)]
  rfl
 have t:=t3 q _ (by omega) hx
 rw [hqi] at t
 have ll:(rwV R i q).length = (xsV c R d q).length:=by rw [rw_len,xs_len]
 have ef:∀ p,fc (xsV c R d q) p = fc (xsV c R d c) (i+1+p):=fun p=>by rw [fc_drop,dq]
 -- the exact sums
 have e1:dtQ (rwV R i q) (xsV c R d q) = sm q (fun p=>fc (xsV c R d c) (i+1+p) * tcQ R (i+1+p) i):=by
  rw [← dt_fc _ _ ll,rw_len]
  refine sm_congr (fun p hp=>?_)
  rw [fc_rw R i q p hp,ef p]
  unfold tcQ
  rw [if_pos (by omega),Rat.mul_comm]
 have e2:lin c (tcQ R) (fc (xsV c R d c)) i = fQ ((xsV c R d c).getD i 0) * fQ (R i i)+dtQ (rwV R i q) (xsV c R d q):=by
  unfold lin
  rw [e1,show sm c (fun k=>fc (xsV c R d c) k * tcQ R k i) = sm (i+1+q) (fun k=>fc (xsV c R d c) k * tcQ R k i) by rw [← hq],sm_split]
  have e3:sm (i+1) (fun k=>fc (xsV c R d c) k * tcQ R k i) = fQ ((xsV c R d c).getD i 0) * fQ (R i i):=by
   show sm i _+fc (xsV c R d c) i * tcQ R i i = _
   rw [sm_noughts i _ (fun k hk=>by unfold tcQ;rw [if_neg (by omega)];grind)]
   have e5:tcQ R i i = fQ (R i i):=by unfold tcQ;exact if_pos (Nat.le_refl _)
   rw [e5]
   show (0:Rat)+fQ ((xsV c R d c).getD i 0) * fQ (R i i) = _
   grind
  rw [e3]
 have e3:daQ (rwV R i q) (xsV c R d q)≤2 * sm c (fun k=>ab (fc (xsV c R d c) k) * al k):=by
  rw [da_sm _ _ ll,rw_len,← sm_mul]
  have s0:0≤sm (i+1) (fun k=>2 * (ab (fc (xsV c R d c) k) * al k)):=sm_nonneg (fun k hk=>by
   have:=Rat.mul_nonneg (ab_0 (fc (xsV c R d c) k)) (hal k (by omega))
   grind)
  have e4:sm c (fun k=>2 * (ab (fc (xsV c R d c) k) * al k)) = sm (i+1) (fun k=>2 * (ab (fc (xsV c R d c) k) * al k))+sm q (fun p=>2 * (ab (fc (xsV c R d c) (i+1+p)) * al (i+1+p))):=by
   rw [show sm c (fun k=>2 * (ab (fc (xsV c R d c) k) * al k)) = sm (i+1+q) (fun k=>2 * (ab (fc (xsV c R d c) k) * al k)) by rw [← hq],sm_split]
  rw [e4]
  have e5:sm q (fun p=>ab (fc (rwV R i q) p * fc (xsV c R d q) p))≤sm q (fun p=>2 * (ab (fc (xsV c R d c) (i+1+p)) * al (i+1+p))):=sm_le (fun p hp=>by
   rw [fc_rw R i q p hp,ef p,ab_mul]
   have m:=Rat.mul_le_mul_of_nonneg_left (hR i (i+1+p) (by omega) (by omega)) (ab_0 (fc (xsV c R d c) (i+1+p)))
   grind)
  grind
 rw [e2]
 have hdi:=hd i hi
 have S0:0≤sm c (fun k=>ab (fc (xsV c R d c) k) * al k):=sm_nonneg (fun k hk=>Rat.mul_nonneg (ab_0 _) (hal k hk))
 generalize sm c (fun k=>ab (fc (xsV c R d c) k) * al k) = S at *
 generalize ab (fQ (d i) - (fQ ((xsV c R d c).getD i 0) * fQ (R i i)+dtQ (rwV R i q) (xsV c R d q))) = z at *
 grind
end Go.Proofs.YtdhmglmccafbnaaGreatDoor
namespace Go.Proofs.YtdhmglmccafbnaaGreatDoor
open Go.RowKit
theorem Bd.abs {n:Nat} {x:Nat→Rat} {a:Rat} (h:Bd n x a):Bd n (fun i=>ab (x i)) a:=by
 refine ⟨h.1,?_⟩
 have e:dt n (fun i=>ab (x i)) (fun i=>ab (x i)) = dt n x x:=sm_congr (fun i _=>by
  show ab (x i) * ab (x i) = x i * x i
  rw [← ab_mul]
  exact ab_pos (sq_nonneg _))
 rw [e]
 exact h.2
theorem da_bd (n:Nat) (Q B:List Nat) (hQ:Q.length = n) (hB:B.length = n) (a b:Rat) (h1:Bd n (fc Q) a) (h2:Bd n (fc B) b):daQ Q B≤a * b:=by
 have e:daQ Q B = dt n (fun i=>ab (fc Q i)) (fun i=>ab (fc B i)):=by
  rw [da_sm Q B (by omega),hQ]
  exact sm_congr (fun i _=>ab_mul _ _)
 rw [e]
 have k:=(h1.abs).dot (h2.abs)
 have l:=le_ab (dt n (fun i=>ab (fc Q i)) (fun i=>ab (fc B i)))
 grind
theorem q_side (n:Nat) (h6:n≤6) (ms:List ((Nat→Rat) × Rat)) (Q B:List Nat) (i:Nat) (hi:i < n) (hQ:Q.length = n) (hQf:∀ x ∈ Q,fFin x = true) (hQ1:Bd n (fc Q) (1001 / 1000)) (hQ2:Bd n (fun k=>fc Q k+(-1) * bakM n ms (uv i) k) (1730 / 9007199254740992))
  (hB:B.length = n) (hBf:∀ x ∈ B,fFin x = true) (β:Rat) (hb:Bd n (fc B) β) (b1:p2 (-900)≤β) (b2:β≤p2 900) :
  fFin (dtV 0 Q B) = true∧ab (fQ (dtV 0 Q B) - runM n ms (fc B) i)≤1760 / 9007199254740992 * β:=by
 have hda:=da_bd n Q B hQ hB _ _ hQ1 hb
 have P:=p2_pos (-900)
 have big:16 * p2 900≤p2 1000:=by
  have h1:=p2_mono (show (900+1+1+1+1:Int)≤1000 by decide)
  simp only [p2_succ] at h1
  grind
 obtain ⟨c1,c2,c3⟩:=tri_consts
 obtain ⟨f1,e1⟩:=dot_err0 (1001 / 1000 * β) Q B (by omega) (by grind) (by grind) hQf hBf hda
 refine ⟨f1,?_⟩
 have hl2:(Q.length:Rat)≤6:=Rat.natCast_le_natCast.2 (by omega:Q.length≤6)
 have hlW:=Rat.mul_nonneg (show 0≤6 - (Q.length:Rat) by grind) (show 0≤1001 / 1000 * β by grind)
 have e2:dtQ Q B = dt n (fc Q) (fc B):=by rw [← dt_fc Q B (by omega),hQ]
 have e3:runM n ms (fc B) i = dt n (bakM n ms (uv i)) (fc B):=by
  rw [dt_comm,← run_sym,dt_comm,dt_uv n i hi]
 have k:=hQ2.dot hb
 rw [dt_add,dt_mul] at k
 rw [e2] at e1
 rw [e3]
 have l1:=le_ab (fQ (dtV 0 Q B) - dt n (fc Q) (fc B));have l2:=le_ab (dt n (fc Q) (fc B)+-1 * dt n (bakM n ms (uv i)) (fc B))
 have t:=ab_le (x:=fQ (dtV 0 Q B) - dt n (bakM n ms (uv i)) (fc B)) (y:=ab (fQ (dtV 0 Q B) - dt n (fc Q) (fc B))+ab (dt n (fc Q) (fc B)+-1 * dt n (bakM n ms (uv i)) (fc B))) (by grind) (by grind)
 have e4:(6 - (Q.length:Rat)) * (1001 / 1000 * β) = 6 * (1001 / 1000 * β) - (Q.length:Rat) * (1001 / 1000 * β):=by grind
 rw [e4] at hlW
 generalize (Q.length:Rat) * (1001 / 1000 * β) = z0 at *
 generalize ab (fQ (dtV 0 Q B) - dt n (fc Q) (fc B)) = z1 at *
 generalize ab (dt n (fc Q) (fc B)+-1 * dt n (bakM n ms (uv i)) (fc B)) = z2 at *
 clear l1 l2 e4
 grind
theorem bk_six:∀ k,k≤6→1000 * bk (1 / 8796093022208) k≤18001:=by
 intro k hk
 have h:k = 0 ∨ k = 1 ∨ k = 2 ∨ k = 3 ∨ k = 4 ∨ k = 5 ∨ k = 6:=by omega
 rcases h with rfl | rfl | rfl | rfl | rfl | rfl | rfl <;> decide +kernel
theorem least_upright {n c:Nat} {A:Nat→Nat→Rat} {ms:List ((Nat→Rat) × Rat)} {C:Nat→List Nat} {d:Nat→Nat} {al:Nat→Rat} {b:Nat→Rat} {β:Rat} (hC:Cols n c A) (hc:c≤n) (hm:Mirs n (1 / 8796093022208) ms) (hl:ms.length≤6)
  (hR:∀ k,k < c→∀ q,Bd n (A k) q→Bd n (fun i=>fc (C k) i+(-1) * runM n ms (A k) i) (4040 / 9007199254740992 * q)) (h0:∀ k i,k < c→k < i→i < n→fc (C k) i = 0)
  (hA:∀ k,k < c→Bd n (A k) (al k)) (hb:Bd n b β) (hβ:p2 (-900)≤β) (hd:∀ i,i < c→ab (fQ (d i) - runM n ms b i)≤1760 / 9007199254740992 * β)
  (hT:Tri c (fun i k=>(C k).getD i 0) d) (l:Nat) (hlc:l < c) :
  ab (dt n (A l) (fun i=>b i+(-1) * lin c A (fc (xsV c (fun i k=>(C k).getD i 0) d c)) i))≤al l * (β+sm c (fun k=>ab (fc (xsV c (fun i k=>(C k).getD i 0) d c) k) * al k)) * (71400 / 9007199254740992):=by
 have h6:=hC.six
 have P:=p2_pos (-900)
 have g1:=gw_six ms.length hl
 have k1:=bk_six ms.length hl
 have g0:=gw_1 (1 / 8796093022208) (by grind) ms.length
 have al0:∀ k,k < c→0≤al k:=fun k hk=>(hA k hk).1
 have hRk:∀ i k,i≤k→k < c→ab (fQ ((C k).getD i 0))≤2 * al k:=fun i k hik hk=>by
  have r1:=(hR k hk _ (hA k hk)).add (run_bd ms (A k) (al k) hm (hA k hk))
  have r2:=(r1.congr (fun i _=>(by grind:(fc (C k) i+(-1) * runM n ms (A k) i)+runM n ms (A k) i = fc (C k) i))).at (k:=i) (by omega)
  have a0:=al0 k hk
  have m:=Rat.mul_nonneg (show 0≤1000001 - 1000000 * gw (1 / 8796093022208) ms.length by grind) a0
  show ab (fc (C k) i)≤_
  generalize gw (1 / 8796093022208) ms.length = G at *
  have e4:(1000001 - 1000000 * G) * al k = 1000001 * al k - 1000000 * (G * al k):=by grind
  rw [e4] at m
  generalize G * al k = z2 at *
  grind
 have hdi:∀ i,i < c→ab (fQ (d i))≤2 * β:=fun i hi=>by
  have r:=(run_bd ms b β hm hb).at (k:=i) (by omega)
  have e:=hd i hi
  have l1:=le_ab (fQ (d i) - runM n ms b i);have l2:=le_ab (runM n ms b i)
  have t:=ab_le (x:=fQ (d i)) (y:=ab (fQ (d i) - runM n ms b i)+ab (runM n ms b i)) (by grind) (by grind)
  have m:=Rat.mul_nonneg (show 0≤1000001 - 1000000 * gw (1 / 8796093022208) ms.length by grind) (show 0≤β by grind)
  generalize gw (1 / 8796093022208) ms.length = G at *
  have e4:(1000001 - 1000000 * G) * β = 1000001 * β - 1000000 * (G * β):=by grind
  rw [e4] at m
  clear l1 l2
  generalize G * β = z2 at *
  grind
 have hx:=fun i (hi:i < c)=>tri_vec hT al β al0 hRk hdi hβ i hi
 have hlin:∀ i,i < c→lin c (tcQ (fun i k=>(C k).getD i 0)) (fc (xsV c (fun i k=>(C k).getD i 0) d c)) i = lin c (fun k=>fc (C k)) (fc (xsV c (fun i k=>(C k).getD i 0) d c)) i:=fun i hi=>by
  unfold lin
  refine sm_congr (fun k hk=>?_)
  have e:tcQ (fun i k=>(C k).getD i 0) k i = fc (C k) i:=by
   unfold tcQ
   split
   ·rfl
   ·exact (h0 k i hk (by omega) (by omega)).symm
  rw [e]
 have core:=upright_core (n:=n) (c:=c) (ε:=1 / 8796093022208) (η:=4040 / 9007199254740992) (γ:=69 / 9007199254740992) (β:=β) (ms:=ms) (A:=A) (R:=fun k=>fc (C k)) (b:=b) (d:=fun i=>fQ (d i)) (x:=fc (xsV c (fun i k=>(C k).getD i 0) d c)) (al:=al)
  hc (by omega) hm (by grind) (by grind) hA hb (fun k hk=>hR k hk _ (hA k hk)) h0 (fun i hi=>by have:=hd i hi;grind) (fun i hi=>by have:=hx i hi;rw [hlin i hi] at this;exact this) l hlc
 refine Rat.le_trans core ?_
 have S0:0≤sm c (fun k=>ab (fc (xsV c (fun i k=>(C k).getD i 0) d c) k) * al k):=sm_nonneg (fun k hk=>Rat.mul_nonneg (ab_0 _) (al0 k hk))
 have a0:=al0 l hlc
 refine Rat.mul_le_mul_of_nonneg_left ?_ (Rat.mul_nonneg a0 (by grind))
 generalize gw (1 / 8796093022208) ms.length = G at *
 generalize bk (1 / 8796093022208) ms.length = K at *
 grind
end Go.Proofs.YtdhmglmccafbnaaGreatDoor
namespace Go.Proofs.YtdhmglmccafbnaaGreatDoor
open Go.RowKit
theorem bd_fine (n:Nat) (y:Nat→Rat):∃ a,Bd n y a∧1000 * (a * a)≤1001 * dt n y y:=by
 have Y0:=dt_sq n y
 rcases Rat.le_iff_lt_or_eq.1 Y0 with g | g
 ·obtain ⟨a,a0,a1,a2⟩:=root_fine _ g
  exact ⟨a,⟨a0,a1⟩,a2⟩
 ·exact ⟨0,⟨by grind,by rw [← g];grind⟩,by rw [← g];grind⟩
theorem bds_fine (n:Nat) (A:Nat→Nat→Rat):∃ al:Nat→Rat,∀ k,Bd n (A k) (al k)∧1000 * (al k * al k)≤1001 * dt n (A k) (A k) :=
 ⟨fun k=>Classical.choose (bd_fine n (A k)),fun k=>Classical.choose_spec (bd_fine n (A k))⟩
theorem least_square {n c:Nat} {A:Nat→Nat→Rat} {ms:List ((Nat→Rat) × Rat)} {C:Nat→List Nat} {d:Nat→Nat} {b:Nat→Rat} (hC:Cols n c A) (hc:c≤n) (hm:Mirs n (1 / 8796093022208) ms) (hl:ms.length≤6)
  (hR:∀ k,k < c→∀ q,Bd n (A k) q→Bd n (fun i=>fc (C k) i+(-1) * runM n ms (A k) i) (4040 / 9007199254740992 * q)) (h0:∀ k i,k < c→k < i→i < n→fc (C k) i = 0)
  (hb1:Bd n b (p2 62)) (hb2:∃ i,i < n∧p2 (-60)≤ab (b i)) (hd:∀ β,Bd n b β→p2 (-900)≤β→β≤p2 900→∀ i,i < c→ab (fQ (d i) - runM n ms b i)≤1760 / 9007199254740992 * β)
  (hT:Tri c (fun i k=>(C k).getD i 0) d) (x:Nat→Rat) (hx:x = fc (xsV c (fun i k=>(C k).getD i 0) d c)) :
  1180591620717411303424 * sm c (fun l=>dt n (A l) (fun i=>b i+(-1) * lin c A x i) * dt n (A l) (fun i=>b i+(-1) * lin c A x i))≤sm c (fun k=>dt n (A k) (A k)) * (sm c (fun k=>dt n (A k) (A k)) * dt c x x+dt n b b):=by
 obtain ⟨al,hal⟩:=bds_fine n A
 obtain ⟨β,hβ,hβ2⟩:=bd_fine n b
 have β0:=hβ.1
 have lo:p2 (-900)≤β:=by
  obtain ⟨i,hi,z⟩:=hb2
  have k:=hβ.at hi
  have:=p2_mono (show (-900:Int)≤-60 by decide)
  grind
 have hi:β≤p2 900:=by
  have P:=p2_pos 62
  have k:β≤2 * p2 62:=le_of_sq (by grind) (by have:=hb1.2;have:=sq_nonneg (p2 62);grind)
  have:=p2_mono (show (62+1:Int)≤900 by decide)
  rw [p2_succ] at this
  grind
 have up:=fun l (hl2:l < c)=>least_upright hC hc hm hl hR h0 (fun k _=>(hal k).1) hβ lo (hd β hβ lo hi) hT l hl2
 rw [← hx] at up
 obtain ⟨S,hS⟩:∃ S,sm c (fun k=>ab (x k) * al k) = S:=⟨_,rfl⟩
 obtain ⟨SA,hSA⟩:∃ SA,sm c (fun k=>dt n (A k) (A k)) = SA:=⟨_,rfl⟩
 rw [hS] at up
 have al0:∀ k,0≤al k:=fun k=>(hal k).1.1
 have S0:0≤S:=by rw [← hS];exact sm_nonneg (fun k _=>Rat.mul_nonneg (ab_0 _) (al0 k))
 have SA0:0≤SA:=by rw [← hSA];exact sm_nonneg (fun k _=>dt_sq n (A k))
 -- sizes of all columns
 have Lal:1000 * sm c (fun k=>al k * al k)≤1001 * SA:=by
  rw [← hSA,← sm_mul,← sm_mul]
  exact sm_le (fun k _=>(hal k).2)
 have L0:0≤sm c (fun k=>al k * al k):=sm_nonneg (fun k _=>sq_nonneg _)
 have hX0:=dt_sq c x
 have hS2:1000 * (S * S)≤1001 * (SA * dt c x x):=by
  have cs:=dt_cs c (fun k=>ab (x k)) al
  have e1:dt c (fun k=>ab (x k)) al = S:=hS
  have e2:dt c (fun k=>ab (x k)) (fun k=>ab (x k)) = dt c x x:=sm_congr (fun i _=>by
   show ab (x i) * ab (x i) = x i * x i
   rw [← ab_mul]
   exact ab_pos (sq_nonneg _))
  have e3:dt c al al = sm c (fun k=>al k * al k):=rfl
  rw [e1,e2,e3] at cs
  have m:=Rat.mul_le_mul_of_nonneg_left Lal hX0
  generalize sm c (fun k=>al k * al k) = L at *
  generalize dt c x x = X at *
  have e4:X * (1000 * L) = 1000 * (X * L):=by grind
  have e5:X * (1001 * SA) = 1001 * (SA * X):=by grind
  rw [e4,e5] at m
  generalize S * S = z1 at *
  generalize X * L = z2 at *
  grind
 have hT2:1000 * ((β+S) * (β+S))≤2002 * (dt n b b+SA * dt c x x):=by
  have s1:=sq_nonneg (β - S)
  have e1:(β - S) * (β - S) = β * β - 2 * (β * S)+S * S:=by grind
  have e2:(β+S) * (β+S) = β * β+2 * (β * S)+S * S:=by grind
  rw [e1] at s1
  rw [e2]
  generalize SA * dt c x x = z0 at *
  generalize dt n b b = z4 at *
  generalize β * β = z1 at *
  generalize β * S = z2 at *
  generalize S * S = z3 at *
  grind
 have hg:sm c (fun l=>dt n (A l) (fun i=>b i+(-1) * lin c A x i) * dt n (A l) (fun i=>b i+(-1) * lin c A x i))≤(β+S) * (β+S) * (5097960000 / 81129638414606681695789005144064) * sm c (fun k=>al k * al k):=by
  rw [← sm_mul]
  refine sm_le (fun l hl2=>?_)
  have u:=up l hl2
  have g0:=ab_0 (dt n (A l) (fun i=>b i+(-1) * lin c A x i))
  have e:dt n (A l) (fun i=>b i+(-1) * lin c A x i) * dt n (A l) (fun i=>b i+(-1) * lin c A x i) = ab (dt n (A l) (fun i=>b i+(-1) * lin c A x i)) * ab (dt n (A l) (fun i=>b i+(-1) * lin c A x i)):=by
   rw [← ab_mul];exact (ab_pos (sq_nonneg _)).symm
  rw [e]
  generalize ab (dt n (A l) (fun i=>b i+(-1) * lin c A x i)) = g at *
  have k:=Rat.mul_nonneg (show 0≤al l * (β+S) * (71400 / 9007199254740992) - g by grind) (show 0≤al l * (β+S) * (71400 / 9007199254740992)+g by
   have:=Rat.mul_nonneg (al0 l) (show 0≤β+S by grind)
   grind)
  have e2:(al l * (β+S) * (71400 / 9007199254740992) - g) * (al l * (β+S) * (71400 / 9007199254740992)+g) = (β+S) * (β+S) * (5097960000 / 81129638414606681695789005144064) * (al l * al l) - g * g:=by grind
  rw [e2] at k
  grind
 rw [hSA]
 have T0:=sq_nonneg (β+S)
 have Q0:0≤dt n b b+SA * dt c x x:=by
  have:=dt_sq n b
  have:=Rat.mul_nonneg SA0 hX0
  grind
 have m1:=Rat.mul_le_mul_of_nonneg_left Lal T0
 have m2:=Rat.mul_le_mul_of_nonneg_left hT2 SA0
 have mm:=Rat.mul_nonneg SA0 Q0
 rw [show dt n b b+SA * dt c x x = SA * dt c x x+dt n b b by grind] at *
 generalize SA * dt c x x+dt n b b = Q at *
 generalize sm c (fun l=>dt n (A l) (fun i=>b i+(-1) * lin c A x i) * dt n (A l) (fun i=>b i+(-1) * lin c A x i)) = Gg at *
 generalize sm c (fun k=>al k * al k) = L at *
 generalize (β+S) * (β+S) = T at *
 have e1:T * (1000 * L) = 1000 * (T * L):=by grind
 have e2:T * (1001 * SA) = 1001 * (T * SA):=by grind
 have e3:SA * (1000 * T) = 1000 * (T * SA):=by grind
 have e4:SA * (2002 * Q) = 2002 * (SA * Q):=by grind
 have e5:T * (5097960000 / 81129638414606681695789005144064) * L = 5097960000 / 81129638414606681695789005144064 * (T * L):=by grind
 rw [e1,e2] at m1
 rw [e3,e4] at m2
 rw [e5] at hg
 generalize T * L = z1 at *
 generalize T * SA = z2 at *
 generalize SA * Q = z3 at *
 clear up hd hR h0 hC hT hal e1 e2 e3 e4 e5
 grind
end Go.Proofs.YtdhmglmccafbnaaGreatDoor
namespace Go.Proofs.YtdhmglmccafbnaaGreatDoor
open Go.RowKit
theorem Elt.qstep {Z:Rat} {r c:Nat} {S:List Nat} (h:Elt Z r c S) {j:Nat} (r6:r≤6) (hjr:j < r) (hjc:j < c) (hZ:Z≤p2 290) (hη:p2 (-800)≤Z) :
  qrO r c S j = true∧Elt (24 * Z) r c (qrS r c S j):=by
 have p0:=p2_pos (-800)
 have Z0:0 < Z:=by grind
 have hη2:1267650600228229401496703205376 * p2 (-1075)≤Z:=Rat.le_trans (eta_p2 (-800) (by decide)) hη
 have hZ9:6 * Z≤p2 900:=by
  have:=p2_mono (show (290+1+1+1:Int)≤900 by decide)
  simp only [p2_succ] at this
  have:=p2_pos 290
  grind
 have hX:Small Z (qxL r c S j):=h.col (by omega) hjc
 have lX:(qxL r c S j).length = r - j:=colL_len _ _ _ _ _
 obtain ⟨c1,c2,c3,c4,c5,c6⟩:=mr_crude (qxL r c S j) (by omega) (hX.mono (Rat.le_trans hZ (p2_mono (by decide))))
 refine ⟨?_,?_⟩
 ·unfold qrO
  rw [c1,Bool.and_true,finL_all]
  intro k hk
  have hm:(qxL r c S j).getD k 0 ∈ qxL r c S j:=by
   rw [List.getD_eq_getElem?_getD,List.getElem?_eq_getElem hk]
   exact List.getElem_mem _
  exact (hX _ hm).2.1
 ·unfold qrS
  have hap:=h.ap j j (mrV (qxL r c S j)) (mrT (qxL r c S j)) (by rw [mrV_len,lX];omega) (by rw [mrV_len,lX];omega) c2 c3 c4 hZ9 hη2
  exact hap.cl j _ (by grind) (mrB_size _ Z (by omega) hX hZ hη)
theorem p2_five (K:Int) (j:Nat):p2 (K+5 * ((j+1:Nat):Int)) = 32 * p2 (K+5 * (j:Int)):=by
 rw [show (K+5 * ((j+1:Nat):Int)) = K+5 * (j:Int)+((5:Nat):Int) by omega,p2_upW]
 rfl
theorem Elt.qall {r c:Nat} {S:List Nat} (h:Elt (p2 200) r c S) (r6:r≤6):∀ j,j≤qrN r c→Elt (p2 (200+5 * j)) r c (qrR r c S j)∧qrK r c S j = true:=by
 intro j
 induction j with
 | zero=>intro _;exact ⟨h,rfl⟩
 | succ j ih =>
  intro hj
  obtain ⟨i1,i2⟩:=ih (by omega)
  have hj2:=(qrN_lt r c j).1 (by omega)
  obtain ⟨s2,s3⟩:=i1.qstep (j:=j) r6 (by omega) (by omega) (p2_mono (by omega)) (p2_mono (by omega))
  refine ⟨s3.mono ?_,?_⟩
  ·rw [p2_five]
   have:=p2_pos (200+5 * (j:Int))
   grind
  ·show (qrK r c S j && qrO r c (qrR r c S j) j) = true
   rw [i2,s2]
   rfl
theorem Elt.qQ {r c:Nat} {S:List Nat} (h:Elt (p2 200) r c S) (r6:r≤6):∀ t,t≤qrN r c→Elt (p2 (0+5 * t)) r r (qrQ r c S (qrN r c) t):=by
 have hA:=h.qall r6
 have q6:qrN r c≤6:=by unfold qrN;omega
 intro t
 induction t with
 | zero=>intro _;exact Elt.eye r
 | succ t ih =>
  intro ht
  have i:=ih (by omega)
  have hj2:=(qrN_lt r c (qrN r c - 1 - t)).1 (by omega)
  obtain ⟨j,hj⟩:∃ j,qrN r c - 1 - t = j:=⟨_,rfl⟩
  rw [hj] at hj2
  have hjA:=(hA j (by omega)).1
  have hX:Small (p2 300) (qrX r c S j):=(hjA.col (i:=j) (n:=r - j) (by omega) (by omega)).mono (p2_mono (by omega))
  obtain ⟨c1,c2,c3,c4,c5,c6⟩:=mr_crude (qrX r c S j) (by rw [qrX_len];omega) hX
  show Elt _ r r (apM r r (qrQ r c S (qrN r c) t) (qrN r c - 1 - t) 0 (mrV (qrX r c S (qrN r c - 1 - t))) (mrT (qrX r c S (qrN r c - 1 - t))))
  rw [hj]
  have hZ9:6 * p2 (0+5 * (t:Int))≤p2 900:=by
   have h1:=p2_mono (show (0+5 * (t:Int)+1+1+1:Int)≤900 by omega)
   simp only [p2_succ] at h1
   have:=p2_pos (0+5 * (t:Int))
   grind
  refine (i.ap j 0 _ _ (by rw [mrV_len,qrX_len];omega) (by rw [mrV_len,qrX_len];omega) c2 c3 c4 hZ9 (eta_p2 _ (by omega))).mono ?_
  rw [p2_five]
  have:=p2_pos (0+5 * (t:Int))
  grind
theorem fac_ends {r c:Nat} {S:List Nat} (h:Elt (p2 200) r c S) (hl:S.length = r * c) (r6:r≤6):facK r c S = true∧Elt (p2 290) r r (facQ r c S)∧Elt (p2 290) r c (facR r c S):=by
 have hA:=h.qall r6
 have q6:qrN r c≤6:=by unfold qrN;omega
 have hR:Elt (p2 290) r c (facR r c S):=(hA (qrN r c) (Nat.le_refl _)).1.mono (p2_mono (by omega))
 have hQ:=h.qQ r6
 have hq:Elt (p2 290) r r (facQ r c S):=(hQ (qrN r c) (Nat.le_refl _)).mono (p2_mono (by omega))
 refine ⟨?_,hq,hR⟩
 unfold facK
 rw [(hA (qrN r c) (Nat.le_refl _)).2,hq.fins (qrQ_len _ _ _ _ _),hR.fins (qrR_len r c S hl _)]
 rfl
end Go.Proofs.YtdhmglmccafbnaaGreatDoor
