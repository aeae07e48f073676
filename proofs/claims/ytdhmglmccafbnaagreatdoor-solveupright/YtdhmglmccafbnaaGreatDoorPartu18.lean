/- Part 18 of the texts. -/
import Derived.Test.YtdhmglmccafbnaaGreatDoorPartu17
namespace Go.Proofs.YtdhmglmccafbnaaGreatDoor
open Go.RowKit
def TopV (K:Int) (xs:List Nat):Prop:=(∀ x ∈ xs,x < 18446744073709551616∧fFin x = true)∧(bgF 0 xs = 0 ∨ (-K≤eX (bgF 0 xs)∧eX (bgF 0 xs) < K))
theorem top_big (K:Int) (xs:List Nat) (h:TopV K xs) (h0:bgF 0 xs ≠ 0) :
  bgF 0 xs < 9218868437227405312∧fFin (bgF 0 xs) = true∧fK (bgF 0 xs) ≠ 0∧fS (bgF 0 xs) = false∧-K≤eX (bgF 0 xs)∧eX (bgF 0 xs) < K ∧
  (∀ x ∈ xs,ab (fQ x)≤fQ (bgF 0 xs))∧(∀ x ∈ xs,ab (dQ (eX (bgF 0 xs)) x)≤2)∧(∃ x ∈ xs,ab (fQ x) = fQ (bgF 0 xs)∧1≤dQ (eX (bgF 0 xs)) x * dQ (eX (bgF 0 xs)) x):=by
 obtain ⟨g1,g2,g3,g4⟩:=bgF_fin xs 0 (by decide) (fun x hx=>(h.1 x hx).2)
 have h2:=h.2
 generalize hM:bgF 0 xs = M at *
 obtain ⟨a1,a2,a3⟩:=mag_fZ M (by omega)
 have fM:fFin M = true:=(fK_rungs M).2.2.2 (by rw [a2];exact g1)
 have kM:fK M ≠ 0:=fun e=>h0 (by have:=(fK_zero M).1 e;omega)
 have q0:=fQ_pos M a3
 have qM:fQ M = (rv M:Rat) * p2 (-1074):=by rw [fQ_sign,a3,a2];rfl
 obtain ⟨t1,t2⟩:=eX_top M (by omega) fM kM
 rw [ab_pos q0] at t1 t2
 have hall:∀ x ∈ xs,ab (fQ x)≤fQ M:=fun x hx=>by
  rw [fQ_ab,qM]
  have h1:(rv (fR x):Rat)≤(rv M:Rat):=Rat.natCast_le_natCast.2 (rv_mono (g3 x hx))
  have:=Rat.mul_le_mul_of_nonneg_left h1 (Rat.le_of_lt (p2_pos (-1074)))
  grind
 obtain ⟨y,hy,hy2⟩:∃ x ∈ xs,fR x = M:=by
  rcases g4 with g4 | g4
  ·exact absurd g4 h0
  ·exact g4
 clear g4
 have ey:ab (fQ y) = fQ M:=by rw [fQ_ab,qM,hy2]
 have hp:=p2_pos (-eX M)
 have hpp:p2 (-eX M) * p2 (eX M) = 1:=p2_neg _
 rw [p2_succ] at t2
 have u1:=Rat.mul_le_mul_of_nonneg_left t1 (Rat.le_of_lt hp)
 have u2:=Rat.mul_lt_mul_of_pos_left t2 hp
 have hd:∀ x,ab (dQ (eX M) x) = ab (fQ x) * p2 (-eX M):=fun x=>by
  unfold dQ;rw [ab_mul,ab_pos (Rat.le_of_lt hp)]
 have hr:=h2.resolve_left h0
 refine ⟨g1,fM,kM,a3,hr.1,hr.2,hall,?_,y,hy,ey,?_⟩
 ·intro x hx
  rw [hd]
  have:=Rat.mul_le_mul_of_nonneg_left (hall x hx) (Rat.le_of_lt hp)
  grind
 ·have e1:1≤ab (dQ (eX M) y):=by rw [hd,ey];grind
  have e2:dQ (eX M) y * dQ (eX M) y = ab (dQ (eX M) y) * ab (dQ (eX M) y):=by
   rw [← ab_mul];exact (ab_pos (sq_nonneg _)).symm
  rw [e2]
  have:=Rat.mul_nonneg (show 0≤ab (dQ (eX M) y) - 1 by grind) (show 0≤ab (dQ (eX M) y) - 1 by grind)
  grind
theorem top_parts (K:Int) (hK:K≤900) (xs:List Nat) (hl:xs.length≤64) (h:TopV K xs) (h0:bgF 0 xs ≠ 0) :
  let k:=eX (bgF 0 xs);let s:=ssV k 0 xs
  nrV xs = xV (sV s) k∧fFin s = true∧fS s = false∧fK s ≠ 0∧1≤sqQ k xs∧9007199254740992 * ab (fQ s - sqQ k xs)≤130 * sqQ k xs ∧
  fFin (sV s) = true∧sV s < 18446744073709551616∧fS (sV s) = false∧1≤2 * fQ (sV s)∧fQ (sV s)≤17∧fFin (nrV xs) = true∧fS (nrV xs) = false∧fQ (nrV xs) = fQ (sV s) * p2 k:=by
 intro k s
 obtain ⟨b1,b2,b3,b4,b5,b6,b7,b8,y,hy,b9,b10⟩:=top_big K xs h h0
 have hn:nrV xs = xV (sV s) k:=by
  unfold nrV
  rw [if_neg (by rw [b2];simp [h0])]
 have T1:1≤sqQ k xs:=by have:=sqQ_mem k xs y hy;grind
 have hl2:(xs.length:Rat)≤64:=Rat.natCast_le_natCast.2 hl
 have T2:sqQ k xs≤256:=by have:=sqQ_le k xs b8;grind
 have hlG:=Rat.mul_nonneg (show 0≤64 - (xs.length:Rat) by grind) (show 0≤sqQ k xs by grind)
 have z0:fQ 0 = 0:=fQ_nought 0 (by decide)
 obtain ⟨e1,e2,e3⟩:=ss_err k (sqQ k xs) T1 T2 xs 0 0 0 (fun x hx=>⟨(h.1 x hx).1,(h.1 x hx).2,b8 x hx⟩) (by decide) (by decide) (by grind) (by grind) (by rw [z0];unfold ab;grind)
 have e4:9007199254740992 * ab (fQ s - sqQ k xs)≤130 * sqQ k xs:=by
  have:(0:Rat)+sqQ k xs = sqQ k xs:=Rat.zero_add _
  rw [this] at e3
  grind
 have l:=le_ab (fQ s - sqQ k xs)
 have s1:1≤2 * fQ s:=by grind
 have k0:fK s ≠ 0:=fun e=>by
  have:=fQ_nought s e
  grind
 obtain ⟨r1,r2,r3,r4,r5,r6,r7⟩:=sqrt_err s e1 k0 e2
 have r8:1≤2 * fQ (sV s):=by
  rcases Rat.le_total (a:=1) (b:=2 * fQ (sV s)) with g | g
  ·exact g
  ·have:=Rat.mul_nonneg (show 0≤1 - 2 * fQ (sV s) by grind) (show 0≤1+2 * fQ (sV s) by grind)
   grind
 have r9:fQ (sV s)≤17:=by
  rcases Rat.le_total (a:=fQ (sV s)) (b:=17) with g | g
  ·exact g
  ·have:=Rat.mul_nonneg (show 0≤fQ (sV s) - 17 by grind) (show 0≤fQ (sV s)+17 by grind)
   grind
 have hpk:=p2_pos k
 have x1:ab (fQ (sV s)) * p2 k < p2 1023:=by
  rw [ab_pos r5]
  have m1:=Rat.mul_le_mul_of_nonneg_left r9 (Rat.le_of_lt hpk)
  have m2:=p2_mono (show k+1+1+1+1+1≤1023 by omega)
  simp only [p2_succ] at m2
  grind
 have x2:p2 (-1022)≤ab (fQ (sV s)) * p2 k:=by
  rw [ab_pos r5]
  have m1:=Rat.mul_le_mul_of_nonneg_left r8 (Rat.le_of_lt hpk)
  have m2:=p2_mono (show -1022+1≤k by omega)
  rw [p2_succ] at m2
  grind
 obtain ⟨y1,y2⟩:=scale_exact (sV s) k r3 r1 x1 x2
 refine ⟨hn,e1,e2,k0,T1,e4,r1,r3,r2,r8,r9,by rw [hn];exact y1,?_,by rw [hn];exact y2⟩
 have q0:fK (sV s) ≠ 0:=fun e=>by
  have:=fQ_nought (sV s) e
  grind
 rw [hn,xV_fin _ _ r1 q0]
 have hle:=rnd_le (fD (sV s)).natAbs (fX (sV s)+k)
 rw [fS_wrd _ _ (by omega)]
 exact r2
theorem top_right2 (K:Int) (hK:K≤900) (xs:List Nat) (hl:xs.length≤64) (h:TopV K xs) (h0:bgF 0 xs ≠ 0) :
  fFin (nrV xs) = true∧fS (nrV xs) = false∧0 < fQ (nrV xs)∧9007199254740992 * ab (fQ (nrV xs) * fQ (nrV xs) - sumQ xs)≤135 * sumQ xs:=by
 obtain ⟨n1,n2,n3,n4,n5,n6,n7,n8,n9,n10,n11,n12,n13,n14⟩:=top_parts K hK xs hl h h0
 have hp:=p2_pos (eX (bgF 0 xs))
 refine ⟨n12,n13,?_,?_⟩
 ·rw [n14]
  exact Rat.mul_pos (by grind) hp
 obtain ⟨r1,r2,r3,r4,r5,r6,r7⟩:=sqrt_err _ n2 n4 n3
 rw [n14,← sqQ_sum (eX (bgF 0 xs)) xs]
 generalize fQ (sV (ssV (eX (bgF 0 xs)) 0 xs)) = R at *
 generalize fQ (ssV (eX (bgF 0 xs)) 0 xs) = S at *
 generalize sqQ (eX (bgF 0 xs)) xs = T at *
 have hPP:=Rat.mul_pos hp hp
 have e1:R * p2 (eX (bgF 0 xs)) * (R * p2 (eX (bgF 0 xs))) - T * (p2 (eX (bgF 0 xs)) * p2 (eX (bgF 0 xs))) = (R * R - T) * (p2 (eX (bgF 0 xs)) * p2 (eX (bgF 0 xs))):=by grind
 rw [e1,ab_mul,ab_pos (Rat.le_of_lt hPP)]
 generalize p2 (eX (bgF 0 xs)) * p2 (eX (bgF 0 xs)) = Q at *
 have l:=le_ab (S - T)
 have e2:9007199254740992 * ab (R * R - T)≤135 * T:=by
  generalize R * R = RR at *
  unfold ab
  grind
 have:=Rat.mul_le_mul_of_nonneg_left e2 (Rat.le_of_lt hPP)
 grind
theorem top_size (xs:List Nat) (hl:xs.length≤64) (h:TopV 200 xs) (h0:bgF 0 xs ≠ 0) :
  0 < fQ (nrV xs)∧fFin (nrV xs) = true∧fS (nrV xs) = false∧9007199254740992 * ab (fQ (nrV xs) * fQ (nrV xs) - sumQ xs)≤135 * sumQ xs∧fQ (nrV xs)≤p2 204∧p2 (-201)≤fQ (nrV xs)∧(∀ x ∈ xs,1000000 * ab (fQ x)≤1000001 * fQ (nrV xs)):=by
 obtain ⟨n1,n2,n3,n4⟩:=top_right2 200 (by decide) xs hl h h0
 obtain ⟨b1,b2,b3,b4,b5,b6,b7,b8,y,hy,b9,b10⟩:=top_big 200 xs h h0
 have hl2:(xs.length:Rat)≤64:=Rat.natCast_le_natCast.2 hl
 have P0:=p2_pos 200
 have hM:=eX_top _ (by omega) b2 b3
 rw [ab_pos (fQ_pos _ b4)] at hM
 have hM2:=p2_mono (show eX (bgF 0 xs)+1≤200 by omega)
 have hM3:=p2_mono (show -200≤eX (bgF 0 xs) by omega)
 have hS:sumQ xs≤64 * (p2 200 * p2 200):=by
  have h1:=sum_len (p2 200) xs (fun x hx=>by have:=b7 x hx;grind)
  have:=Rat.mul_nonneg (show 0≤64 - (xs.length:Rat) by grind) (sq_nonneg (p2 200))
  grind
 have hy2:=sum_mem xs y hy
 have hy3:p2 (-200)≤ab (fQ y):=by rw [b9];grind
 have Q0:=p2_pos (-200)
 have qy:=sq_nonneg (fQ y)
 have ey:ab (fQ y) * ab (fQ y) = fQ y * fQ y:=by rw [← ab_mul];exact ab_pos qy
 have hL:p2 (-200) * p2 (-200)≤sumQ xs:=by
  have m:=Rat.mul_nonneg (show 0≤ab (fQ y) - p2 (-200) by grind) (show 0≤ab (fQ y)+p2 (-200) by grind)
  grind
 have l:=le_ab (fQ (nrV xs) * fQ (nrV xs) - sumQ xs)
 have e204:p2 204 = 16 * p2 200:=by rw [show (204:Int) = 200+1+1+1+1 by rfl];simp only [p2_succ];grind
 have e201:p2 (-200) = 2 * p2 (-201):=by rw [show (-200:Int) = -201+1 by rfl,p2_succ]
 have s0:=sumQ_nonneg xs
 refine ⟨n3,n1,n2,n4,?_,?_,fun x hx=>?_⟩
 ·refine le_of_sq (Rat.le_of_lt (p2_pos _)) ?_
  rw [e204]
  generalize fQ (nrV xs) * fQ (nrV xs) = MM at *
  have:16 * p2 200 * (16 * p2 200) = 256 * (p2 200 * p2 200):=by grind
  rw [this]
  generalize p2 200 * p2 200 = PP at *
  grind
 ·refine le_of_sq (Rat.le_of_lt n3) ?_
  have:p2 (-200) * p2 (-200) = 4 * (p2 (-201) * p2 (-201)):=by rw [e201];grind
  rw [this] at hL
  have hpp:=Rat.mul_pos (p2_pos (-201)) (p2_pos (-201))
  generalize fQ (nrV xs) * fQ (nrV xs) = MM at *
  generalize p2 (-201) * p2 (-201) = PP at *
  grind
 ·have hx2:=sum_mem xs x hx
  have qx:=sq_nonneg (fQ x)
  have ex:ab (fQ x) * ab (fQ x) = fQ x * fQ x:=by rw [← ab_mul];exact ab_pos qx
  refine le_of_sq (by grind) ?_
  rw [show 1000000 * ab (fQ x) * (1000000 * ab (fQ x)) = 1000000000000 * (ab (fQ x) * ab (fQ x)) by grind,ex,show 1000001 * fQ (nrV xs) * (1000001 * fQ (nrV xs)) = 1000002000001 * (fQ (nrV xs) * fQ (nrV xs)) by grind]
  generalize fQ (nrV xs) * fQ (nrV xs) = MM at *
  generalize fQ x * fQ x = XX at *
  grind
end Go.Proofs.YtdhmglmccafbnaaGreatDoor
namespace Go.Proofs.YtdhmglmccafbnaaGreatDoor
open Go.RowKit
def quosM (d κ:Rat):List Nat→List Nat→Prop
 | v :: vs,x :: xs=>9007199254740992 * ab (fQ v * d - fQ x)≤2 * ab (fQ x)+κ∧quosM d κ vs xs
 | [],[]=>True
 | _,_=>False
theorem quosM_sq (d κ E:Rat) (hκ:0≤κ):∀ (vs xs:List Nat),quosM d κ vs xs→(∀ x ∈ xs,4 * (ab (fQ x) * κ)+4 * (κ * κ)≤E)→9007199254740992 * ab (sumQ vs * (d * d) - sumQ xs)≤5 * sumQ xs+(xs.length:Rat) * E∧9007199254740992 * ab (dtQ vs xs * d - sumQ xs)≤2 * sumQ xs+(xs.length:Rat) * E:=by
 intro vs
 induction vs with
 | nil =>
  intro xs h _
  cases xs with
  | nil =>
   have e1:sumQ [] = 0:=rfl
   have e2:dtQ [] [] = 0:=rfl
   have e3:(([]:List Nat).length:Rat) = 0:=rfl
   rw [e1,e2,e3,Rat.zero_mul,Rat.zero_mul]
   unfold ab
   grind
  | cons x xs=>exact absurd h (by unfold quosM;exact id)
 | cons v vs ih =>
  intro xs h hE
  cases xs with
  | nil=>exact absurd h (by unfold quosM;exact id)
  | cons x xs =>
   unfold quosM at h
   obtain ⟨h1,h2⟩:=h
   obtain ⟨i1,i2⟩:=ih xs h2 (fun y hy=>hE y (List.mem_cons_of_mem _ hy))
   have hE1:=hE x List.mem_cons_self
   have e1:sumQ (v :: vs) = fQ v * fQ v+sumQ vs:=rfl
   have e2:sumQ (x :: xs) = fQ x * fQ x+sumQ xs:=rfl
   have e3:dtQ (v :: vs) (x :: xs) = fQ v * fQ x+dtQ vs xs:=rfl
   have e4:((x :: xs).length:Rat) * E = (xs.length:Rat) * E+E:=by
    rw [List.length_cons,Rat.natCast_add]
    have:((1:Nat):Rat) = 1:=rfl
    rw [this]
    grind
   rw [e1,e2,e3,e4]
   obtain ⟨z,hz⟩:∃ z,fQ v * d = fQ x+z:=⟨fQ v * d - fQ x,by grind⟩
   have k:fQ v * d - fQ x = z:=by grind
   rw [k] at h1
   have x0:=ab_0 (fQ x);have z0:=ab_0 z
   have qx:=sq_nonneg (fQ x);have qz:=sq_nonneg z
   have ex:ab (fQ x) * ab (fQ x) = fQ x * fQ x:=by rw [← ab_mul];exact ab_pos qx
   have ez:ab z * ab z = z * z:=by rw [← ab_mul];exact ab_pos qz
   have xκ:=Rat.mul_nonneg x0 hκ
   have κκ:=Rat.mul_nonneg hκ hκ
   have p1:=Rat.mul_le_mul_of_nonneg_left h1 x0
   have p2':=Rat.mul_le_mul_of_nonneg_left h1 z0
   have p3:=Rat.mul_le_mul_of_nonneg_left h1 hκ
   have exz:ab (fQ x * z) = ab (fQ x) * ab z:=ab_mul _ _
   have v1:9007199254740992 * ab (fQ x * z)≤2 * (fQ x * fQ x)+ab (fQ x) * κ:=by grind
   have v2:9007199254740992 * (z * z)≤2 * ab (fQ x * z)+κ * ab z:=by grind
   have v3:9007199254740992 * (κ * ab z)≤2 * (ab (fQ x) * κ)+κ * κ:=by grind
   have l1:=le_ab (fQ x * z)
   have w1:(fQ v * fQ v+sumQ vs) * (d * d) - (fQ x * fQ x+sumQ xs) = 2 * (fQ x * z)+z * z+(sumQ vs * (d * d) - sumQ xs):=by
    have:fQ v * fQ v * (d * d) = (fQ x+z) * (fQ x+z):=by rw [← hz];grind
    grind
   have w2:(fQ v * fQ x+dtQ vs xs) * d - (fQ x * fQ x+sumQ xs) = fQ x * z+(dtQ vs xs * d - sumQ xs):=by
    have:fQ v * fQ x * d = (fQ x+z) * fQ x:=by rw [← hz];grind
    grind
   rw [w1,w2]
   have l2:=le_ab (sumQ vs * (d * d) - sumQ xs);have l3:=le_ab (dtQ vs xs * d - sumQ xs)
   clear w1 w2 p1 p2' p3 ex ez exz hz k h1 h2 e4 hE
   generalize sumQ vs * (d * d) - sumQ xs = A at *
   generalize dtQ vs xs * d - sumQ xs = B at *
   generalize fQ x * z = C at *
   generalize z * z = Z at *
   generalize fQ x * fQ x = X at *
   generalize ab (fQ x) * κ = XK at *
   generalize κ * ab z = KZ at *
   generalize κ * κ = KK at *
   generalize (xs.length:Rat) * E = L at *
   constructor
   ·refine Rat.le_trans (Rat.mul_le_mul_of_nonneg_left (ab_le (y:=2 * ab C+Z+ab A) (by grind) (by grind)) (by decide)) ?_
    grind
   ·refine Rat.le_trans (Rat.mul_le_mul_of_nonneg_left (ab_le (y:=ab C+ab B) (by grind) (by grind)) (by decide)) ?_
    grind
theorem mirror_two3 (r ε ρ τ V:Rat) (hr1:-1≤r) (hr2:100 * r≤-49) (hε:9007199254740992 * ab ε≤1) (hρ:9007199254740992 * ab (ρ+1+2 * r)≤137)
  (hτ:9007199254740992 * ab (τ * r+1)≤4) (hV:9007199254740992 * ab (V * ((1+ε) * (1+ε)) - ρ)≤5 * ρ+3):8796093022208 * ab (τ * (1+V) - 2)≤1:=by
 obtain ⟨θ,hθ⟩:∃ θ,τ * r+1 = θ:=⟨_,rfl⟩
 obtain ⟨φ,hφ⟩:∃ φ,V * ((1+ε) * (1+ε)) - ρ = φ:=⟨_,rfl⟩
 obtain ⟨ψ,hψ⟩:∃ ψ,ρ+1+2 * r = ψ:=⟨_,rfl⟩
 obtain ⟨E,hE⟩:∃ E,2 * ε+ε * ε = E:=⟨_,rfl⟩
 obtain ⟨N,hN⟩:∃ N,τ * (1+V) - 2 = N:=⟨_,rfl⟩
 rw [hθ] at hτ
 rw [hφ] at hV
 rw [hψ] at hρ
 rw [hN]
 have lε:=le_ab ε;have lψ:=le_ab ψ;have lθ:=le_ab θ;have lφ:=le_ab φ
 have e1:9007199254740992 * ab E≤3:=by
  have h1:=ab_mul_le (x:=ε) (y:=ε) (by grind)
  have l:=le_ab (ε * ε)
  refine Rat.le_trans (Rat.mul_le_mul_of_nonneg_left (ab_le (y:=2 * ab ε+ab (ε * ε)) (by grind) (by grind)) (by decide)) ?_
  grind
 have lE:=le_ab E
 have r1:ab r≤1:=ab_le (by grind) (by grind)
 have b1:=ab_mul_le (y:=θ) r1
 have b2:=ab_mul_le (y:=E) r1
 have b3:=ab_mul_le (x:=θ) (y:=ψ+E+φ) (by grind)
 have b4:ab (ψ+E+φ)≤ab ψ+ab E+ab φ:=ab_le (by grind) (by grind)
 have c1:=le_ab (r * θ);have c2:=le_ab (r * E);have c3:=le_ab (θ * (ψ+E+φ))
 have key:N * (r * (1+E)) = -(2 * (r * θ))+θ * (ψ+E+φ) - ψ - E - φ - 2 * (r * E):=by
  rw [← hN,← hθ,← hφ,← hψ,← hE]
  grind
 have k2:9007199254740992 * ab (N * (r * (1+E)))≤322:=by
  rw [key]
  refine Rat.le_trans (Rat.mul_le_mul_of_nonneg_left (ab_le (y:=2 * ab (r * θ)+ab (θ * (ψ+E+φ))+ab ψ+ab E+ab φ+2 * ab (r * E)) (by grind) (by grind)) (by decide)) ?_
  grind
 rw [ab_mul] at k2
 have d1:48≤100 * ab (r * (1+E)):=by
  have l:=le_ab (r * (1+E))
  have e2:r * (1+E) = r+r * E:=by grind
  rw [e2] at l ⊢
  grind
 have N0:=ab_0 N
 have m:=Rat.mul_le_mul_of_nonneg_left d1 N0
 have m2:48 * ab N≤100 * (ab N * ab (r * (1+E))):=by
  rw [show 48 * ab N = ab N * 48 by grind,show 100 * (ab N * ab (r * (1+E))) = ab N * (100 * ab (r * (1+E))) by grind]
  exact m
 clear m d1 key c1 c2 c3 b1 b2 b3 b4 hN hE hψ hφ hθ
 generalize ab N * ab (r * (1+E)) = Z at *
 grind
theorem mirror_norm3 (a b R d t V:Rat) (hR:0≤R) (hsg:(0 < b∧a≤0) ∨ (b < 0∧0≤a)) (h1:9007199254740992 * ab (b * b - (a * a+R))≤135 * (a * a+R))
  (h2:9007199254740992 * ab (d - (a - b))≤ab (a - b)) (h3:9007199254740992 * ab (t * b+(a - b))≤4 * ab (a - b)) (h4:4503599627370496 * ab a≤4503599627370496 * ab b+70 * ab b) (h5:9007199254740992 * ab (V * (d * d) - R)≤5 * R+(a * a+R)) :
  8796093022208 * ab (t * (1+V) - 2)≤1∧9007199254740992 * t≤18014398509481984+200∧9007199254740992≤9007199254740992 * t+5:=by
 obtain ⟨D,hD⟩:∃ D,a - b = D:=⟨_,rfl⟩
 have D0:D ≠ 0:=by intro e;grind
 obtain ⟨I,hI⟩:∃ I,D * I = 1:=⟨D⁻¹,Rat.mul_inv_cancel D D0⟩
 rw [hD] at h2 h3
 have aDI:ab D * ab I = 1:=by rw [← ab_mul,hI];exact ab_pos (by decide)
 have I0:=ab_0 I
 have qI:=sq_nonneg I
 have eII:ab I * ab I = I * I:=by rw [← ab_mul];exact ab_pos qI
 -- r and α
 obtain ⟨r,hr⟩:∃ r,b * I = r:=⟨_,rfl⟩
 obtain ⟨α,hα⟩:∃ α,a * I = α:=⟨_,rfl⟩
 have har:α - r = 1:=by rw [← hα,← hr,← hI,← hD];grind
 have qa:=sq_nonneg a;have qb:=sq_nonneg b
 have hα0:0≤α:=by
  have e:α = a * D * (I * I):=by
   rw [← hα]
   have:I = D * I * I:=by rw [hI,Rat.one_mul]
   grind
  rw [e]
  refine Rat.mul_nonneg ?_ qI
  rw [← hD]
  rcases hsg with ⟨g1,g2⟩ | ⟨g1,g2⟩
  ·have:=Rat.mul_nonneg (show 0≤-a by grind) (Rat.le_of_lt g1)
   grind
  ·have:=Rat.mul_nonneg g2 (show 0≤-b by grind)
   grind
 have hr0:r≤0:=by
  have e:-r = -(b * D) * (I * I):=by
   rw [← hr]
   have:I = D * I * I:=by rw [hI,Rat.one_mul]
   grind
  have:0≤-r:=by
   rw [e]
   refine Rat.mul_nonneg ?_ qI
   rw [← hD]
   rcases hsg with ⟨g1,g2⟩ | ⟨g1,g2⟩
   ·have:=Rat.mul_nonneg (show 0≤-a by grind) (Rat.le_of_lt g1)
    grind
   ·have:=Rat.mul_nonneg g2 (show 0≤-b by grind)
    grind
  grind
 have ea:ab a * ab I = α:=by rw [← ab_mul,hα];exact ab_pos hα0
 have eb:ab b * ab I = -r:=by rw [← ab_mul,hr];unfold ab;grind
 have hα2:4503599627370496 * α≤4503599627370496 * -r+70 * -r:=by
  have:=Rat.mul_le_mul_of_nonneg_left h4 I0
  rw [← ea,← eb]
  grind
 have hr1:-1≤r:=by grind
 have hr2:100 * r≤-49:=by grind
 -- ε
 obtain ⟨ε,hε⟩:∃ ε,(d - D) * I = ε:=⟨_,rfl⟩
 have hdI:d * I = 1+ε:=by rw [← hε,← hI];grind
 have bε:9007199254740992 * ab ε≤1:=by
  rw [← hε,ab_mul,← aDI]
  have:=Rat.mul_le_mul_of_nonneg_left h2 I0
  grind
 -- ρ
 obtain ⟨ρ,hρ⟩:∃ ρ,R * (I * I) = ρ:=⟨_,rfl⟩
 have bρ:9007199254740992 * ab (ρ+1+2 * r)≤137:=by
  have e:ρ+1+2 * r = -((b * b - (a * a+R)) * (I * I)):=by
   have e1:b * b * (I * I) = r * r:=by rw [← hr];grind
   have e2:a * a * (I * I) = α * α:=by rw [← hα];grind
   have e3:-((b * b - (a * a+R)) * (I * I)) = a * a * (I * I)+R * (I * I) - b * b * (I * I):=by grind
   rw [e3,e1,e2,hρ,show α = 1+r by grind]
   grind
  rw [e,ab_neg,ab_mul,ab_pos (x:=I * I) qI]
  have l:=le_ab (b * b - (a * a+R))
  have h6:9007199254740992 * ab (b * b - (a * a+R))≤136 * (b * b):=by
   generalize ab (b * b - (a * a+R)) = z at *
   grind
  have m:=Rat.mul_le_mul_of_nonneg_left h6 qI
  have e1:I * I * (136 * (b * b)) = 136 * (r * r):=by rw [← hr];grind
  rw [e1] at m
  have rr:=Rat.mul_nonneg (show 0≤1+r by grind) (show 0≤1 - r by grind)
  have rr2:=sq_nonneg r
  grind
 have bτ:9007199254740992 * ab (t * r+1)≤4:=by
  have e:t * r+1 = (t * b+D) * I:=by rw [← hr,← hI];grind
  rw [e,ab_mul]
  have m:=Rat.mul_le_mul_of_nonneg_left h3 I0
  grind
 have bV:9007199254740992 * ab (V * ((1+ε) * (1+ε)) - ρ)≤5 * ρ+3:=by
  have e:V * ((1+ε) * (1+ε)) - ρ = (V * (d * d) - R) * (I * I):=by rw [← hdI,← hρ];grind
  rw [e,ab_mul,ab_pos (x:=I * I) qI,← hρ]
  have m:=Rat.mul_le_mul_of_nonneg_left h5 qI
  have e2:a * a * (I * I) = α * α:=by rw [← hα];grind
  have lρ:=le_ab (ρ+1+2 * r)
  have α1:=Rat.mul_nonneg (show 0≤1 - α by grind) (show 0≤1+α by grind)
  have e3:I * I * (5 * R+(a * a+R)) = 6 * (R * (I * I))+α * α:=by rw [← e2];grind
  rw [e3,hρ] at m
  rw [hρ]
  grind
 refine ⟨mirror_two3 r ε ρ t V hr1 hr2 bε bρ bτ bV,?_,?_⟩
 ·have l:=le_ab (t * r+1)
  -- t (-r) <= 1+4u,-r >= 1 / (2+70 / 2^52)
  rcases Rat.le_total (a:=9007199254740992 * t) (b:=18014398509481984+200) with g | g
  ·exact g
  ·exfalso
   have m:=Rat.mul_nonneg (show 0≤9007199254740992 * t - (18014398509481984+200) by grind) (show 0≤-r by grind)
   have e:(9007199254740992 * t - (18014398509481984+200)) * -r = -(9007199254740992 * (t * r))+(18014398509481984+200) * r:=by grind
   rw [e] at m
   generalize t * r = z at *
   grind
 ·have l:=le_ab (t * r+1)
  rcases Rat.le_total (a:=9007199254740992) (b:=9007199254740992 * t+5) with g | g
  ·exact g
  ·exfalso
   have m:=Rat.mul_nonneg (show 0≤9007199254740992 - (9007199254740992 * t+5) by grind) (show 0≤-r by grind)
   have e:(9007199254740992 - (9007199254740992 * t+5)) * -r = 9007199254740992 * (t * r) - 9007199254740992 * r+5 * r:=by grind
   rw [e] at m
   generalize t * r = z at *
   grind
theorem mirror_own3 (a b R d t G:Rat) (hR:0≤R) (hsg:(0 < b∧a≤0) ∨ (b < 0∧0≤a)) (h1:9007199254740992 * ab (b * b - (a * a+R))≤135 * (a * a+R))
  (h2:9007199254740992 * ab (d - (a - b))≤ab (a - b)) (h3:9007199254740992 * ab (t * b+(a - b))≤4 * ab (a - b)) (h4:4503599627370496 * ab a≤4503599627370496 * ab b+70 * ab b) (h5:9007199254740992 * ab (G * d - R)≤2 * R+(a * a+R)) (ht:1000 * ab t≤2001) :
  9007199254740992 * ab (t * (a+G) - (a - b))≤300 * ab (a - b):=by
 obtain ⟨D,hD⟩:∃ D,a - b = D:=⟨_,rfl⟩
 have D0:D ≠ 0:=by intro e;grind
 obtain ⟨I,hI⟩:∃ I,D * I = 1:=⟨D⁻¹,Rat.mul_inv_cancel D D0⟩
 rw [hD] at h2 h3
 have aDI:ab D * ab I = 1:=by rw [← ab_mul,hI];exact ab_pos (by decide)
 have I0:=ab_0 I
 have qI:=sq_nonneg I
 have eII:ab I * ab I = I * I:=by rw [← ab_mul];exact ab_pos qI
 -- r and α
 obtain ⟨r,hr⟩:∃ r,b * I = r:=⟨_,rfl⟩
 obtain ⟨α,hα⟩:∃ α,a * I = α:=⟨_,rfl⟩
 have har:α - r = 1:=by rw [← hα,← hr,← hI,← hD];grind
 have qa:=sq_nonneg a;have qb:=sq_nonneg b
 have hα0:0≤α:=by
  have e:α = a * D * (I * I):=by
   rw [← hα]
   have:I = D * I * I:=by rw [hI,Rat.one_mul]
   grind
  rw [e]
  refine Rat.mul_nonneg ?_ qI
  rw [← hD]
  rcases hsg with ⟨g1,g2⟩ | ⟨g1,g2⟩
  ·have:=Rat.mul_nonneg (show 0≤-a by grind) (Rat.le_of_lt g1)
   grind
  ·have:=Rat.mul_nonneg g2 (show 0≤-b by grind)
   grind
 have hr0:r≤0:=by
  have e:-r = -(b * D) * (I * I):=by
   rw [← hr]
   have:I = D * I * I:=by rw [hI,Rat.one_mul]
   grind
  have:0≤-r:=by
   rw [e]
   refine Rat.mul_nonneg ?_ qI
   rw [← hD]
   rcases hsg with ⟨g1,g2⟩ | ⟨g1,g2⟩
   ·have:=Rat.mul_nonneg (show 0≤-a by grind) (Rat.le_of_lt g1)
    grind
   ·have:=Rat.mul_nonneg g2 (show 0≤-b by grind)
    grind
  grind
 have ea:ab a * ab I = α:=by rw [← ab_mul,hα];exact ab_pos hα0
 have eb:ab b * ab I = -r:=by rw [← ab_mul,hr];unfold ab;grind
 have hα2:4503599627370496 * α≤4503599627370496 * -r+70 * -r:=by
  have:=Rat.mul_le_mul_of_nonneg_left h4 I0
  rw [← ea,← eb]
  grind
 have hr1:-1≤r:=by grind
 have hr2:100 * r≤-49:=by grind
 -- ε
 obtain ⟨ε,hε⟩:∃ ε,(d - D) * I = ε:=⟨_,rfl⟩
 have hdI:d * I = 1+ε:=by rw [← hε,← hI];grind
 have bε:9007199254740992 * ab ε≤1:=by
  rw [← hε,ab_mul,← aDI]
  have:=Rat.mul_le_mul_of_nonneg_left h2 I0
  grind
 -- ρ
 obtain ⟨ρ,hρ⟩:∃ ρ,R * (I * I) = ρ:=⟨_,rfl⟩
 have bρ:9007199254740992 * ab (ρ+1+2 * r)≤137:=by
  have e:ρ+1+2 * r = -((b * b - (a * a+R)) * (I * I)):=by
   have e1:b * b * (I * I) = r * r:=by rw [← hr];grind
   have e2:a * a * (I * I) = α * α:=by rw [← hα];grind
   have e3:-((b * b - (a * a+R)) * (I * I)) = a * a * (I * I)+R * (I * I) - b * b * (I * I):=by grind
   rw [e3,e1,e2,hρ,show α = 1+r by grind]
   grind
  rw [e,ab_neg,ab_mul,ab_pos (x:=I * I) qI]
  have l:=le_ab (b * b - (a * a+R))
  have h6:9007199254740992 * ab (b * b - (a * a+R))≤136 * (b * b):=by
   generalize ab (b * b - (a * a+R)) = z at *
   grind
  have m:=Rat.mul_le_mul_of_nonneg_left h6 qI
  have e1:I * I * (136 * (b * b)) = 136 * (r * r):=by rw [← hr];grind
  rw [e1] at m
  have rr:=Rat.mul_nonneg (show 0≤1+r by grind) (show 0≤1 - r by grind)
  have rr2:=sq_nonneg r
  grind
 have bτ:9007199254740992 * ab (t * r+1)≤4:=by
  have e:t * r+1 = (t * b+D) * I:=by rw [← hr,← hI];grind
  rw [e,ab_mul]
  have m:=Rat.mul_le_mul_of_nonneg_left h3 I0
  grind
 obtain ⟨g,hg⟩:∃ g,G * I = g:=⟨_,rfl⟩
 have bG:9007199254740992 * ab (g * (1+ε) - ρ)≤2 * ρ+3:=by
  have e:g * (1+ε) - ρ = (G * d - R) * (I * I):=by rw [← hdI,← hρ,← hg];grind
  rw [e,ab_mul,ab_pos (x:=I * I) qI,← hρ]
  have m:=Rat.mul_le_mul_of_nonneg_left h5 qI
  have e2:a * a * (I * I) = α * α:=by rw [← hα];grind
  have lρ:=le_ab (ρ+1+2 * r)
  have α1:=Rat.mul_nonneg (show 0≤1 - α by grind) (show 0≤1+α by grind)
  have e3:I * I * (2 * R+(a * a+R)) = 3 * (R * (I * I))+α * α:=by rw [← e2];grind
  rw [e3,hρ] at m
  rw [hρ]
  grind
 have ρ0:0≤ρ:=by rw [← hρ];exact Rat.mul_nonneg hR qI
 have lρ:=le_ab (ρ+1+2 * r)
 have ρ1:10 * ρ≤11:=by grind
 -- (α+g) (1+ε) = -r+small
 obtain ⟨k,hk⟩:∃ k,(α+g) * (1+ε)+r = k:=⟨_,rfl⟩
 have bk:9007199254740992 * ab k≤144:=by
  have aε:=ab_mul_le (x:=α) (y:=ε) (ab_le (by grind) (by grind))
  have l1:=le_ab (α * ε);have l2:=le_ab (g * (1+ε) - ρ)
  have e:k = (ρ+1+2 * r)+α * ε+(g * (1+ε) - ρ):=by rw [← hk,show α = 1+r by grind];grind
  rw [e]
  refine Rat.le_trans (Rat.mul_le_mul_of_nonneg_left (ab_le (y:=ab (ρ+1+2 * r)+ab (α * ε)+ab (g * (1+ε) - ρ)) (by grind) (by grind)) (by decide)) ?_
  generalize ab (ρ+1+2 * r) = z1 at *
  generalize ab (g * (1+ε) - ρ) = z2 at *
  generalize ab (α * ε) = z3 at *
  grind
 obtain ⟨θ,hθ⟩:∃ θ,t * r+1 = θ:=⟨_,rfl⟩
 rw [hθ] at bτ
 have tk:9007199254740992 * ab (t * k)≤289:=by
  rw [ab_mul]
  have m:=Rat.mul_le_mul_of_nonneg_left ht (ab_0 k)
  rw [show ab k * (1000 * ab t) = 1000 * (ab t * ab k) by grind] at m
  generalize ab t * ab k = z at *
  grind
 obtain ⟨m,hm⟩:∃ m,t * (α+g) - 1 = m:=⟨_,rfl⟩
 have lε:=le_ab ε;have lθ:=le_ab θ;have ltk:=le_ab (t * k);have lm:=le_ab m
 have e1:m+(1+m) * ε = t * k - θ:=by rw [← hm,← hk,← hθ];grind
 have mε:=ab_mul (ε) m
 have bm:9007199254740992 * ab m≤296:=by
  have q:9007199254740992 * ab (ε * m)≤ab m:=by
   rw [ab_mul]
   have:=Rat.mul_le_mul_of_nonneg_left bε (ab_0 m)
   grind
  have lq:=le_ab (ε * m)
  have e2:m = t * k - θ - ε - ε * m:=by grind
  have:=ab_le (x:=m) (y:=ab (t * k)+ab θ+ab ε+ab (ε * m)) (by grind) (by grind)
  generalize ab (ε * m) = z1 at *
  generalize ab m = z2 at *
  generalize ab (t * k) = z3 at *
  generalize ab θ = z4 at *
  generalize ab ε = z5 at *
  clear e2 e1 lm ltk lθ lε lq hm hk hθ mε
  grind
 -- back: times D
 rw [hD]
 have e3:t * (a+G) - D = m * D:=by
  rw [← hm]
  have e4:(t * (α+g) - 1) * D = t * ((a * I) * D+(G * I) * D) - D:=by rw [← hα,← hg];grind
  rw [e4,show a * I * D = a * (D * I) by grind,show G * I * D = G * (D * I) by grind,hI]
  grind
 rw [e3,ab_mul]
 have mm:=Rat.mul_le_mul_of_nonneg_left bm (ab_0 D)
 rw [show ab D * (9007199254740992 * ab m) = 9007199254740992 * (ab m * ab D) by grind] at mm
 have D1:=ab_0 D
 generalize ab m * ab D = z at *
 grind
end Go.Proofs.YtdhmglmccafbnaaGreatDoor
namespace Go.Proofs.YtdhmglmccafbnaaGreatDoor
open Go.RowKit
theorem quosM_of (d:Nat) (hd:d < 18446744073709551616) (fd:fFin d = true) (d0:fK d ≠ 0):∀ (xs:List Nat),(∀ x ∈ xs,x < 18446744073709551616∧fFin x = true∧ab (fQ x)≤1024 * ab (fQ d)) →
  quosM (fQ d) (18014398509481984 * (p2 (-1075) * ab (fQ d))) (xs.map (fun x=>dV x d)) xs∧∀ v ∈ xs.map (fun x=>dV x d),fFin v = true:=by
 have K0:0≤p2 (-1075) * ab (fQ d):=Rat.mul_nonneg (Rat.le_of_lt (p2_pos _)) (ab_0 _)
 intro xs
 induction xs with
 | nil=>intro _;exact ⟨trivial,fun v hv=>(by cases hv)⟩
 | cons x xs ih =>
  intro h
  obtain ⟨i1,i2⟩:=ih (fun y hy=>h y (List.mem_cons_of_mem _ hy))
  obtain ⟨h1,h2,h4⟩:=h x List.mem_cons_self
  have main:fFin (dV x d) = true∧9007199254740992 * ab (fQ (dV x d) * fQ d - fQ x)≤2 * ab (fQ x)+18014398509481984 * (p2 (-1075) * ab (fQ d)):=by
   by_cases x0:fK x = 0
   ·obtain ⟨c1,c2⟩:=fin_kind fd
    have e:dV x d = wrd (fS x ^^ fS d) 0:=by
     unfold dV
     rw [if_neg (by omega),if_neg (by omega),if_neg (by omega),if_pos (.inr x0)]
    have k0:fK (wrd (fS x ^^ fS d) 0) = 0:=(fK_zero _).2 (fR_wrd _ _ (by decide))
    have f0:fFin (wrd (fS x ^^ fS d) 0) = true:=(fK_rungs _).2.2.2 (by rw [fR_wrd _ _ (by decide)];decide)
    rw [e,fQ_nought _ k0,fQ_nought x x0,Rat.zero_mul]
    refine ⟨f0,?_⟩
    generalize p2 (-1075) * ab (fQ d) = K at *
    unfold ab
    grind
   ·have hf:=div_fin x d h1 hd h2 fd x0 d0 h4
    refine ⟨hf,?_⟩
    have a0:=ab_0 (fQ x)
    have z0:=ab_0 (fQ (dV x d) * fQ d - fQ x)
    rcases div_err x d h1 hd h2 fd x0 d0 hf with e | ⟨_,e⟩
    ·generalize p2 (-1075) * ab (fQ d) = K at *
     grind
    ·generalize p2 (-1075) * ab (fQ d) = K at *
     grind
  refine ⟨?_,?_⟩
  ·show quosM (fQ d) _ (dV x d :: xs.map (fun x=>dV x d)) (x :: xs)
   unfold quosM
   exact ⟨main.2,i1⟩
  ·intro v hv
   rcases List.mem_cons.1 hv with rfl | hv
   ·exact main.1
   ·exact i2 v hv
theorem house_makeM (a b:Nat) (xs:List Nat) (hl:(a :: xs).length≤64) (h:TopV 200 (a :: xs)) (h0:bgF 0 (a :: xs) ≠ 0) (hb:b < 18446744073709551616) (fb:fFin b = true) (b0:fK b ≠ 0)
  (hs:(fQ b = fQ (nrV (a :: xs))∧fQ a≤0) ∨ (fQ b = -fQ (nrV (a :: xs))∧0≤fQ a)) :
  let d:=aV a (fN b);let t:=dV (aV b (fN a)) b;let vs:=xs.map (fun x=>dV x d)
  fFin d = true∧fFin t = true∧(∀ v ∈ vs,fFin v = true)∧quosM (fQ d) (18014398509481984 * (p2 (-1075) * ab (fQ d))) vs xs∧9007199254740992 * ab (fQ d - (fQ a - fQ b))≤ab (fQ a - fQ b) ∧
  ab (fQ a - fQ b) = ab (fQ a)+ab (fQ b)∧ab (fQ b) = fQ (nrV (a :: xs))∧9007199254740992 * ab (fQ t * fQ b+(fQ a - fQ b))≤4 * ab (fQ a - fQ b)∧4503599627370496 * ab (fQ a)≤4503599627370496 * ab (fQ b)+70 * ab (fQ b):=by
 intro d t vs
 obtain ⟨n1,n2,n3,n4,n5,n6,n7⟩:=top_size (a :: xs) hl h h0
 obtain ⟨a1,a2⟩:=h.1 a List.mem_cons_self
 have hM:ab (fQ b) = fQ (nrV (a :: xs)):=by
  rcases hs with ⟨e,_⟩ | ⟨e,_⟩
  ·rw [e];exact ab_pos (Rat.le_of_lt n1)
  ·rw [e,ab_neg];exact ab_pos (Rat.le_of_lt n1)
 have hS:ab (fQ a - fQ b) = ab (fQ a)+ab (fQ b):=by
  rw [hM]
  rcases hs with ⟨e,g⟩ | ⟨e,g⟩
  ·rw [e];unfold ab;grind
  ·rw [e];unfold ab;grind
 have fa':fFin (fN a) = true:=by rw [fFin_fN a a1];exact a2
 have fb':fFin (fN b) = true:=by rw [fFin_fN b hb];exact fb
 have qa:=fQ_fN a a1;have qb:=fQ_fN b hb
 have A0:=ab_0 (fQ a)
 have hA:=n7 a List.mem_cons_self
 have P4:=p2_pos 204
 have big:8 * p2 204≤p2 1023∧4 * p2 204≤p2 210:=by
  have h1:=p2_mono (show (204+1+1+1:Int)≤1023 by decide)
  have h2:=p2_mono (show (204+1+1:Int)≤210 by decide)
  simp only [p2_succ] at h1 h2
  exact ⟨by grind,by grind⟩
 -- the difference and the other one
 have fd:fFin d = true:=add_fin a (fN b) a2 fb' (by rw [qb,show fQ a+-fQ b = fQ a - fQ b by grind,hS,hM];grind)
 have ed:=add_err a (fN b) a2 fb' fd
 rw [qb,show fQ a+-fQ b = fQ a - fQ b by grind] at ed
 have fg:fFin (aV b (fN a)) = true:=add_fin b (fN a) fb fa' (by rw [qa,show fQ b+-fQ a = -(fQ a - fQ b) by grind,ab_neg,hS,hM];grind)
 have eg:=add_err b (fN a) fb fa' fg
 rw [qa,show fQ b+-fQ a = fQ b - fQ a by grind] at eg
 have kD:ab (fQ b - fQ a) = ab (fQ a - fQ b):=ab_sub _ _
 have ld:=le_ab (fQ d - (fQ a - fQ b));have lD:=le_ab (fQ a - fQ b)
 have ed2:9007199254740992 * ab (fQ d - (fQ a - fQ b))≤ab (fQ a - fQ b):=ed
 have dd:=ab_le (x:=fQ d) (y:=ab (fQ d - (fQ a - fQ b))+ab (fQ a - fQ b)) (by grind) (by grind)
 have dd2:=ab_le (x:=fQ a - fQ b) (y:=ab (fQ d - (fQ a - fQ b))+ab (fQ d)) (by have:=le_ab (fQ d);grind) (by have:=le_ab (fQ d);grind)
 have dlo:fQ (nrV (a :: xs))≤2 * ab (fQ d):=by rw [hS,hM] at *;grind
 have dhi:ab (fQ d)≤p2 210:=by rw [hS,hM] at *;grind
 have k0:fK d ≠ 0:=fun e=>by
  have:=fQ_nought d e
  rw [this] at dlo
  unfold ab at dlo
  grind
 have dl:d < 18446744073709551616:=aV_lt a (fN b) a1 (fN_lt b hb)
 obtain ⟨q1,q2⟩:=quosM_of d dl fd k0 xs (fun x hx=>by
  obtain ⟨x1,x2⟩:=h.1 x (List.mem_cons_of_mem _ hx)
  have x4:=n7 x (List.mem_cons_of_mem _ hx)
  refine ⟨x1,x2,by grind⟩)
 -- tau
 have gl:aV b (fN a) < 18446744073709551616:=aV_lt b (fN a) hb (fN_lt a a1)
 have lg:=le_ab (fQ (aV b (fN a)) - (fQ b - fQ a));have lG:=le_ab (fQ b - fQ a)
 have gg:=ab_le (x:=fQ (aV b (fN a))) (y:=ab (fQ (aV b (fN a)) - (fQ b - fQ a))+ab (fQ b - fQ a)) (by grind) (by grind)
 have gg2:=ab_le (x:=fQ a - fQ b) (y:=ab (fQ (aV b (fN a)) - (fQ b - fQ a))+ab (fQ (aV b (fN a)))) (by have:=le_ab (fQ (aV b (fN a)));grind) (by have:=le_ab (fQ (aV b (fN a)));grind)
 have eg2:=eg
 rw [kD,hS,hM] at eg2
 rw [kD,hS,hM] at gg
 rw [hS,hM] at gg2
 have glo:fQ (nrV (a :: xs))≤2 * ab (fQ (aV b (fN a))):=by
  generalize ab (fQ (aV b (fN a)) - (fQ b - fQ a)) = z at *
  grind
 have ghi:ab (fQ (aV b (fN a)))≤4 * fQ (nrV (a :: xs)):=by
  generalize ab (fQ (aV b (fN a)) - (fQ b - fQ a)) = z at *
  grind
 have g0:fK (aV b (fN a)) ≠ 0:=fun e=>by
  have:=fQ_nought _ e
  rw [this] at glo
  unfold ab at glo
  grind
 have hη0:=p2_pos (-1075)
 obtain ⟨n8,_,_⟩:=eta_small
 obtain ⟨t1,t2⟩:=div_err2 (aV b (fN a)) b gl hb fg fb g0 b0 (by rw [hM];grind) (by
  rw [hM]
  have hsm:1267650600228229401496703205376 * (4 * p2 (-1075))≤2:=by
   have e1:=p2_mono (show (102+-1075:Int)≤1 by decide)
   rw [p2_add,show (102:Int) = ((102:Nat):Int) by rfl,p2_nat,p2_1] at e1
   have:((2 ^ 102:Nat):Rat) = 5070602400912917605986812821504:=rfl
   rw [this] at e1
   grind
  have:=Rat.mul_le_mul_of_nonneg_left hsm (Rat.le_of_lt n1)
  grind)
 have es:sumQ (a :: xs) = fQ a * fQ a+sumQ xs:=rfl
 rw [es] at n4
 have n4':9007199254740992 * ab (fQ b * fQ b - (fQ a * fQ a+sumQ xs))≤135 * (fQ a * fQ a+sumQ xs):=by
  have:fQ b * fQ b = fQ (nrV (a :: xs)) * fQ (nrV (a :: xs)):=by
   rcases hs with ⟨e,_⟩ | ⟨e,_⟩ <;> rw [e] <;> grind
  rw [this];exact n4
 obtain ⟨m1,m2⟩:=mirror_alg (fQ a) (fQ b) (sumQ xs) (fQ t) (fQ (aV b (fN a))) (sumQ_nonneg xs) (by rw [hM];exact n1) hS n4' eg t2
 exact ⟨fd,t1,q2,q1,ed2,hS,hM,m1,m2⟩
end Go.Proofs.YtdhmglmccafbnaaGreatDoor
namespace Go.Proofs.YtdhmglmccafbnaaGreatDoor
open Go.RowKit
theorem quosM_size (d μ κ:Rat) (hμ:0 < μ) (hκ:κ≤μ) (hd:1000000 * μ≤1000001 * ab d):∀ (vs xs:List Nat),quosM d κ vs xs→(∀ x ∈ xs,1000000 * ab (fQ x)≤1000001 * μ)→∀ v ∈ vs,1000 * ab (fQ v)≤1001:=by
 intro vs
 induction vs with
 | nil=>intro xs _ _ v hv;cases hv
 | cons w vs ih =>
  intro xs hq hx v hv
  cases xs with
  | nil=>exact absurd hq (by unfold quosM;exact id)
  | cons x xs =>
   unfold quosM at hq
   rcases List.mem_cons.1 hv with rfl | hv
   ·have h1:=hq.1
    have h2:=hx x List.mem_cons_self
    have l1:=le_ab (fQ v * d - fQ x);have l2:=le_ab (fQ x)
    have t:=ab_le (x:=fQ v * d) (y:=ab (fQ v * d - fQ x)+ab (fQ x)) (by grind) (by grind)
    rw [ab_mul] at t
    rcases Rat.le_total (a:=1000 * ab (fQ v)) (b:=1001) with g | g
    ·exact g
    ·exfalso
     have d0:0 < ab d:=by grind
     have m:=Rat.mul_le_mul_of_nonneg_left g (Rat.le_of_lt d0)
     rw [show ab d * (1000 * ab (fQ v)) = 1000 * (ab (fQ v) * ab d) by grind] at m
     generalize ab (fQ v) * ab d = z at *
     generalize ab (fQ v * d - fQ x) = z1 at *
     clear l1 l2
     grind
   ·exact ih xs hq.2 (fun y hy=>hx y (List.mem_cons_of_mem _ hy)) v hv
theorem house_factsM (a b d t:Nat) (xs vs:List Nat) (hl:(a :: xs).length≤64) (h:TopV 200 (a :: xs)) (h0:bgF 0 (a :: xs) ≠ 0) (hb:b < 18446744073709551616) (fb:fFin b = true) (b0:fK b ≠ 0)
  (hs:(fQ b = fQ (nrV (a :: xs))∧fQ a≤0) ∨ (fQ b = -fQ (nrV (a :: xs))∧0≤fQ a)) (hd:d = aV a (fN b)) (ht:t = dV (aV b (fN a)) b) (hv:vs = xs.map (fun x=>dV x d)) :
  fFin t = true∧1000 * ab (fQ t)≤2001∧9007199254740992 * fQ t≤18014398509481984+200∧9007199254740992≤9007199254740992 * fQ t+5 ∧
  (∀ v ∈ 4607182418800017408 :: vs,fFin v = true∧1000 * ab (fQ v)≤1001)∧8796093022208 * ab (fQ t * sumQ (4607182418800017408 :: vs) - 2)≤1 ∧
  quosM (fQ d) (18014398509481984 * (p2 (-1075) * ab (fQ d))) vs xs∧9007199254740992 * ab (fQ d - (fQ a - fQ b))≤ab (fQ a - fQ b)∧ab (fQ a - fQ b) = ab (fQ a)+ab (fQ b)∧ab (fQ b) = fQ (nrV (a :: xs)) ∧
  9007199254740992 * ab (fQ t * (fQ a+dtQ vs xs) - (fQ a - fQ b))≤300 * ab (fQ a - fQ b):=by
 obtain ⟨m1,m2,m3,m4,m5,m6,m7,m8,m9⟩:=house_makeM a b xs hl h h0 hb fb b0 hs
 rw [← hd] at m1 m3 m4 m5
 rw [← ht] at m2 m8
 rw [← hv] at m3 m4
 obtain ⟨n1,n2,n3,n4,n5,n6,n7⟩:=top_size (a :: xs) hl h h0
 have es:sumQ (a :: xs) = fQ a * fQ a+sumQ xs:=rfl
 rw [es] at n4
 have n4':9007199254740992 * ab (fQ b * fQ b - (fQ a * fQ a+sumQ xs))≤135 * (fQ a * fQ a+sumQ xs):=by
  have:fQ b * fQ b = fQ (nrV (a :: xs)) * fQ (nrV (a :: xs)):=by
   rcases hs with ⟨e,_⟩ | ⟨e,_⟩ <;> rw [e] <;> grind
  rw [this];exact n4
 have hsg:(0 < fQ b∧fQ a≤0) ∨ (fQ b < 0∧0≤fQ a):=by
  rcases hs with ⟨e,g⟩ | ⟨e,g⟩
  ·exact .inl ⟨by rw [e];exact n1,g⟩
  ·exact .inr ⟨by rw [e];grind,g⟩
 -- the absolute errors are small
 have hl3:xs.length≤64:=by rw [List.length_cons] at hl;omega
 have hlr:(xs.length:Rat)≤64:=Rat.natCast_le_natCast.2 hl3
 have hdu:ab (fQ d)≤3 * fQ (nrV (a :: xs)):=by
  have t:=ab_le (x:=fQ d) (y:=ab (fQ d - (fQ a - fQ b))+ab (fQ a - fQ b)) (by have:=le_ab (fQ d - (fQ a - fQ b));have:=le_ab (fQ a - fQ b);grind) (by have:=le_ab (fQ d - (fQ a - fQ b));have:=le_ab (fQ a - fQ b);grind)
  have ha:=n7 a List.mem_cons_self
  have m5':=m5
  rw [m6,m7] at m5' t
  generalize ab (fQ d - (fQ a - fQ b)) = z at *
  grind
 obtain ⟨κ,hκ⟩:∃ κ,18014398509481984 * (p2 (-1075) * ab (fQ d)) = κ:=⟨_,rfl⟩
 have κ0:0≤κ:=by
  rw [← hκ]
  have:=Rat.mul_nonneg (Rat.le_of_lt (p2_pos (-1075))) (ab_0 (fQ d))
  grind
 have κs:17592186044416 * κ≤fQ (nrV (a :: xs)):=by
  obtain ⟨q1,q2,q3⟩:=eta_small
  have m:=Rat.mul_le_mul_of_nonneg_left q1 (ab_0 (fQ d))
  rw [← hκ]
  have e:ab (fQ d) * (1267650600228229401496703205376 * p2 (-1075)) = 1267650600228229401496703205376 * (p2 (-1075) * ab (fQ d)):=by grind
  rw [e] at m
  have z0:=Rat.mul_nonneg (Rat.le_of_lt q2) (ab_0 (fQ d))
  generalize p2 (-1075) * ab (fQ d) = K at *
  grind
 rw [hκ] at m4 ⊢
 obtain ⟨μ,hμ⟩:∃ μ,fQ (nrV (a :: xs)) = μ:=⟨_,rfl⟩
 have E1:∀ x ∈ xs,4 * (ab (fQ x) * κ)+4 * (κ * κ)≤μ * μ * (1 / 1000):=fun x hx=>by
  have hx1:=n7 x (List.mem_cons_of_mem _ hx)
  rw [hμ] at hx1 κs
  have x0:=ab_0 (fQ x)
  have μ0:0≤μ:=by rw [← hμ];exact Rat.le_of_lt n1
  have a1:=Rat.mul_nonneg (show 0≤μ - 17592186044416 * κ by grind) x0
  have a2:=Rat.mul_nonneg (show 0≤1000001 * μ - 1000000 * ab (fQ x) by grind) μ0
  have a3:=Rat.mul_nonneg (show 0≤μ - 17592186044416 * κ by grind) κ0
  have a4:=Rat.mul_nonneg (show 0≤μ - 17592186044416 * κ by grind) μ0
  have a5:=sq_nonneg μ
  have e1:ab (fQ x) * κ = κ * ab (fQ x):=Rat.mul_comm _ _
  generalize ab (fQ x) = X at *
  grind
 obtain ⟨s1',s2'⟩:=quosM_sq (fQ d) κ (μ * μ * (1 / 1000)) κ0 vs xs m4 E1
 have hLE:(xs.length:Rat) * (μ * μ * (1 / 1000))≤fQ a * fQ a+sumQ xs:=by
  have l:=le_ab (fQ (nrV (a :: xs)) * fQ (nrV (a :: xs)) - (fQ a * fQ a+sumQ xs))
  rw [hμ] at l n4
  have q:=sq_nonneg μ
  have m:=Rat.mul_nonneg (show 0≤64 - (xs.length:Rat) by grind) (show 0≤μ * μ * (1 / 1000) by grind)
  have S0:0≤fQ a * fQ a+sumQ xs:=by have:=sq_nonneg (fQ a);have:=sumQ_nonneg xs;grind
  generalize fQ a * fQ a+sumQ xs = S at *
  generalize ab (μ * μ - S) = z at *
  generalize μ * μ = M at *
  grind
 have s1:9007199254740992 * ab (sumQ vs * (fQ d * fQ d) - sumQ xs)≤5 * sumQ xs+(fQ a * fQ a+sumQ xs):=by grind
 have s2:9007199254740992 * ab (dtQ vs xs * fQ d - sumQ xs)≤2 * sumQ xs+(fQ a * fQ a+sumQ xs):=by grind
 clear s1' s2' E1
 obtain ⟨k1,k2,k3⟩:=mirror_norm3 (fQ a) (fQ b) (sumQ xs) (fQ d) (fQ t) (sumQ vs) (sumQ_nonneg xs) hsg n4' m5 m8 m9 s1
 have ht2:1000 * ab (fQ t)≤2001:=by rw [ab_pos (by grind)];grind
 have own:=mirror_own3 (fQ a) (fQ b) (sumQ xs) (fQ d) (fQ t) (dtQ vs xs) (sumQ_nonneg xs) hsg n4' m5 m8 m9 s2 ht2
 have hdl:1000000 * fQ (nrV (a :: xs))≤1000001 * ab (fQ d):=by
  have l:=le_ab (fQ d - (fQ a - fQ b));have l2:=le_ab (fQ d)
  have t:=ab_le (x:=fQ a - fQ b) (y:=ab (fQ d - (fQ a - fQ b))+ab (fQ d)) (by grind) (by grind)
  have a0:=ab_0 (fQ a)
  have m5':=m5
  rw [m6,m7] at m5' t
  clear l l2 hsg hs n7 h m3 own k1 s1 s2 n4 n4' m5 m8 m4 hl h0 hLE κs κ0 hκ hdu hlr
  generalize ab (fQ d - (fQ a - fQ b)) = z at *
  grind
 have hsz:=quosM_size (fQ d) _ κ n1 (by grind) hdl vs xs m4 (fun x hx=>n7 x (List.mem_cons_of_mem _ hx))
 refine ⟨m2,ht2,k2,k3,?_,?_,m4,m5,m6,m7,own⟩
 ·intro v hv2
  rcases List.mem_cons.1 hv2 with rfl | hv2
  ·rw [fQ_one]
   exact ⟨by decide,by unfold ab;grind⟩
  ·exact ⟨m3 v hv2,hsz v hv2⟩
 ·have e:sumQ (4607182418800017408 :: vs) = 1+sumQ vs:=by
   show fQ 4607182418800017408 * fQ 4607182418800017408+sumQ vs = _
   rw [fQ_one]
   grind
  rw [e]
  exact k1
theorem own_restM (c D d μ κ Y:Rat) (hκ:κ≤μ) (hμ:0 < μ) (hYμ:1000 * Y≤6001 * μ) (hD:1000 * ab D≤2001 * μ) (hcD:9007199254740992 * ab (c - D)≤300 * ab D) (hd:9007199254740992 * ab (d - D)≤ab D) :
  ∀ (vs xs us:List Nat),quosM d κ vs xs→(∀ v ∈ vs,1000 * ab (fQ v)≤1001)→(∀ x ∈ xs,1000 * ab (fQ x)≤1001 * μ)→lessQ c (46 * Y) vs xs us →
  81129638414606681695789005144064 * sumQ us≤(us.length:Rat) * (810000 * (μ * μ)):=by
 intro vs
 induction vs with
 | nil =>
  intro xs us hq _ _ h
  cases xs with
  | cons x xs=>exact absurd h (by unfold lessQ;exact id)
  | nil =>
   cases us with
   | cons u us=>exact absurd h (by unfold lessQ;exact id)
   | nil =>
    have e1:sumQ [] = 0:=rfl
    have e2:(([]:List Nat).length:Rat) = 0:=rfl
    rw [e1,e2]
    grind
 | cons v vs ih =>
  intro xs us hq hv hx h
  cases xs with
  | nil=>exact absurd h (by unfold lessQ;exact id)
  | cons x xs =>
   cases us with
   | nil=>exact absurd h (by unfold lessQ;exact id)
   | cons u us =>
    unfold lessQ at h
    unfold quosM at hq
    obtain ⟨⟨_,h1⟩,h2⟩:=h
    obtain ⟨q1,q2⟩:=hq
    have i:=ih xs us q2 (fun w hw=>hv w (List.mem_cons_of_mem _ hw)) (fun w hw=>hx w (List.mem_cons_of_mem _ hw)) h2
    have hv1:=hv v List.mem_cons_self
    have hx1:=hx x List.mem_cons_self
    have e1:sumQ (u :: us) = fQ u * fQ u+sumQ us:=rfl
    have e2:((u :: us).length:Rat) = (us.length:Rat)+1:=by rw [List.length_cons,Rat.natCast_add];rfl
    rw [e1,e2]
    have v0:=ab_0 (fQ v)
    -- the parts
    have p1:9007199254740992 * ab ((c - D) * fQ v)≤601 * μ:=by
     rw [ab_mul]
     have m:=Rat.mul_le_mul_of_nonneg_left hv1 (ab_0 (c - D))
     rw [show ab (c - D) * (1000 * ab (fQ v)) = 1000 * (ab (c - D) * ab (fQ v)) by grind] at m
     generalize ab (c - D) * ab (fQ v) = z at *
     grind
    have p2':9007199254740992 * ab ((d - D) * fQ v)≤3 * μ:=by
     rw [ab_mul]
     have m:=Rat.mul_le_mul_of_nonneg_left hv1 (ab_0 (d - D))
     rw [show ab (d - D) * (1000 * ab (fQ v)) = 1000 * (ab (d - D) * ab (fQ v)) by grind] at m
     generalize ab (d - D) * ab (fQ v) = z at *
     grind
    have l1:=le_ab ((c - D) * fQ v);have l2:=le_ab ((d - D) * fQ v);have l3:=le_ab (fQ v * d - fQ x);have l4:=le_ab (fQ u - (fQ x - c * fQ v))
    have w:fQ u = (fQ u - (fQ x - c * fQ v)) - (fQ v * d - fQ x)+(d - D) * fQ v - (c - D) * fQ v:=by grind
    have t:=ab_le (x:=fQ u) (y:=ab (fQ u - (fQ x - c * fQ v))+ab (fQ v * d - fQ x)+ab ((d - D) * fQ v)+ab ((c - D) * fQ v)) (by grind) (by grind)
    have hu:9007199254740992 * ab (fQ u)≤900 * μ:=by
     generalize ab (fQ u - (fQ x - c * fQ v)) = z1 at *
     generalize ab (fQ v * d - fQ x) = z2 at *
     generalize ab ((d - D) * fQ v) = z3 at *
     generalize ab ((c - D) * fQ v) = z4 at *
     clear w l1 l2 l3 l4
     grind
    have u0:=ab_0 (fQ u)
    have eu:ab (fQ u) * ab (fQ u) = fQ u * fQ u:=by rw [← ab_mul];exact ab_pos (sq_nonneg _)
    have m1:=Rat.mul_le_mul_of_nonneg_left hu u0
    have m2:=Rat.mul_le_mul_of_nonneg_left hu (Rat.le_of_lt hμ)
    have k:81129638414606681695789005144064 * (fQ u * fQ u)≤810000 * (μ * μ):=by
     rw [← eu]
     rw [show ab (fQ u) * (9007199254740992 * ab (fQ u)) = 9007199254740992 * (ab (fQ u) * ab (fQ u)) by grind] at m1
     rw [show μ * (9007199254740992 * ab (fQ u)) = 9007199254740992 * (ab (fQ u) * μ) by grind] at m2
     rw [show ab (fQ u) * (900 * μ) = 900 * (ab (fQ u) * μ) by grind] at m1
     generalize ab (fQ u) * ab (fQ u) = z1 at *
     generalize ab (fQ u) * μ = z2 at *
     grind
    rw [Rat.add_mul,Rat.one_mul]
    generalize (us.length:Rat) * (810000 * (μ * μ)) = L at *
    grind
end Go.Proofs.YtdhmglmccafbnaaGreatDoor
namespace Go.Proofs.YtdhmglmccafbnaaGreatDoor
open Go.RowKit
theorem tau_dotY (tau:Nat) (Y:Rat) (vs ys:List Nat) (hl:vs.length≤6) (ft:fFin tau = true) (ht:1000 * ab (fQ tau)≤2001) (hv:∀ v ∈ vs,fFin v = true∧1000 * ab (fQ v)≤1001) (hy:∀ y ∈ ys,fFin y = true)
  (hYs:s1Q ys≤Y) (hY:Y≤p2 900) (hη:1267650600228229401496703205376 * p2 (-1075)≤Y) :
  fFin (mV tau (dtV 0 vs ys)) = true∧100 * ab (fQ tau * dtQ vs ys)≤201 * Y∧9007199254740992 * ab (fQ (mV tau (dtV 0 vs ys)) - fQ tau * dtQ vs ys)≤39 * Y∧1000 * ab (dtQ vs ys)≤1001 * Y:=by
 have hp:=p2_pos (-1075)
 have Y1:=s1Q_0 ys
 have Y0:0≤Y:=by grind
 have big:16 * p2 900≤p2 1023∧0 < p2 900∧16 * p2 900≤p2 1000:=by
  have h1:=p2_mono (show (900+1+1+1+1:Int)≤1023 by decide)
  have h2:=p2_mono (show (900+1+1+1+1:Int)≤1000 by decide)
  simp only [p2_succ] at h1 h2
  exact ⟨by grind,p2_pos _,by grind⟩
 have hda:=da_le vs ys (fun v h=>(hv v h).2)
 have hdt:=dtQ_le vs ys
 have hd:1000 * ab (dtQ vs ys)≤1001 * Y:=by grind
 obtain ⟨W,hW⟩:∃ W,1000 * W = 1001 * Y:=⟨1001 * Y / 1000,by grind⟩
 obtain ⟨f1,e1⟩:=dot_err0 W vs ys (by omega) (by grind) (by grind) (fun v h=>(hv v h).1) hy (by grind)
 have hl2:(vs.length:Rat)≤6:=Rat.natCast_le_natCast.2 hl
 have e2:9007199254740992 * ab (fQ (dtV 0 vs ys) - dtQ vs ys)≤18 * W:=by
  have:=Rat.mul_nonneg (show 0≤6 - (vs.length:Rat) by grind) (show 0≤W by grind)
  grind
 have l1:=le_ab (fQ (dtV 0 vs ys) - dtQ vs ys);have l2:=le_ab (dtQ vs ys)
 have hw:=ab_le (x:=fQ (dtV 0 vs ys)) (y:=ab (fQ (dtV 0 vs ys) - dtQ vs ys)+ab (dtQ vs ys)) (by grind) (by grind)
 have t0:=ab_0 (fQ tau)
 have w0:=ab_0 (fQ (dtV 0 vs ys))
 have m1:=Rat.mul_le_mul_of_nonneg_left ht w0
 have m2:=Rat.mul_le_mul_of_nonneg_left ht (ab_0 (dtQ vs ys))
 have m3:=Rat.mul_le_mul_of_nonneg_left ht (ab_0 (fQ (dtV 0 vs ys) - dtQ vs ys))
 have n1:1000 * ab (fQ tau * fQ (dtV 0 vs ys))≤2001 * ab (fQ (dtV 0 vs ys)):=by rw [ab_mul];grind
 have n2:1000 * ab (fQ tau * dtQ vs ys)≤2001 * ab (dtQ vs ys):=by rw [ab_mul];grind
 have n3:1000 * ab (fQ tau * (fQ (dtV 0 vs ys) - dtQ vs ys))≤2001 * ab (fQ (dtV 0 vs ys) - dtQ vs ys):=by rw [ab_mul];grind
 obtain ⟨f2,e3⟩:=mul_err2 tau (dtV 0 vs ys) ft f1 (by grind)
 refine ⟨f2,by grind,?_,hd⟩
 have l3:=le_ab (fQ (mV tau (dtV 0 vs ys)) - fQ tau * fQ (dtV 0 vs ys));have l4:=le_ab (fQ tau * (fQ (dtV 0 vs ys) - dtQ vs ys))
 have w:fQ tau * (fQ (dtV 0 vs ys) - dtQ vs ys) = fQ tau * fQ (dtV 0 vs ys) - fQ tau * dtQ vs ys:=by grind
 rw [w] at l4 n3
 have fin:=ab_le (x:=fQ (mV tau (dtV 0 vs ys)) - fQ tau * dtQ vs ys) (y:=ab (fQ (mV tau (dtV 0 vs ys)) - fQ tau * fQ (dtV 0 vs ys))+ab (fQ tau * fQ (dtV 0 vs ys) - fQ tau * dtQ vs ys)) (by grind) (by grind)
 clear l1 l2 l3 l4 m1 m2 m3 w e1
 generalize ab (fQ (mV tau (dtV 0 vs ys)) - fQ tau * dtQ vs ys) = z0 at *
 generalize ab (fQ (mV tau (dtV 0 vs ys)) - fQ tau * fQ (dtV 0 vs ys)) = z1 at *
 generalize ab (fQ tau * fQ (dtV 0 vs ys) - fQ tau * dtQ vs ys) = z2 at *
 generalize ab (fQ (dtV 0 vs ys) - dtQ vs ys) = z3 at *
 generalize ab (fQ tau * fQ (dtV 0 vs ys)) = z4 at *
 generalize ab (fQ (dtV 0 vs ys)) = z5 at *
 generalize ab (dtQ vs ys) = z6 at *
 clear hYs Y1 hda
 generalize p2 (-1075) = η at *
 grind
theorem col_lessY (tau:Nat) (Y:Rat) (vs ys:List Nat) (hl:vs.length≤6) (hlen:vs.length = ys.length) (ft:fFin tau = true) (ht:1000 * ab (fQ tau)≤2001) (hv:∀ v ∈ vs,fFin v = true∧1000 * ab (fQ v)≤1001) (hy:∀ y ∈ ys,fFin y = true)
  (hYs:s1Q ys≤Y) (hY:Y≤p2 900) (hη:1267650600228229401496703205376 * p2 (-1075)≤Y) :
  lessQ (fQ tau * dtQ vs ys) (46 * Y) vs ys (apV (mV tau (dtV 0 vs ys)) vs ys):=by
 obtain ⟨f1,c1,c2,c3⟩:=tau_dotY tau Y vs ys hl ft ht hv hy hYs hY hη
 exact ap_all _ (fQ tau * dtQ vs ys) Y f1 hY hη c1 c2 vs ys hlen hv (fun y h=>⟨hy y h,Rat.le_trans (s1_mem ys y h) hYs⟩)
theorem house_ownM (a b d t u:Nat) (xs vs us:List Nat) (hl:(a :: xs).length≤6) (h:TopV 200 (a :: xs)) (h0:bgF 0 (a :: xs) ≠ 0) (hb:b < 18446744073709551616) (fb:fFin b = true) (b0:fK b ≠ 0)
  (hs:(fQ b = fQ (nrV (a :: xs))∧fQ a≤0) ∨ (fQ b = -fQ (nrV (a :: xs))∧0≤fQ a)) (hd:d = aV a (fN b)) (ht:t = dV (aV b (fN a)) b) (hv:vs = xs.map (fun x=>dV x d))
  (hu:u :: us = apV (mV t (dtV 0 (4607182418800017408 :: vs) (a :: xs))) (4607182418800017408 :: vs) (a :: xs)) (hul:us.length≤5) :
  fFin u = true∧(∀ w ∈ us,fFin w = true)∧81129638414606681695789005144064 * ((fQ u - fQ b) * (fQ u - fQ b)+sumQ us)≤4860000 * (fQ b * fQ b):=by
 obtain ⟨f1,f2,f3,f4,f5,f6,f7,f8,f9,f10,f11⟩:=house_factsM a b d t xs vs (by omega) h h0 hb fb b0 hs hd ht hv
 obtain ⟨n1,n2,n3,n4,n5,n6,n7⟩:=top_size (a :: xs) (by omega) h h0
 have hlen:(4607182418800017408 :: vs).length = (a :: xs).length:=by rw [hv];simp
 obtain ⟨μ,hμ⟩:∃ μ,fQ (nrV (a :: xs)) = μ:=⟨_,rfl⟩
 rw [hμ] at n1 n5 n6 n7 f10
 -- sizes
 have hx1:∀ x ∈ a :: xs,1000 * ab (fQ x)≤1001 * μ:=fun x hx=>by have:=n7 x hx;grind
 have hs1:∀ ys:List Nat,(∀ x ∈ ys,1000000 * ab (fQ x)≤1000001 * μ)→1000000 * s1Q ys≤(ys.length:Rat) * (1000001 * μ):=by
  intro ys
  induction ys with
  | nil =>
   intro _
   have e1:s1Q [] = 0:=rfl
   have e2:(([]:List Nat).length:Rat) = 0:=rfl
   rw [e1,e2];grind
  | cons y ys ih =>
   intro hy
   have i:=ih (fun z hz=>hy z (List.mem_cons_of_mem _ hz))
   have hy1:=hy y List.mem_cons_self
   have e1:s1Q (y :: ys) = ab (fQ y)+s1Q ys:=rfl
   have e2:((y :: ys).length:Rat) = (ys.length:Rat)+1:=by rw [List.length_cons,Rat.natCast_add];rfl
   rw [e1,e2,Rat.add_mul,Rat.one_mul]
   grind
 have hl2:((a :: xs).length:Rat)≤6:=Rat.natCast_le_natCast.2 hl
 have hY1:1000 * s1Q (a :: xs)≤6001 * μ:=by
  have k:=hs1 (a :: xs) n7
  have:=Rat.mul_nonneg (show 0≤6 - ((a :: xs).length:Rat) by grind) (show 0≤1000001 * μ by grind)
  grind
 have hYlow:p2 (-202)≤s1Q (a :: xs):=by
  obtain ⟨b1,b2,b3,b4,b5,b6,b7,b8,y,hy,b9,b10⟩:=top_big 200 (a :: xs) h h0
  have hm:=s1_mem (a :: xs) y hy
  have hM:=eX_top _ (by omega) b2 b3
  rw [ab_pos (fQ_pos _ b4)] at hM
  have k1:=p2_mono (show (-200:Int)≤eX (bgF 0 (a :: xs)) by omega)
  have:=p2_mono (show (-202:Int)≤-200 by decide)
  grind
 have hYhi:s1Q (a :: xs)≤p2 900:=by
  have h1:=p2_mono (show (204+1+1+1:Int)≤900 by decide)
  simp only [p2_succ] at h1
  grind
 have hη:1267650600228229401496703205376 * p2 (-1075)≤s1Q (a :: xs):=by
  have:=eta_p2 (-202) (by decide)
  grind
 obtain ⟨g1,c1,c2,c3⟩:=tau_dot t (4607182418800017408 :: vs) (a :: xs) (by rw [hlen];exact hl) f1 f2 f5 (fun y hy=>(h.1 y hy).2) hYhi hη
 have hdt:dtQ (4607182418800017408 :: vs) (a :: xs) = fQ a+dtQ vs xs:=by
  show fQ 4607182418800017408 * fQ a+dtQ vs xs = _
  rw [fQ_one];grind
 have hls:=ap_all _ (fQ t * dtQ (4607182418800017408 :: vs) (a :: xs)) (s1Q (a :: xs)) g1 hYhi hη c1 c2 (4607182418800017408 :: vs) (a :: xs) hlen f5 (fun y hy=>⟨(h.1 y hy).2,s1_mem _ y hy⟩)
 rw [← hu] at hls
 unfold lessQ at hls
 obtain ⟨⟨u1,u2⟩,u3⟩:=hls
 rw [hdt] at u2 u3
 rw [fQ_one] at u2
 have hD:1000 * ab (fQ a - fQ b)≤2001 * μ:=by
  have:=hx1 a List.mem_cons_self
  have:=n7 a List.mem_cons_self
  rw [f9,f10];grind
 have hκ:18014398509481984 * (p2 (-1075) * ab (fQ d))≤μ:=by
  obtain ⟨q1,q2,q3⟩:=eta_small
  have l:=le_ab (fQ d - (fQ a - fQ b));have l2:=le_ab (fQ a - fQ b)
  have tt:=ab_le (x:=fQ d) (y:=ab (fQ d - (fQ a - fQ b))+ab (fQ a - fQ b)) (by grind) (by grind)
  have hdu:ab (fQ d)≤3 * μ:=by
   clear l l2
   generalize ab (fQ d - (fQ a - fQ b)) = z at *
   generalize ab (fQ a - fQ b) = z2 at *
   clear h hs hu hs1 hx1 n7 f5 u3 u2 c1 c2 c3
   grind
  have m:=Rat.mul_le_mul_of_nonneg_left q1 (ab_0 (fQ d))
  have e:ab (fQ d) * (1267650600228229401496703205376 * p2 (-1075)) = 1267650600228229401496703205376 * (p2 (-1075) * ab (fQ d)):=by grind
  rw [e] at m
  have z0:=Rat.mul_nonneg (Rat.le_of_lt q2) (ab_0 (fQ d))
  clear l l2 h hs hu hs1 hx1 n7 f5 u3 u2 c1 c2 c3 e tt
  generalize p2 (-1075) * ab (fQ d) = K at *
  grind
 have rest:=own_restM (fQ t * (fQ a+dtQ vs xs)) (fQ a - fQ b) (fQ d) μ _ (s1Q (a :: xs)) hκ n1 hY1 hD f11 f8 vs xs us f7 (fun v hv=>(f5 v (List.mem_cons_of_mem _ hv)).2) (fun x hx=>hx1 x (List.mem_cons_of_mem _ hx)) u3
 have fin:∀ (vs ys us:List Nat) (c E:Rat),lessQ c E vs ys us→∀ u ∈ us,fFin u = true:=by
  intro vs
  induction vs with
  | nil =>
   intro ys us c E h u hu
   cases ys with
   | cons y ys=>exact absurd h (by unfold lessQ;exact id)
   | nil =>
    cases us with
    | nil=>cases hu
    | cons w us=>exact absurd h (by unfold lessQ;exact id)
  | cons v vs ih =>
   intro ys us c E h u hu
   cases ys with
   | nil=>exact absurd h (by unfold lessQ;exact id)
   | cons y ys =>
    cases us with
    | nil=>cases hu
    | cons w us =>
     unfold lessQ at h
     rcases List.mem_cons.1 hu with rfl | hu
     ·exact h.1.1
     ·exact ih ys us c E h.2 u hu
 refine ⟨u1,fin _ _ _ _ _ u3,?_⟩
 -- the first
 obtain ⟨e,he⟩:∃ e,fQ u - fQ b = e:=⟨_,rfl⟩
 have hfirst:9007199254740992 * ab e≤900 * μ:=by
  have l1:=le_ab (fQ u - (fQ a - fQ t * (fQ a+dtQ vs xs) * 1));have l2:=le_ab (fQ t * (fQ a+dtQ vs xs) - (fQ a - fQ b))
  have tt:=ab_le (x:=e) (y:=ab (fQ u - (fQ a - fQ t * (fQ a+dtQ vs xs) * 1))+ab (fQ t * (fQ a+dtQ vs xs) - (fQ a - fQ b))) (by grind) (by grind)
  generalize ab (fQ u - (fQ a - fQ t * (fQ a+dtQ vs xs) * 1)) = z1 at *
  generalize ab (fQ t * (fQ a+dtQ vs xs) - (fQ a - fQ b)) = z2 at *
  clear l1 l2 rest u3
  grind
 have e0:=ab_0 e
 have ee:ab e * ab e = e * e:=by rw [← ab_mul];exact ab_pos (sq_nonneg _)
 have m1:=Rat.mul_le_mul_of_nonneg_left hfirst e0
 have m2:=Rat.mul_le_mul_of_nonneg_left hfirst (Rat.le_of_lt n1)
 have k:81129638414606681695789005144064 * (e * e)≤810000 * (μ * μ):=by
  rw [← ee]
  rw [show ab e * (9007199254740992 * ab e) = 9007199254740992 * (ab e * ab e) by grind] at m1
  rw [show μ * (9007199254740992 * ab e) = 9007199254740992 * (ab e * μ) by grind] at m2
  rw [show ab e * (900 * μ) = 900 * (ab e * μ) by grind] at m1
  generalize ab e * ab e = z1 at *
  generalize ab e * μ = z2 at *
  grind
 have hul2:(us.length:Rat)≤5:=Rat.natCast_le_natCast.2 hul
 have qμ:=sq_nonneg μ
 have r6:=mul_le_five hul2 (show 0≤810000 * (μ * μ) by grind)
 have eb:fQ b * fQ b = μ * μ:=by
  rw [← f10,← ab_mul];exact (ab_pos (sq_nonneg _)).symm
 rw [he,eb]
 generalize (us.length:Rat) * (810000 * (μ * μ)) = L at *
 generalize μ * μ = MM at *
 generalize e * e = EE at *
 clear m1 m2 hu h hs1 hx1 n7 f5 fin u3 hl hlen
 grind
end Go.Proofs.YtdhmglmccafbnaaGreatDoor
namespace Go.Proofs.YtdhmglmccafbnaaGreatDoor
open Go.RowKit
def sm:Nat→(Nat→Rat)→Rat
 | 0,_=>0
 | n+1,f=>sm n f+f n
theorem sm_add (n:Nat) (f g:Nat→Rat):sm n (fun i=>f i+g i) = sm n f+sm n g:=by
 induction n with
 | zero=>show (0:Rat) = 0+0;grind
 | succ n ih=>show sm n _+(f n+g n) = sm n f+f n+(sm n g+g n);rw [ih];grind
theorem sm_mul (n:Nat) (c:Rat) (f:Nat→Rat):sm n (fun i=>c * f i) = c * sm n f:=by
 induction n with
 | zero=>show (0:Rat) = c * 0;grind
 | succ n ih=>show sm n _+c * f n = c * (sm n f+f n);rw [ih];grind
theorem sm_congr {n:Nat} {f g:Nat→Rat} (h:∀ i,i < n→f i = g i):sm n f = sm n g:=by
 induction n with
 | zero=>rfl
 | succ n ih=>show sm n f+f n = sm n g+g n;rw [ih (fun i hi=>h i (by omega)),h n (by omega)]
theorem sm_nonneg {n:Nat} {f:Nat→Rat} (h:∀ i,i < n→0≤f i):0≤sm n f:=by
 induction n with
 | zero=>exact Rat.le_refl
 | succ n ih =>
  have h1:=ih (fun i hi=>h i (by omega))
  have h2:=h n (by omega)
  show 0≤sm n f+f n
  grind
theorem sm_le {n:Nat} {f g:Nat→Rat} (h:∀ i,i < n→f i≤g i):sm n f≤sm n g:=by
 induction n with
 | zero=>exact Rat.le_refl
 | succ n ih =>
  have h1:=ih (fun i hi=>h i (by omega))
  have h2:=h n (by omega)
  show sm n f+f n≤sm n g+g n
  grind
theorem sm_mem {n:Nat} {f:Nat→Rat} (h:∀ i,i < n→0≤f i) {k:Nat} (hk:k < n):f k≤sm n f:=by
 induction n with
 | zero=>omega
 | succ n ih =>
  have h2:=h n (by omega)
  have h3:0≤sm n f:=sm_nonneg (fun i hi=>h i (by omega))
  show f k≤sm n f+f n
  by_cases e:k = n
  ·subst e;grind
  ·have:=ih (fun i hi=>h i (by omega)) (by omega)
   grind
def dt (n:Nat) (x y:Nat→Rat):Rat:=sm n (fun i=>x i * y i)
theorem dt_comm (n:Nat) (x y:Nat→Rat):dt n x y = dt n y x:=sm_congr (fun _ _=>Rat.mul_comm _ _)
theorem dt_add (n:Nat) (x y z:Nat→Rat):dt n (fun i=>x i+y i) z = dt n x z+dt n y z:=by
 unfold dt
 rw [← sm_add]
 exact sm_congr (fun i _=>by grind)
theorem dt_mul (n:Nat) (c:Rat) (x z:Nat→Rat):dt n (fun i=>c * x i) z = c * dt n x z:=by
 unfold dt
 rw [← sm_mul]
 exact sm_congr (fun i _=>by grind)
theorem dt_add2 (n:Nat) (x y z:Nat→Rat):dt n z (fun i=>x i+y i) = dt n z x+dt n z y:=by
 rw [dt_comm,dt_add,dt_comm n x,dt_comm n y]
theorem dt_mul2 (n:Nat) (c:Rat) (x z:Nat→Rat):dt n z (fun i=>c * x i) = c * dt n z x:=by
 rw [dt_comm,dt_mul,dt_comm n x]
theorem dt_sq (n:Nat) (x:Nat→Rat):0≤dt n x x:=sm_nonneg (fun i _=>sq_nonneg (x i))
theorem dt_congr {n:Nat} {x y x' y':Nat→Rat} (h:∀ i,i < n→x i = x' i) (k:∀ i,i < n→y i = y' i):dt n x y = dt n x' y' :=
 sm_congr (fun i hi=>by rw [h i hi,k i hi])
theorem dt_cs (n:Nat) (x y:Nat→Rat):dt n x y * dt n x y≤dt n x x * dt n y y:=by
 induction n with
 | zero=>show (0:Rat) * 0≤0 * 0;exact Rat.le_refl
 | succ n ih =>
  have X0:=dt_sq n x
  have Y0:=dt_sq n y
  have e1:dt (n+1) x y = dt n x y+x n * y n:=rfl
  have e2:dt (n+1) x x = dt n x x+x n * x n:=rfl
  have e3:dt (n+1) y y = dt n y y+y n * y n:=rfl
  rw [e1,e2,e3]
  generalize dt n x y = S at *
  generalize dt n x x = X at *
  generalize dt n y y = Y at *
  generalize x n = a at *
  generalize y n = b at *
  have ha:=sq_nonneg a
  have hb:=sq_nonneg b
  have h1:0≤X * (b * b)+Y * (a * a):=by
   have:=Rat.mul_nonneg X0 hb
   have:=Rat.mul_nonneg Y0 ha
   grind
  have h2:(2 * S * (a * b)) * (2 * S * (a * b))≤(X * (b * b)+Y * (a * a)) * (X * (b * b)+Y * (a * a)):=by
   have k1:=Rat.mul_nonneg (show 0≤X * Y - S * S by grind) (Rat.mul_nonneg ha hb)
   have k2:=sq_nonneg (X * (b * b) - Y * (a * a))
   grind
  have h3:=le_of_sq h1 h2
  grind
def Bd (n:Nat) (x:Nat→Rat) (a:Rat):Prop:=0≤a∧dt n x x≤a * a
theorem Bd.dot {n:Nat} {x y:Nat→Rat} {a b:Rat} (hx:Bd n x a) (hy:Bd n y b):ab (dt n x y)≤a * b:=by
 have h0:=Rat.mul_nonneg hx.1 hy.1
 have c:=dt_cs n x y
 have X0:=dt_sq n x
 have k1:=Rat.mul_nonneg (show 0≤a * a - dt n x x by have:=hx.2;grind) (dt_sq n y)
 have k2:=Rat.mul_nonneg (sq_nonneg a) (show 0≤b * b - dt n y y by have:=hy.2;grind)
 have h:ab (dt n x y) * ab (dt n x y)≤(a * b) * (a * b):=by
  rw [← ab_mul,ab_pos (sq_nonneg _)]
  grind
 exact le_of_sq h0 h
theorem Bd.add {n:Nat} {x y:Nat→Rat} {a b:Rat} (hx:Bd n x a) (hy:Bd n y b):Bd n (fun i=>x i+y i) (a+b):=by
 have h1:=hx.1
 have h2:=hy.1
 refine ⟨by grind,?_⟩
 have d:=hx.dot hy
 have l:=le_ab (dt n x y)
 rw [dt_add,dt_add2,dt_add2,dt_comm n y x]
 have:=hx.2
 have:=hy.2
 grind
theorem Bd.mul {n:Nat} {x:Nat→Rat} {a:Rat} (hx:Bd n x a) (c:Rat):Bd n (fun i=>c * x i) (ab c * a):=by
 refine ⟨Rat.mul_nonneg (ab_0 c) hx.1,?_⟩
 rw [dt_mul,dt_mul2]
 have e:ab c * ab c = c * c:=by rw [← ab_mul];exact ab_pos (sq_nonneg c)
 have k:=Rat.mul_nonneg (sq_nonneg c) (show 0≤a * a - dt n x x by have:=hx.2;grind)
 rw [show ab c * a * (ab c * a) = ab c * ab c * (a * a) by grind,e]
 grind
theorem Bd.mono {n:Nat} {x:Nat→Rat} {a b:Rat} (hx:Bd n x a) (h:a≤b):Bd n x b:=by
 have h1:=hx.1
 refine ⟨by grind,?_⟩
 have k:=Rat.mul_nonneg (show 0≤b - a by grind) (show 0≤b+a by grind)
 have:=hx.2
 grind
theorem Bd.congr {n:Nat} {x y:Nat→Rat} {a:Rat} (hx:Bd n x a) (h:∀ i,i < n→x i = y i):Bd n y a :=
 ⟨hx.1,by rw [← dt_congr h h];exact hx.2⟩
theorem Bd.nought (n:Nat):Bd n (fun _=>0) 0:=by
 refine ⟨Rat.le_refl,?_⟩
 have:dt n (fun _=>0) (fun _=>0) = 0 * dt n (fun _=>0) (fun _=>0):=by
  rw [← dt_mul]
  exact dt_congr (fun i _=>by grind) (fun i _=>rfl)
 rw [this]
 grind
theorem Bd.at {n:Nat} {x:Nat→Rat} {a:Rat} (hx:Bd n x a) {k:Nat} (hk:k < n):ab (x k)≤a:=by
 have h:=sm_mem (f:=fun i=>x i * x i) (fun i _=>sq_nonneg (x i)) hk
 refine le_of_sq hx.1 ?_
 rw [← ab_mul,ab_pos (sq_nonneg _)]
 have:=hx.2
 unfold dt at this
 grind
def mir (n:Nat) (v:Nat→Rat) (t:Rat) (y:Nat→Rat):Nat→Rat:=fun i=>y i+(-(t * dt n v y)) * v i
theorem mir_dot (n:Nat) (v:Nat→Rat) (t:Rat) (y z:Nat→Rat):dt n (mir n v t y) (mir n v t z) = dt n y z+t * (t * dt n v v - 2) * (dt n v y * dt n v z):=by
 unfold mir
 rw [dt_add,dt_add2,dt_add2,dt_mul,dt_mul,dt_mul2,dt_mul2,dt_comm n y v]
 grind
theorem mir_sym (n:Nat) (v:Nat→Rat) (t:Rat) (y z:Nat→Rat):dt n (mir n v t y) z = dt n y (mir n v t z):=by
 unfold mir
 rw [dt_add,dt_add2,dt_mul,dt_mul2,dt_comm n y v]
 grind
theorem mir_add (n:Nat) (v:Nat→Rat) (t:Rat) (y z:Nat→Rat) (i:Nat):mir n v t (fun i=>y i+z i) i = mir n v t y i+mir n v t z i:=by
 unfold mir
 rw [dt_add2]
 grind
theorem mir_mul (n:Nat) (v:Nat→Rat) (t c:Rat) (y:Nat→Rat) (i:Nat):mir n v t (fun i=>c * y i) i = c * mir n v t y i:=by
 unfold mir
 rw [dt_mul2]
 grind
theorem mir_twice (n:Nat) (v:Nat→Rat) (t:Rat) (y:Nat→Rat) (i:Nat):mir n v t (mir n v t y) i = y i+t * (t * dt n v v - 2) * dt n v y * v i:=by
 have e:dt n v (mir n v t y) = dt n v y+(-(t * dt n v y)) * dt n v v:=by
  unfold mir
  rw [dt_add2,dt_mul2]
 show mir n v t y i+(-(t * dt n v (mir n v t y))) * v i = _
 rw [e]
 show y i+(-(t * dt n v y)) * v i+_ = _
 grind
structure Mir (n:Nat) (v:Nat→Rat) (t ε:Rat):Prop where
 eps:0≤ε
 one:ε≤1
 two:ab (t * dt n v v - 2)≤ε
 pos:0≤t
theorem Mir.size {n:Nat} {v:Nat→Rat} {t ε:Rat} (h:Mir n v t ε):t * dt n v v≤3:=by
 have:=le_ab (t * dt n v v - 2)
 have:=h.two
 have:=h.one
 grind
theorem Mir.near {n:Nat} {v:Nat→Rat} {t ε a b:Rat} {y z:Nat→Rat} (h:Mir n v t ε) (hy:Bd n y a) (hz:Bd n z b):ab (t * (t * dt n v v - 2) * (dt n v y * dt n v z))≤3 * ε * (a * b):=by
 have c1:=dt_cs n v y
 have c2:=dt_cs n v z
 have V0:=dt_sq n v
 have hs:=h.size
 have ha:=hy.1
 have hb:=hz.1
 have hab:=Rat.mul_nonneg ha hb
 -- (v y) (v z) is at most |v|^2 a b
 have k:ab (dt n v y * dt n v z)≤dt n v v * (a * b):=by
  refine le_of_sq (Rat.mul_nonneg V0 hab) ?_
  rw [← ab_mul,ab_pos (sq_nonneg _)]
  have p1:dt n v y * dt n v y≤dt n v v * (a * a):=by
   have:=Rat.mul_nonneg V0 (show 0≤a * a - dt n y y by have:=hy.2;grind)
   grind
  have p2:dt n v z * dt n v z≤dt n v v * (b * b):=by
   have:=Rat.mul_nonneg V0 (show 0≤b * b - dt n z z by have:=hz.2;grind)
   grind
  have q1:=Rat.mul_nonneg (show 0≤dt n v v * (a * a) - dt n v y * dt n v y by grind) (sq_nonneg (dt n v z))
  have q2:=Rat.mul_nonneg (Rat.mul_nonneg V0 (sq_nonneg a)) (show 0≤dt n v v * (b * b) - dt n v z * dt n v z by grind)
  grind
 have e:ab (t * (t * dt n v v - 2) * (dt n v y * dt n v z)) = t * (ab (t * dt n v v - 2) * ab (dt n v y * dt n v z)):=by
  rw [ab_mul,ab_mul,ab_pos h.pos]
  grind
 rw [e]
 have m1:=Rat.mul_nonneg (show 0≤ε - ab (t * dt n v v - 2) by have:=h.two;grind) (ab_0 (dt n v y * dt n v z))
 have m2:=Rat.mul_nonneg h.eps (show 0≤dt n v v * (a * b) - ab (dt n v y * dt n v z) by grind)
 have m3:=Rat.mul_nonneg h.pos (show 0≤ε * (dt n v v * (a * b)) - ab (t * dt n v v - 2) * ab (dt n v y * dt n v z) by grind)
 have m4:=Rat.mul_nonneg (Rat.mul_nonneg h.eps hab) (show 0≤3 - t * dt n v v by grind)
 grind
end Go.Proofs.YtdhmglmccafbnaaGreatDoor
namespace Go.Proofs.YtdhmglmccafbnaaGreatDoor
open Go.RowKit
theorem Mir.bd {n:Nat} {v:Nat→Rat} {t ε a:Rat} {y:Nat→Rat} (h:Mir n v t ε) (hy:Bd n y a):Bd n (mir n v t y) ((1+2 * ε) * a):=by
 have ha:=hy.1
 have he:=h.eps
 refine ⟨Rat.mul_nonneg (by grind) ha,?_⟩
 rw [mir_dot]
 have k:=h.near hy hy
 have l:=le_ab (t * (t * dt n v v - 2) * (dt n v y * dt n v y))
 have m:=Rat.mul_nonneg he (sq_nonneg a)
 have m2:=Rat.mul_nonneg (Rat.mul_nonneg he he) (sq_nonneg a)
 have:=hy.2
 rw [show (1+2 * ε) * a * ((1+2 * ε) * a) = a * a+4 * (ε * (a * a))+4 * (ε * ε * (a * a)) by grind]
 grind
theorem Mir.back {n:Nat} {v:Nat→Rat} {t ε a:Rat} {y:Nat→Rat} (h:Mir n v t ε) (hy:Bd n y a):Bd n (fun i=>mir n v t (mir n v t y) i+(-1) * y i) (3 * ε * a):=by
 have ha:=hy.1
 have he:=h.eps
 have V0:=dt_sq n v
 have hs:=h.size
 have c1:=dt_cs n v y
 have e:∀ i,mir n v t (mir n v t y) i+(-1) * y i = (t * (t * dt n v v - 2) * dt n v y) * v i:=fun i=>by rw [mir_twice];grind
 have hb:Bd n (fun i=>(t * (t * dt n v v - 2) * dt n v y) * v i) (3 * ε * a):=by
  refine ⟨Rat.mul_nonneg (by grind) ha,?_⟩
  rw [dt_mul,dt_mul2]
  have k1:(t * dt n v v - 2) * (t * dt n v v - 2)≤ε * ε:=by
   have l:=le_ab (t * dt n v v - 2)
   have:=h.two
   have:=Rat.mul_nonneg (show 0≤ε - (t * dt n v v - 2) by grind) (show 0≤ε+(t * dt n v v - 2) by grind)
   grind
  have k2:dt n v y * dt n v y≤dt n v v * (a * a):=by
   have:=Rat.mul_nonneg V0 (show 0≤a * a - dt n y y by have:=hy.2;grind)
   grind
  have tv:0≤t * dt n v v:=Rat.mul_nonneg h.pos V0
  have k3:(t * dt n v v) * (t * dt n v v)≤9:=by
   have:=Rat.mul_nonneg (show 0≤3 - t * dt n v v by grind) (show 0≤3+t * dt n v v by grind)
   grind
  have tt:=Rat.mul_nonneg h.pos h.pos
  generalize dt n v v = V at *
  generalize dt n v y = G at *
  have ae:=sq_nonneg a
  have m1:=Rat.mul_nonneg (Rat.mul_nonneg tt V0) (show 0≤V * (a * a) - G * G by grind)
  -- t t V (V a a - G G) is not below 0
  have m2:=Rat.mul_nonneg (show 0≤9 - t * V * (t * V) by grind) ae
  have m3:t * t * V * (G * G)≤9 * (a * a):=by grind
  have w0:=sq_nonneg (t * V - 2)
  have m4:=Rat.mul_nonneg w0 (show 0≤9 * (a * a) - t * t * V * (G * G) by grind)
  have m5:=Rat.mul_nonneg (show 0≤ε * ε - (t * V - 2) * (t * V - 2) by grind) (show 0≤9 * (a * a) by grind)
  rw [show t * (t * V - 2) * G * (t * (t * V - 2) * G * V) = (t * V - 2) * (t * V - 2) * (t * t * V * (G * G)) by grind,show 3 * ε * a * (3 * ε * a) = ε * ε * (9 * (a * a)) by grind]
  grind
 exact hb.congr (fun i _=>(e i).symm)
theorem mir_congr {n:Nat} {v:Nat→Rat} {t:Rat} {y z:Nat→Rat} (h:∀ i,i < n→y i = z i):∀ i,i < n→mir n v t y i = mir n v t z i:=by
 intro i hi
 unfold mir
 rw [dt_congr (fun _ _=>rfl) h,h i hi]
def runM (n:Nat):List ((Nat→Rat) × Rat)→(Nat→Rat)→Nat→Rat
 | [],y=>y
 | m :: ms,y=>runM n ms (mir n m.1 m.2 y)
def bakM (n:Nat):List ((Nat→Rat) × Rat)→(Nat→Rat)→Nat→Rat
 | [],y=>y
 | m :: ms,y=>mir n m.1 m.2 (bakM n ms y)
theorem run_sym (n:Nat):∀ (ms:List ((Nat→Rat) × Rat)) (y z:Nat→Rat),dt n (runM n ms y) z = dt n y (bakM n ms z):=by
 intro ms
 induction ms with
 | nil=>intro y z;rfl
 | cons m ms ih =>
  intro y z
  show dt n (runM n ms (mir n m.1 m.2 y)) z = dt n y (mir n m.1 m.2 (bakM n ms z))
  rw [ih,mir_sym]
theorem run_congr (n:Nat):∀ (ms:List ((Nat→Rat) × Rat)) (y z:Nat→Rat),(∀ i,i < n→y i = z i)→∀ i,i < n→runM n ms y i = runM n ms z i:=by
 intro ms
 induction ms with
 | nil=>intro y z h;exact h
 | cons m ms ih=>intro y z h;exact ih _ _ (mir_congr h)
theorem run_add (n:Nat):∀ (ms:List ((Nat→Rat) × Rat)) (y z:Nat→Rat) (i:Nat),i < n→runM n ms (fun i=>y i+z i) i = runM n ms y i+runM n ms z i:=by
 intro ms
 induction ms with
 | nil=>intro y z i _;rfl
 | cons m ms ih =>
  intro y z i hi
  show runM n ms (mir n m.1 m.2 (fun i=>y i+z i)) i = runM n ms (mir n m.1 m.2 y) i+runM n ms (mir n m.1 m.2 z) i
  rw [← ih _ _ i hi]
  exact run_congr n ms _ _ (fun k _=>mir_add n m.1 m.2 y z k) i hi
theorem run_mul (n:Nat) (c:Rat):∀ (ms:List ((Nat→Rat) × Rat)) (y:Nat→Rat) (i:Nat),i < n→runM n ms (fun i=>c * y i) i = c * runM n ms y i:=by
 intro ms
 induction ms with
 | nil=>intro y i _;rfl
 | cons m ms ih =>
  intro y i hi
  show runM n ms (mir n m.1 m.2 (fun i=>c * y i)) i = c * runM n ms (mir n m.1 m.2 y) i
  rw [← ih _ i hi]
  exact run_congr n ms _ _ (fun k _=>mir_mul n m.1 m.2 c y k) i hi
def Mirs (n:Nat) (ε:Rat) (ms:List ((Nat→Rat) × Rat)):Prop:=∀ m ∈ ms,Mir n m.1 m.2 ε
def gw (ε:Rat):Nat→Rat
 | 0=>1
 | k+1=>(1+2 * ε) * gw ε k
theorem gw_1 (ε:Rat) (h:0≤ε) (k:Nat):1≤gw ε k:=by
 induction k with
 | zero=>exact Rat.le_refl
 | succ k ih =>
  have:=Rat.mul_nonneg h (show 0≤gw ε k by grind)
  show 1≤(1+2 * ε) * gw ε k
  grind
theorem run_bd {n:Nat} {ε:Rat}:∀ (ms:List ((Nat→Rat) × Rat)) (y:Nat→Rat) (a:Rat),Mirs n ε ms→Bd n y a→Bd n (runM n ms y) (gw ε ms.length * a):=by
 intro ms
 induction ms with
 | nil =>
  intro y a _ hy
  exact hy.mono (by show a≤1 * a;grind)
 | cons m ms ih =>
  intro y a hm hy
  have h1:=(hm m List.mem_cons_self).bd hy
  have h2:=ih _ _ (fun x hx=>hm x (List.mem_cons_of_mem _ hx)) h1
  refine h2.mono ?_
  show gw ε ms.length * ((1+2 * ε) * a)≤(1+2 * ε) * gw ε ms.length * a
  grind
def bk (ε:Rat):Nat→Rat
 | 0=>0
 | k+1=>3+(1+2 * ε) * (1+2 * ε) * bk ε k
theorem bak_run {n:Nat} {ε:Rat}:∀ (ms:List ((Nat→Rat) × Rat)) (y:Nat→Rat) (a:Rat),Mirs n ε ms→Bd n y a→Bd n (fun i=>bakM n ms (runM n ms y) i+(-1) * y i) (bk ε ms.length * (ε * a)):=by
 intro ms
 induction ms with
 | nil =>
  intro y a _ hy
  refine (Bd.nought n).congr (fun i _=>?_) |>.mono ?_
  ·show (0:Rat) = y i+(-1) * y i
   grind
  ·show (0:Rat)≤0 * (ε * a)
   grind
 | cons m ms ih =>
  intro y a hm hy
  have hM:=hm m List.mem_cons_self
  have h1:=hM.bd hy
  have h2:=ih _ _ (fun x hx=>hm x (List.mem_cons_of_mem _ hx)) h1
  have h3:=hM.bd h2
  have h4:=h3.add (hM.back hy)
  have ha:=hy.1
  refine (h4.congr (fun i hi=>?_)).mono ?_
  ·show mir n m.1 m.2 (fun i=>bakM n ms (runM n ms (mir n m.1 m.2 y)) i+(-1) * mir n m.1 m.2 y i) i+(mir n m.1 m.2 (mir n m.1 m.2 y) i+(-1) * y i) = mir n m.1 m.2 (bakM n ms (runM n ms (mir n m.1 m.2 y))) i+(-1) * y i
   rw [mir_add,mir_mul]
   grind
  ·show (1+2 * ε) * (bk ε ms.length * (ε * ((1+2 * ε) * a)))+3 * ε * a≤(3+(1+2 * ε) * (1+2 * ε) * bk ε ms.length) * (ε * a)
   grind
def Steps (n:Nat) (δ:Rat):List ((Nat→Rat) × Rat)→(Nat→Rat)→(Nat→Rat)→Prop
 | [],y,z=>∀ i,i < n→y i = z i
 | m :: ms,y,z=>∃ u:Nat→Rat,(∀ a,Bd n y a→Bd n (fun i=>u i+(-1) * mir n m.1 m.2 y i) (δ * a))∧Steps n δ ms u z
def er (ε δ:Rat):Nat→Rat
 | 0=>0
 | k+1=>gw ε k+er ε δ k * (1+2 * ε+δ)
theorem er_0 (ε δ:Rat) (h:0≤ε) (hd:0≤δ) (k:Nat):0≤er ε δ k:=by
 induction k with
 | zero=>exact Rat.le_refl
 | succ k ih =>
  have:=Rat.mul_nonneg ih (show 0≤1+2 * ε+δ by grind)
  have:=gw_1 ε h k
  show 0≤gw ε k+er ε δ k * (1+2 * ε+δ)
  grind
theorem steps_err {n:Nat} {ε δ:Rat}:∀ (ms:List ((Nat→Rat) × Rat)) (y z:Nat→Rat) (a:Rat),Mirs n ε ms→Steps n δ ms y z→Bd n y a→Bd n (fun i=>z i+(-1) * runM n ms y i) (er ε δ ms.length * (δ * a)):=by
 intro ms
 induction ms with
 | nil =>
  intro y z a _ hs hy
  refine (Bd.nought n).congr (fun i hi=>?_) |>.mono ?_
  ·show (0:Rat) = z i+(-1) * y i
   rw [hs i hi]
   grind
  ·show (0:Rat)≤0 * (δ * a)
   grind
 | cons m ms ih =>
  intro y z a hm hs hy
  obtain ⟨u,hu,hz⟩:=hs
  have hM:=hm m List.mem_cons_self
  have hm':Mirs n ε ms:=fun x hx=>hm x (List.mem_cons_of_mem _ hx)
  have e1:=hu a hy
  have h1:=hM.bd hy
  have hub:Bd n u ((1+2 * ε+δ) * a):=by
   refine ((h1.add e1).congr (fun i _=>?_)).mono ?_
   ·show mir n m.1 m.2 y i+(u i+(-1) * mir n m.1 m.2 y i) = u i
    grind
   ·grind
  have h2:=ih u z _ hm' hz hub
  have h3:=run_bd ms _ _ hm' e1
  have h4:=h2.add h3
  have ha:=hy.1
  refine (h4.congr (fun i hi=>?_)).mono ?_
  ·show z i+(-1) * runM n ms u i+runM n ms (fun i=>u i+(-1) * mir n m.1 m.2 y i) i = z i+(-1) * runM n ms (mir n m.1 m.2 y) i
   rw [run_add n ms _ _ i hi,run_mul n (-1) ms _ i hi]
   grind
  ·show er ε δ ms.length * (δ * ((1+2 * ε+δ) * a))+gw ε ms.length * (δ * a)≤(gw ε ms.length+er ε δ ms.length * (1+2 * ε+δ)) * (δ * a)
   grind
end Go.Proofs.YtdhmglmccafbnaaGreatDoor
