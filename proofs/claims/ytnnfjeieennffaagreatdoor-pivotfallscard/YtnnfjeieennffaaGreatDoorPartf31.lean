/- Part 31 of the texts. -/
import Derived.Test.YtnnfjeieennffaaGreatDoorPartf30
namespace Go.Proofs.YtnnfjeieennffaaGreatDoor
open Go.RowKit
theorem fQ_fN (a:Nat) (ha:a < 18446744073709551616):fQ (fN a) = -fQ a:=by
 unfold fQ
 rw [fZ_fN a ha,Rat.intCast_neg,Rat.neg_mul]
theorem sum_mem:∀ (xs:List Nat) (x:Nat),x ∈ xs→fQ x * fQ x≤sumQ xs:=by
 intro xs
 induction xs with
 | nil=>intro x hx;cases hx
 | cons y ys ih =>
  intro x hx
  have q0:=sumQ_nonneg ys
  have q1:=sq_nonneg (fQ y)
  have e:sumQ (y :: ys) = fQ y * fQ y+sumQ ys:=rfl
  rw [e]
  rcases List.mem_cons.1 hx with rfl | hx
  ·grind
  ·have:=ih x hx
   grind
theorem sum_len (B:Rat):∀ (xs:List Nat),(∀ x ∈ xs,ab (fQ x)≤B)→sumQ xs≤(xs.length:Rat) * (B * B):=by
 intro xs
 induction xs with
 | nil =>
  intro _
  have e:sumQ [] = 0:=rfl
  have e3:(([]:List Nat).length:Rat) = 0:=rfl
  rw [e,e3]
  grind
 | cons y ys ih =>
  intro h
  have h1:=ih (fun x hx=>h x (List.mem_cons_of_mem _ hx))
  have h2:=h y List.mem_cons_self
  have l:=le_ab (fQ y)
  have m:=Rat.mul_nonneg (show 0≤B - fQ y by grind) (show 0≤B+fQ y by grind)
  have e:sumQ (y :: ys) = fQ y * fQ y+sumQ ys:=rfl
  have e3:((y :: ys).length:Rat) = (ys.length:Rat)+1:=by rw [List.length_cons,Rat.natCast_add];rfl
  rw [e,e3]
  grind
theorem le_of_sq {x y:Rat} (hy:0≤y) (h:x * x≤y * y):x≤y:=by
 rcases Rat.le_total (a:=x) (b:=y) with g | g
 ·exact g
 ·by_cases e:x = y
  ·rw [e];exact Rat.le_refl
  ·have m:=Rat.mul_pos (show 0 < x - y by grind) (show 0 < x+y by grind)
   grind
end Go.Proofs.YtnnfjeieennffaaGreatDoor
namespace Go.Proofs.YtnnfjeieennffaaGreatDoor
open Go.RowKit
def apV (t:Nat):List Nat→List Nat→List Nat
 | v :: vs,y :: ys=>aV y (fN (mV t v)) :: apV t vs ys
 | _,_=>[]
def lessQ (c E:Rat):List Nat→List Nat→List Nat→Prop
 | v :: vs,y :: ys,u :: us=>(fFin u = true∧9007199254740992 * ab (fQ u - (fQ y - c * fQ v))≤E)∧lessQ c E vs ys us
 | [],[],[]=>True
 | _,_,_=>False
theorem da_le:∀ (vs ys:List Nat),(∀ v ∈ vs,1000 * ab (fQ v)≤1001)→1000 * daQ vs ys≤1001 * s1Q ys:=by
 intro vs
 induction vs with
 | nil =>
  intro ys _
  have e1:daQ [] ys = 0:=by cases ys <;> rfl
  have:=s1Q_0 ys
  rw [e1]
  grind
 | cons v vs ih =>
  intro ys h
  cases ys with
  | nil =>
   have e1:daQ (v :: vs) [] = 0:=rfl
   have e2:s1Q [] = 0:=rfl
   rw [e1,e2]
   grind
  | cons y ys =>
   have i:=ih ys (fun w hw=>h w (List.mem_cons_of_mem _ hw))
   have e1:daQ (v :: vs) (y :: ys) = ab (fQ v * fQ y)+daQ vs ys:=rfl
   have e2:s1Q (y :: ys) = ab (fQ y)+s1Q ys:=rfl
   have m:=Rat.mul_le_mul_of_nonneg_left (h v List.mem_cons_self) (ab_0 (fQ y))
   rw [e1,e2,ab_mul]
   grind
theorem ap_one (t v y:Nat) (c Y:Rat) (ft:fFin t = true) (fv:fFin v = true) (fy:fFin y = true) (hv:1000 * ab (fQ v)≤1001) (hy:ab (fQ y)≤Y) (hY:Y≤p2 900) (hη:1267650600228229401496703205376 * p2 (-1075)≤Y)
  (hc:100 * ab c≤201 * Y) (he:9007199254740992 * ab (fQ t - c)≤39 * Y) :
  fFin (aV y (fN (mV t v))) = true∧9007199254740992 * ab (fQ (aV y (fN (mV t v))) - (fQ y - c * fQ v))≤46 * Y:=by
 have hp:=p2_pos (-1075)
 have Y0:0≤Y:=by grind
 have y0:=ab_0 (fQ y);have v0:=ab_0 (fQ v)
 have lt:=le_ab (fQ t - c);have lc:=le_ab c
 have ht2:1000 * ab (fQ t)≤2011 * Y:=by
  have:=ab_le (x:=fQ t) (y:=ab (fQ t - c)+ab c) (by grind) (by grind)
  grind
 have big:16 * p2 900≤p2 1023∧0 < p2 900:=by
  have h1:=p2_mono (show (900+1+1+1+1:Int)≤1023 by decide)
  simp only [p2_succ] at h1
  exact ⟨by grind,p2_pos _⟩
 have t0:=ab_0 (fQ t)
 have m1:=Rat.mul_le_mul_of_nonneg_left hv t0
 have etv:ab (fQ t * fQ v) = ab (fQ t) * ab (fQ v):=ab_mul _ _
 have htv:1000 * ab (fQ t * fQ v)≤2014 * Y:=by rw [etv];grind
 obtain ⟨f1,e1⟩:=mul_err2 t v ft fv (by grind)
 have pl:=mV_lt t v
 have fn:fFin (fN (mV t v)) = true:=by rw [fFin_fN _ pl];exact f1
 have qn:=fQ_fN _ pl
 have l1:=le_ab (fQ (mV t v) - fQ t * fQ v);have l2:=le_ab (fQ t * fQ v);have l3:=le_ab (fQ y)
 have hp2:=ab_le (x:=fQ y+-fQ (mV t v)) (y:=ab (fQ y)+ab (fQ (mV t v) - fQ t * fQ v)+ab (fQ t * fQ v)) (by grind) (by grind)
 have fa:=add_fin y (fN (mV t v)) fy fn (by rw [qn];grind)
 have ea:=add_err y (fN (mV t v)) fy fn fa
 rw [qn] at ea
 refine ⟨fa,?_⟩
 have l4:=le_ab (fQ (aV y (fN (mV t v))) - (fQ y+-fQ (mV t v)))
 have hd2:9007199254740992 * ab ((fQ t - c) * fQ v)≤40 * Y:=by
  rw [ab_mul]
  have m2:=Rat.mul_le_mul_of_nonneg_left hv (ab_0 (fQ t - c))
  rw [show ab (fQ t - c) * (1000 * ab (fQ v)) = 1000 * (ab (fQ t - c) * ab (fQ v)) by grind] at m2
  generalize ab (fQ t - c) * ab (fQ v) = z at *
  clear l1 l2 l3 l4 lt lc
  grind
 have l5:=le_ab ((fQ t - c) * fQ v)
 have w:(fQ t - c) * fQ v = fQ t * fQ v - c * fQ v:=by grind
 rw [w] at l5 hd2
 have fin:=ab_le (x:=fQ (aV y (fN (mV t v))) - (fQ y - c * fQ v)) (y:=ab (fQ (aV y (fN (mV t v))) - (fQ y+-fQ (mV t v)))+ab (fQ (mV t v) - fQ t * fQ v)+ab (fQ t * fQ v - c * fQ v)) (by grind) (by grind)
 clear l1 l2 l3 l4 l5 lt lc w m1 etv
 generalize ab (fQ (aV y (fN (mV t v))) - (fQ y - c * fQ v)) = z0 at *
 generalize ab (fQ (aV y (fN (mV t v))) - (fQ y+-fQ (mV t v))) = z1 at *
 generalize ab (fQ (mV t v) - fQ t * fQ v) = z2 at *
 generalize ab (fQ t * fQ v - c * fQ v) = z3 at *
 generalize ab (fQ y+-fQ (mV t v)) = z4 at *
 generalize ab (fQ t * fQ v) = z5 at *
 generalize ab (fQ y) = z6 at *
 generalize p2 (-1075) = η at *
 grind
theorem ap_all (t:Nat) (c Y:Rat) (ft:fFin t = true) (hY:Y≤p2 900) (hη:1267650600228229401496703205376 * p2 (-1075)≤Y) (hc:100 * ab c≤201 * Y) (he:9007199254740992 * ab (fQ t - c)≤39 * Y) :
  ∀ (vs ys:List Nat),vs.length = ys.length→(∀ v ∈ vs,fFin v = true∧1000 * ab (fQ v)≤1001)→(∀ y ∈ ys,fFin y = true∧ab (fQ y)≤Y)→lessQ c (46 * Y) vs ys (apV t vs ys):=by
 intro vs
 induction vs with
 | nil =>
  intro ys hl _ _
  cases ys with
  | nil=>exact trivial
  | cons y ys=>simp at hl
 | cons v vs ih =>
  intro ys hl hv hy
  cases ys with
  | nil=>simp at hl
  | cons y ys =>
   obtain ⟨v1,v2⟩:=hv v List.mem_cons_self
   obtain ⟨y1,y2⟩:=hy y List.mem_cons_self
   show lessQ c (46 * Y) (v :: vs) (y :: ys) (aV y (fN (mV t v)) :: apV t vs ys)
   unfold lessQ
   exact ⟨ap_one t v y c Y ft v1 y1 v2 y2 hY hη hc he,ih ys (by simpa using hl) (fun w hw=>hv w (List.mem_cons_of_mem _ hw)) (fun w hw=>hy w (List.mem_cons_of_mem _ hw))⟩
theorem s1_mem:∀ (xs:List Nat) (x:Nat),x ∈ xs→ab (fQ x)≤s1Q xs:=by
 intro xs
 induction xs with
 | nil=>intro x hx;cases hx
 | cons y ys ih =>
  intro x hx
  have q0:=s1Q_0 ys
  have q1:=ab_0 (fQ y)
  have e:s1Q (y :: ys) = ab (fQ y)+s1Q ys:=rfl
  rw [e]
  rcases List.mem_cons.1 hx with rfl | hx
  ·grind
  ·have:=ih x hx
   grind
end Go.Proofs.YtnnfjeieennffaaGreatDoor
namespace Go.Proofs.YtnnfjeieennffaaGreatDoor
open Go.RowKit
theorem fQ_one:fQ 4607182418800017408 = 1:=by
 have hs:fS 4607182418800017408 = false:=by decide
 have hr:fR 4607182418800017408 = 4607182418800017408:=by decide
 obtain ⟨K,hK⟩:∃ K:Nat,K = 1022:=⟨_,rfl⟩
 have hg:rv 4607182418800017408 = 4503599627370496 * 2 ^ K:=by
  have:=gM_rv 4607182418800017408 (by decide)
  rw [this,show gM 4607182418800017408 = 4503599627370496 by decide,show 4607182418800017408 / 4503599627370496 - 1 = K by omega]
 rw [fQ_sign,hs,if_neg (by decide),hr,hg,Rat.natCast_mul,← p2_nat]
 have e:p2 ((K:Nat):Int) = 4503599627370496 * p2 970:=by
  rw [show ((K:Nat):Int) = 970+52 by omega,p2_52]
 have e2:4503599627370496 * (4503599627370496 * p2 970) = p2 1074:=by
  rw [← p2_52,← p2_52];rfl
 have k:((4503599627370496:Nat):Rat) = 4503599627370496:=rfl
 rw [k,e,e2,Rat.mul_comm]
 exact p2_neg 1074
end Go.Proofs.YtnnfjeieennffaaGreatDoor
namespace Go.Proofs.YtnnfjeieennffaaGreatDoor
open Go.RowKit
def TopV (K:Int) (xs:List Nat):Prop:=(∀ x ∈ xs,x < 18446744073709551616∧fFin x = true)∧(bgF 0 xs = 0 ∨ (-K≤eX (bgF 0 xs)∧eX (bgF 0 xs) < K))
theorem top_big (K:Int) (xs:List Nat) (h:TopV K xs) (h0:bgF 0 xs ≠ 0) :
  bgF 0 xs < 9218868437227405312∧fFin (bgF 0 xs) = true∧fK (bgF 0 xs) ≠ 0∧fS (bgF 0 xs) = false∧-K≤eX (bgF 0 xs)∧eX (bgF 0 xs) < K ∧
  (∀ x ∈ xs,ab (fQ x)≤fQ (bgF 0 xs))∧(∀ x ∈ xs,ab (dQ (eX (bgF 0 xs)) x)≤2)∧(∃ x ∈ xs,ab (fQ x) = fQ (bgF 0 xs)∧1≤dQ (eX (bgF 0 xs)) x * dQ (eX (bgF 0 xs)) x):=by
 obtain ⟨g1,g2,g3,g4⟩:=bgF_fin xs 0 (by decide) (fun x hx=>(h.1 x hx).2)
 have h2:=h.2
 generalize hM:bgF 0 xs = M at *
 obtain ⟨a1,a2,a3⟩:=mag_fZ M (by omega)
 have fM:fFin M = true:=(fK_rungs M).2.2.2 (by rw [a2];exact g1)
 have kM:fK M ≠ 0:=fun e=>h0 (by have:=(fK_zero M).1 e;omega)
 have q0:=fQ_pos M a3
 have qM:fQ M = (rv M:Rat) * p2 (-1074):=by rw [fQ_sign,a3,a2];rfl
 obtain ⟨t1,t2⟩:=eX_top M (by omega) fM kM
 rw [ab_pos q0] at t1 t2
 have hall:∀ x ∈ xs,ab (fQ x)≤fQ M:=fun x hx=>by
  rw [fQ_ab,qM]
  have h1:(rv (fR x):Rat)≤(rv M:Rat):=Rat.natCast_le_natCast.2 (rv_mono (g3 x hx))
  have:=Rat.mul_le_mul_of_nonneg_left h1 (Rat.le_of_lt (p2_pos (-1074)))
  grind
 obtain ⟨y,hy,hy2⟩:∃ x ∈ xs,fR x = M:=by
  rcases g4 with g4 | g4
  ·exact absurd g4 h0
  ·exact g4
 clear g4
 have ey:ab (fQ y) = fQ M:=by rw [fQ_ab,qM,hy2]
 have hp:=p2_pos (-eX M)
 have hpp:p2 (-eX M) * p2 (eX M) = 1:=p2_neg _
 rw [p2_succ] at t2
 have u1:=Rat.mul_le_mul_of_nonneg_left t1 (Rat.le_of_lt hp)
 have u2:=Rat.mul_lt_mul_of_pos_left t2 hp
 have hd:∀ x,ab (dQ (eX M) x) = ab (fQ x) * p2 (-eX M):=fun x=>by
  unfold dQ;rw [ab_mul,ab_pos (Rat.le_of_lt hp)]
 have hr:=h2.resolve_left h0
 refine ⟨g1,fM,kM,a3,hr.1,hr.2,hall,?_,y,hy,ey,?_⟩
 ·intro x hx
  rw [hd]
  have:=Rat.mul_le_mul_of_nonneg_left (hall x hx) (Rat.le_of_lt hp)
  grind
 ·have e1:1≤ab (dQ (eX M) y):=by rw [hd,ey];grind
  have e2:dQ (eX M) y * dQ (eX M) y = ab (dQ (eX M) y) * ab (dQ (eX M) y):=by
   rw [← ab_mul];exact (ab_pos (sq_nonneg _)).symm
  rw [e2]
  have:=Rat.mul_nonneg (show 0≤ab (dQ (eX M) y) - 1 by grind) (show 0≤ab (dQ (eX M) y) - 1 by grind)
  grind
theorem top_parts (K:Int) (hK:K≤900) (xs:List Nat) (hl:xs.length≤64) (h:TopV K xs) (h0:bgF 0 xs ≠ 0) :
  let k:=eX (bgF 0 xs);let s:=ssV k 0 xs
  nrV xs = xV (sV s) k∧fFin s = true∧fS s = false∧fK s ≠ 0∧1≤sqQ k xs∧9007199254740992 * ab (fQ s - sqQ k xs)≤130 * sqQ k xs ∧
  fFin (sV s) = true∧sV s < 18446744073709551616∧fS (sV s) = false∧1≤2 * fQ (sV s)∧fQ (sV s)≤17∧fFin (nrV xs) = true∧fS (nrV xs) = false∧fQ (nrV xs) = fQ (sV s) * p2 k:=by
 intro k s
 obtain ⟨b1,b2,b3,b4,b5,b6,b7,b8,y,hy,b9,b10⟩:=top_big K xs h h0
 have hn:nrV xs = xV (sV s) k:=by
  unfold nrV
  rw [if_neg (by rw [b2];simp [h0])]
 have T1:1≤sqQ k xs:=by have:=sqQ_mem k xs y hy;grind
 have hl2:(xs.length:Rat)≤64:=Rat.natCast_le_natCast.2 hl
 have T2:sqQ k xs≤256:=by have:=sqQ_le k xs b8;grind
 have hlG:=Rat.mul_nonneg (show 0≤64 - (xs.length:Rat) by grind) (show 0≤sqQ k xs by grind)
 have z0:fQ 0 = 0:=fQ_nought 0 (by decide)
 obtain ⟨e1,e2,e3⟩:=ss_err k (sqQ k xs) T1 T2 xs 0 0 0 (fun x hx=>⟨(h.1 x hx).1,(h.1 x hx).2,b8 x hx⟩) (by decide) (by decide) (by grind) (by grind) (by rw [z0];unfold ab;grind)
 have e4:9007199254740992 * ab (fQ s - sqQ k xs)≤130 * sqQ k xs:=by
  have:(0:Rat)+sqQ k xs = sqQ k xs:=Rat.zero_add _
  rw [this] at e3
  grind
 have l:=le_ab (fQ s - sqQ k xs)
 have s1:1≤2 * fQ s:=by grind
 have k0:fK s ≠ 0:=fun e=>by
  have:=fQ_nought s e
  grind
 obtain ⟨r1,r2,r3,r4,r5,r6,r7⟩:=sqrt_err s e1 k0 e2
 have r8:1≤2 * fQ (sV s):=by
  rcases Rat.le_total (a:=1) (b:=2 * fQ (sV s)) with g | g
  ·exact g
  ·have:=Rat.mul_nonneg (show 0≤1 - 2 * fQ (sV s) by grind) (show 0≤1+2 * fQ (sV s) by grind)
   grind
 have r9:fQ (sV s)≤17:=by
  rcases Rat.le_total (a:=fQ (sV s)) (b:=17) with g | g
  ·exact g
  ·have:=Rat.mul_nonneg (show 0≤fQ (sV s) - 17 by grind) (show 0≤fQ (sV s)+17 by grind)
   grind
 have hpk:=p2_pos k
 have x1:ab (fQ (sV s)) * p2 k < p2 1023:=by
  rw [ab_pos r5]
  have m1:=Rat.mul_le_mul_of_nonneg_left r9 (Rat.le_of_lt hpk)
  have m2:=p2_mono (show k+1+1+1+1+1≤1023 by omega)
  simp only [p2_succ] at m2
  grind
 have x2:p2 (-1022)≤ab (fQ (sV s)) * p2 k:=by
  rw [ab_pos r5]
  have m1:=Rat.mul_le_mul_of_nonneg_left r8 (Rat.le_of_lt hpk)
  have m2:=p2_mono (show -1022+1≤k by omega)
  rw [p2_succ] at m2
  grind
 obtain ⟨y1,y2⟩:=scale_exact (sV s) k r3 r1 x1 x2
 refine ⟨hn,e1,e2,k0,T1,e4,r1,r3,r2,r8,r9,by rw [hn];exact y1,?_,by rw [hn];exact y2⟩
 have q0:fK (sV s) ≠ 0:=fun e=>by
  have:=fQ_nought (sV s) e
  grind
 rw [hn,xV_fin _ _ r1 q0]
 have hle:=rnd_le (fD (sV s)).natAbs (fX (sV s)+k)
 rw [fS_wrd _ _ (by omega)]
 exact r2
theorem top_right2 (K:Int) (hK:K≤900) (xs:List Nat) (hl:xs.length≤64) (h:TopV K xs) (h0:bgF 0 xs ≠ 0) :
  fFin (nrV xs) = true∧fS (nrV xs) = false∧0 < fQ (nrV xs)∧9007199254740992 * ab (fQ (nrV xs) * fQ (nrV xs) - sumQ xs)≤135 * sumQ xs:=by
 obtain ⟨n1,n2,n3,n4,n5,n6,n7,n8,n9,n10,n11,n12,n13,n14⟩:=top_parts K hK xs hl h h0
 have hp:=p2_pos (eX (bgF 0 xs))
 refine ⟨n12,n13,?_,?_⟩
 ·rw [n14]
  exact Rat.mul_pos (by grind) hp
 obtain ⟨r1,r2,r3,r4,r5,r6,r7⟩:=sqrt_err _ n2 n4 n3
 rw [n14,← sqQ_sum (eX (bgF 0 xs)) xs]
 generalize fQ (sV (ssV (eX (bgF 0 xs)) 0 xs)) = R at *
 generalize fQ (ssV (eX (bgF 0 xs)) 0 xs) = S at *
 generalize sqQ (eX (bgF 0 xs)) xs = T at *
 have hPP:=Rat.mul_pos hp hp
 have e1:R * p2 (eX (bgF 0 xs)) * (R * p2 (eX (bgF 0 xs))) - T * (p2 (eX (bgF 0 xs)) * p2 (eX (bgF 0 xs))) = (R * R - T) * (p2 (eX (bgF 0 xs)) * p2 (eX (bgF 0 xs))):=by grind
 rw [e1,ab_mul,ab_pos (Rat.le_of_lt hPP)]
 generalize p2 (eX (bgF 0 xs)) * p2 (eX (bgF 0 xs)) = Q at *
 have l:=le_ab (S - T)
 have e2:9007199254740992 * ab (R * R - T)≤135 * T:=by
  generalize R * R = RR at *
  unfold ab
  grind
 have:=Rat.mul_le_mul_of_nonneg_left e2 (Rat.le_of_lt hPP)
 grind
end Go.Proofs.YtnnfjeieennffaaGreatDoor
namespace Go.Proofs.YtnnfjeieennffaaGreatDoor
open Go.RowKit
def quosM (d κ:Rat):List Nat→List Nat→Prop
 | v :: vs,x :: xs=>9007199254740992 * ab (fQ v * d - fQ x)≤2 * ab (fQ x)+κ∧quosM d κ vs xs
 | [],[]=>True
 | _,_=>False
theorem quosM_sq (d κ E:Rat) (hκ:0≤κ):∀ (vs xs:List Nat),quosM d κ vs xs→(∀ x ∈ xs,4 * (ab (fQ x) * κ)+4 * (κ * κ)≤E)→9007199254740992 * ab (sumQ vs * (d * d) - sumQ xs)≤5 * sumQ xs+(xs.length:Rat) * E∧9007199254740992 * ab (dtQ vs xs * d - sumQ xs)≤2 * sumQ xs+(xs.length:Rat) * E:=by
 intro vs
 induction vs with
 | nil =>
  intro xs h _
  cases xs with
  | nil =>
   have e1:sumQ [] = 0:=rfl
   have e2:dtQ [] [] = 0:=rfl
   have e3:(([]:List Nat).length:Rat) = 0:=rfl
   rw [e1,e2,e3,Rat.zero_mul,Rat.zero_mul]
   unfold ab
   grind
  | cons x xs=>exact absurd h (by unfold quosM;exact id)
 | cons v vs ih =>
  intro xs h hE
  cases xs with
  | nil=>exact absurd h (by unfold quosM;exact id)
  | cons x xs =>
   unfold quosM at h
   obtain ⟨h1,h2⟩:=h
   obtain ⟨i1,i2⟩:=ih xs h2 (fun y hy=>hE y (List.mem_cons_of_mem _ hy))
   have hE1:=hE x List.mem_cons_self
   have e1:sumQ (v :: vs) = fQ v * fQ v+sumQ vs:=rfl
   have e2:sumQ (x :: xs) = fQ x * fQ x+sumQ xs:=rfl
   have e3:dtQ (v :: vs) (x :: xs) = fQ v * fQ x+dtQ vs xs:=rfl
   have e4:((x :: xs).length:Rat) * E = (xs.length:Rat) * E+E:=by
    rw [List.length_cons,Rat.natCast_add]
    have:((1:Nat):Rat) = 1:=rfl
    rw [this]
    grind
   rw [e1,e2,e3,e4]
   obtain ⟨z,hz⟩:∃ z,fQ v * d = fQ x+z:=⟨fQ v * d - fQ x,by grind⟩
   have k:fQ v * d - fQ x = z:=by grind
   rw [k] at h1
   have x0:=ab_0 (fQ x);have z0:=ab_0 z
   have qx:=sq_nonneg (fQ x);have qz:=sq_nonneg z
   have ex:ab (fQ x) * ab (fQ x) = fQ x * fQ x:=by rw [← ab_mul];exact ab_pos qx
   have ez:ab z * ab z = z * z:=by rw [← ab_mul];exact ab_pos qz
   have xκ:=Rat.mul_nonneg x0 hκ
   have κκ:=Rat.mul_nonneg hκ hκ
   have p1:=Rat.mul_le_mul_of_nonneg_left h1 x0
   have p2':=Rat.mul_le_mul_of_nonneg_left h1 z0
   have p3:=Rat.mul_le_mul_of_nonneg_left h1 hκ
   have exz:ab (fQ x * z) = ab (fQ x) * ab z:=ab_mul _ _
   have v1:9007199254740992 * ab (fQ x * z)≤2 * (fQ x * fQ x)+ab (fQ x) * κ:=by grind
   have v2:9007199254740992 * (z * z)≤2 * ab (fQ x * z)+κ * ab z:=by grind
   have v3:9007199254740992 * (κ * ab z)≤2 * (ab (fQ x) * κ)+κ * κ:=by grind
   have l1:=le_ab (fQ x * z)
   have w1:(fQ v * fQ v+sumQ vs) * (d * d) - (fQ x * fQ x+sumQ xs) = 2 * (fQ x * z)+z * z+(sumQ vs * (d * d) - sumQ xs):=by
    have:fQ v * fQ v * (d * d) = (fQ x+z) * (fQ x+z):=by rw [← hz];grind
    grind
   have w2:(fQ v * fQ x+dtQ vs xs) * d - (fQ x * fQ x+sumQ xs) = fQ x * z+(dtQ vs xs * d - sumQ xs):=by
    have:fQ v * fQ x * d = (fQ x+z) * fQ x:=by rw [← hz];grind
    grind
   rw [w1,w2]
   have l2:=le_ab (sumQ vs * (d * d) - sumQ xs);have l3:=le_ab (dtQ vs xs * d - sumQ xs)
   clear w1 w2 p1 p2' p3 ex ez exz hz k h1 h2 e4 hE
   generalize sumQ vs * (d * d) - sumQ xs = A at *
   generalize dtQ vs xs * d - sumQ xs = B at *
   generalize fQ x * z = C at *
   generalize z * z = Z at *
   generalize fQ x * fQ x = X at *
   generalize ab (fQ x) * κ = XK at *
   generalize κ * ab z = KZ at *
   generalize κ * κ = KK at *
   generalize (xs.length:Rat) * E = L at *
   constructor
   ·refine Rat.le_trans (Rat.mul_le_mul_of_nonneg_left (ab_le (y:=2 * ab C+Z+ab A) (by grind) (by grind)) (by decide)) ?_
    grind
   ·refine Rat.le_trans (Rat.mul_le_mul_of_nonneg_left (ab_le (y:=ab C+ab B) (by grind) (by grind)) (by decide)) ?_
    grind
theorem mirror_two3 (r ε ρ τ V:Rat) (hr1:-1≤r) (hr2:100 * r≤-49) (hε:9007199254740992 * ab ε≤1) (hρ:9007199254740992 * ab (ρ+1+2 * r)≤137)
  (hτ:9007199254740992 * ab (τ * r+1)≤4) (hV:9007199254740992 * ab (V * ((1+ε) * (1+ε)) - ρ)≤5 * ρ+3):8796093022208 * ab (τ * (1+V) - 2)≤1:=by
 obtain ⟨θ,hθ⟩:∃ θ,τ * r+1 = θ:=⟨_,rfl⟩
 obtain ⟨φ,hφ⟩:∃ φ,V * ((1+ε) * (1+ε)) - ρ = φ:=⟨_,rfl⟩
 obtain ⟨ψ,hψ⟩:∃ ψ,ρ+1+2 * r = ψ:=⟨_,rfl⟩
 obtain ⟨E,hE⟩:∃ E,2 * ε+ε * ε = E:=⟨_,rfl⟩
 obtain ⟨N,hN⟩:∃ N,τ * (1+V) - 2 = N:=⟨_,rfl⟩
 rw [hθ] at hτ
 rw [hφ] at hV
 rw [hψ] at hρ
 rw [hN]
 have lε:=le_ab ε;have lψ:=le_ab ψ;have lθ:=le_ab θ;have lφ:=le_ab φ
 have e1:9007199254740992 * ab E≤3:=by
  have h1:=ab_mul_le (x:=ε) (y:=ε) (by grind)
  have l:=le_ab (ε * ε)
  refine Rat.le_trans (Rat.mul_le_mul_of_nonneg_left (ab_le (y:=2 * ab ε+ab (ε * ε)) (by grind) (by grind)) (by decide)) ?_
  grind
 have lE:=le_ab E
 have r1:ab r≤1:=ab_le (by grind) (by grind)
 have b1:=ab_mul_le (y:=θ) r1
 have b2:=ab_mul_le (y:=E) r1
 have b3:=ab_mul_le (x:=θ) (y:=ψ+E+φ) (by grind)
 have b4:ab (ψ+E+φ)≤ab ψ+ab E+ab φ:=ab_le (by grind) (by grind)
 have c1:=le_ab (r * θ);have c2:=le_ab (r * E);have c3:=le_ab (θ * (ψ+E+φ))
 have key:N * (r * (1+E)) = -(2 * (r * θ))+θ * (ψ+E+φ) - ψ - E - φ - 2 * (r * E):=by
  rw [← hN,← hθ,← hφ,← hψ,← hE]
  grind
 have k2:9007199254740992 * ab (N * (r * (1+E)))≤322:=by
  rw [key]
  refine Rat.le_trans (Rat.mul_le_mul_of_nonneg_left (ab_le (y:=2 * ab (r * θ)+ab (θ * (ψ+E+φ))+ab ψ+ab E+ab φ+2 * ab (r * E)) (by grind) (by grind)) (by decide)) ?_
  grind
 rw [ab_mul] at k2
 have d1:48≤100 * ab (r * (1+E)):=by
  have l:=le_ab (r * (1+E))
  have e2:r * (1+E) = r+r * E:=by grind
  rw [e2] at l ⊢
  grind
 have N0:=ab_0 N
 have m:=Rat.mul_le_mul_of_nonneg_left d1 N0
 have m2:48 * ab N≤100 * (ab N * ab (r * (1+E))):=by
  rw [show 48 * ab N = ab N * 48 by grind,show 100 * (ab N * ab (r * (1+E))) = ab N * (100 * ab (r * (1+E))) by grind]
  exact m
 clear m d1 key c1 c2 c3 b1 b2 b3 b4 hN hE hψ hφ hθ
 generalize ab N * ab (r * (1+E)) = Z at *
 grind
theorem mirror_norm3 (a b R d t V:Rat) (hR:0≤R) (hsg:(0 < b∧a≤0) ∨ (b < 0∧0≤a)) (h1:9007199254740992 * ab (b * b - (a * a+R))≤135 * (a * a+R))
  (h2:9007199254740992 * ab (d - (a - b))≤ab (a - b)) (h3:9007199254740992 * ab (t * b+(a - b))≤4 * ab (a - b)) (h4:4503599627370496 * ab a≤4503599627370496 * ab b+70 * ab b) (h5:9007199254740992 * ab (V * (d * d) - R)≤5 * R+(a * a+R)) :
  8796093022208 * ab (t * (1+V) - 2)≤1∧9007199254740992 * t≤18014398509481984+200∧9007199254740992≤9007199254740992 * t+5:=by
 obtain ⟨D,hD⟩:∃ D,a - b = D:=⟨_,rfl⟩
 have D0:D ≠ 0:=by intro e;grind
 obtain ⟨I,hI⟩:∃ I,D * I = 1:=⟨D⁻¹,Rat.mul_inv_cancel D D0⟩
 rw [hD] at h2 h3
 have aDI:ab D * ab I = 1:=by rw [← ab_mul,hI];exact ab_pos (by decide)
 have I0:=ab_0 I
 have qI:=sq_nonneg I
 have eII:ab I * ab I = I * I:=by rw [← ab_mul];exact ab_pos qI
 -- r and α
 obtain ⟨r,hr⟩:∃ r,b * I = r:=⟨_,rfl⟩
 obtain ⟨α,hα⟩:∃ α,a * I = α:=⟨_,rfl⟩
 have har:α - r = 1:=by rw [← hα,← hr,← hI,← hD];grind
 have qa:=sq_nonneg a;have qb:=sq_nonneg b
 have hα0:0≤α:=by
  have e:α = a * D * (I * I):=by
   rw [← hα]
   have:I = D * I * I:=by rw [hI,Rat.one_mul]
   grind
  rw [e]
  refine Rat.mul_nonneg ?_ qI
  rw [← hD]
  rcases hsg with ⟨g1,g2⟩ | ⟨g1,g2⟩
  ·have:=Rat.mul_nonneg (show 0≤-a by grind) (Rat.le_of_lt g1)
   grind
  ·have:=Rat.mul_nonneg g2 (show 0≤-b by grind)
   grind
 have hr0:r≤0:=by
  have e:-r = -(b * D) * (I * I):=by
   rw [← hr]
   have:I = D * I * I:=by rw [hI,Rat.one_mul]
   grind
  have:0≤-r:=by
   rw [e]
   refine Rat.mul_nonneg ?_ qI
   rw [← hD]
   rcases hsg with ⟨g1,g2⟩ | ⟨g1,g2⟩
   ·have:=Rat.mul_nonneg (show 0≤-a by grind) (Rat.le_of_lt g1)
    grind
   ·have:=Rat.mul_nonneg g2 (show 0≤-b by grind)
    grind
  grind
 have ea:ab a * ab I = α:=by rw [← ab_mul,hα];exact ab_pos hα0
 have eb:ab b * ab I = -r:=by rw [← ab_mul,hr];unfold ab;grind
 have hα2:4503599627370496 * α≤4503599627370496 * -r+70 * -r:=by
  have:=Rat.mul_le_mul_of_nonneg_left h4 I0
  rw [← ea,← eb]
  grind
 have hr1:-1≤r:=by grind
 have hr2:100 * r≤-49:=by grind
 -- ε
 obtain ⟨ε,hε⟩:∃ ε,(d - D) * I = ε:=⟨_,rfl⟩
 have hdI:d * I = 1+ε:=by rw [← hε,← hI];grind
 have bε:9007199254740992 * ab ε≤1:=by
  rw [← hε,ab_mul,← aDI]
  have:=Rat.mul_le_mul_of_nonneg_left h2 I0
  grind
 -- ρ
 obtain ⟨ρ,hρ⟩:∃ ρ,R * (I * I) = ρ:=⟨_,rfl⟩
 have bρ:9007199254740992 * ab (ρ+1+2 * r)≤137:=by
  have e:ρ+1+2 * r = -((b * b - (a * a+R)) * (I * I)):=by
   have e1:b * b * (I * I) = r * r:=by rw [← hr];grind
   have e2:a * a * (I * I) = α * α:=by rw [← hα];grind
   have e3:-((b * b - (a * a+R)) * (I * I)) = a * a * (I * I)+R * (I * I) - b * b * (I * I):=by grind
   rw [e3,e1,e2,hρ,show α = 1+r by grind]
   grind
  rw [e,ab_neg,ab_mul,ab_pos (x:=I * I) qI]
  have l:=le_ab (b * b - (a * a+R))
  have h6:9007199254740992 * ab (b * b - (a * a+R))≤136 * (b * b):=by
   generalize ab (b * b - (a * a+R)) = z at *
   grind
  have m:=Rat.mul_le_mul_of_nonneg_left h6 qI
  have e1:I * I * (136 * (b * b)) = 136 * (r * r):=by rw [← hr];grind
  rw [e1] at m
  have rr:=Rat.mul_nonneg (show 0≤1+r by grind) (show 0≤1 - r by grind)
  have rr2:=sq_nonneg r
  grind
 have bτ:9007199254740992 * ab (t * r+1)≤4:=by
  have e:t * r+1 = (t * b+D) * I:=by rw [← hr,← hI];grind
  rw [e,ab_mul]
  have m:=Rat.mul_le_mul_of_nonneg_left h3 I0
  grind
 have bV:9007199254740992 * ab (V * ((1+ε) * (1+ε)) - ρ)≤5 * ρ+3:=by
  have e:V * ((1+ε) * (1+ε)) - ρ = (V * (d * d) - R) * (I * I):=by rw [← hdI,← hρ];grind
  rw [e,ab_mul,ab_pos (x:=I * I) qI,← hρ]
  have m:=Rat.mul_le_mul_of_nonneg_left h5 qI
  have e2:a * a * (I * I) = α * α:=by rw [← hα];grind
  have lρ:=le_ab (ρ+1+2 * r)
  have α1:=Rat.mul_nonneg (show 0≤1 - α by grind) (show 0≤1+α by grind)
  have e3:I * I * (5 * R+(a * a+R)) = 6 * (R * (I * I))+α * α:=by rw [← e2];grind
  rw [e3,hρ] at m
  rw [hρ]
  grind
 refine ⟨mirror_two3 r ε ρ t V hr1 hr2 bε bρ bτ bV,?_,?_⟩
 ·have l:=le_ab (t * r+1)
  -- t (-r) <= 1+4u,-r >= 1 / (2+70 / 2^52)
  rcases Rat.le_total (a:=9007199254740992 * t) (b:=18014398509481984+200) with g | g
  ·exact g
  ·exfalso
   have m:=Rat.mul_nonneg (show 0≤9007199254740992 * t - (18014398509481984+200) by grind) (show 0≤-r by grind)
   have e:(9007199254740992 * t - (18014398509481984+200)) * -r = -(9007199254740992 * (t * r))+(18014398509481984+200) * r:=by grind
   rw [e] at m
   generalize t * r = z at *
   grind
 ·have l:=le_ab (t * r+1)
  rcases Rat.le_total (a:=9007199254740992) (b:=9007199254740992 * t+5) with g | g
  ·exact g
  ·exfalso
   have m:=Rat.mul_nonneg (show 0≤9007199254740992 - (9007199254740992 * t+5) by grind) (show 0≤-r by grind)
   have e:(9007199254740992 - (9007199254740992 * t+5)) * -r = 9007199254740992 * (t * r) - 9007199254740992 * r+5 * r:=by grind
   rw [e] at m
   generalize t * r = z at *
   grind
theorem mirror_own3 (a b R d t G:Rat) (hR:0≤R) (hsg:(0 < b∧a≤0) ∨ (b < 0∧0≤a)) (h1:9007199254740992 * ab (b * b - (a * a+R))≤135 * (a * a+R))
  (h2:9007199254740992 * ab (d - (a - b))≤ab (a - b)) (h3:9007199254740992 * ab (t * b+(a - b))≤4 * ab (a - b)) (h4:4503599627370496 * ab a≤4503599627370496 * ab b+70 * ab b) (h5:9007199254740992 * ab (G * d - R)≤2 * R+(a * a+R)) (ht:1000 * ab t≤2001) :
  9007199254740992 * ab (t * (a+G) - (a - b))≤300 * ab (a - b):=by
 obtain ⟨D,hD⟩:∃ D,a - b = D:=⟨_,rfl⟩
 have D0:D ≠ 0:=by intro e;grind
 obtain ⟨I,hI⟩:∃ I,D * I = 1:=⟨D⁻¹,Rat.mul_inv_cancel D D0⟩
 rw [hD] at h2 h3
 have aDI:ab D * ab I = 1:=by rw [← ab_mul,hI];exact ab_pos (by decide)
 have I0:=ab_0 I
 have qI:=sq_nonneg I
 have eII:ab I * ab I = I * I:=by rw [← ab_mul];exact ab_pos qI
 -- r and α
 obtain ⟨r,hr⟩:∃ r,b * I = r:=⟨_,rfl⟩
 obtain ⟨α,hα⟩:∃ α,a * I = α:=⟨_,rfl⟩
 have har:α - r = 1:=by rw [← hα,← hr,← hI,← hD];grind
 have qa:=sq_nonneg a;have qb:=sq_nonneg b
 have hα0:0≤α:=by
  have e:α = a * D * (I * I):=by
   rw [← hα]
   have:I = D * I * I:=by rw [hI,Rat.one_mul]
   grind
  rw [e]
  refine Rat.mul_nonneg ?_ qI
  rw [← hD]
  rcases hsg with ⟨g1,g2⟩ | ⟨g1,g2⟩
  ·have:=Rat.mul_nonneg (show 0≤-a by grind) (Rat.le_of_lt g1)
   grind
  ·have:=Rat.mul_nonneg g2 (show 0≤-b by grind)
   grind
 have hr0:r≤0:=by
  have e:-r = -(b * D) * (I * I):=by
   rw [← hr]
   have:I = D * I * I:=by rw [hI,Rat.one_mul]
   grind
  have:0≤-r:=by
   rw [e]
   refine Rat.mul_nonneg ?_ qI
   rw [← hD]
   rcases hsg with ⟨g1,g2⟩ | ⟨g1,g2⟩
   ·have:=Rat.mul_nonneg (show 0≤-a by grind) (Rat.le_of_lt g1)
    grind
   ·have:=Rat.mul_nonneg g2 (show 0≤-b by grind)
    grind
  grind
 have ea:ab a * ab I = α:=by rw [← ab_mul,hα];exact ab_pos hα0
 have eb:ab b * ab I = -r:=by rw [← ab_mul,hr];unfold ab;grind
 have hα2:4503599627370496 * α≤4503599627370496 * -r+70 * -r:=by
  have:=Rat.mul_le_mul_of_nonneg_left h4 I0
  rw [← ea,← eb]
  grind
 have hr1:-1≤r:=by grind
 have hr2:100 * r≤-49:=by grind
 -- ε
 obtain ⟨ε,hε⟩:∃ ε,(d - D) * I = ε:=⟨_,rfl⟩
 have hdI:d * I = 1+ε:=by rw [← hε,← hI];grind
 have bε:9007199254740992 * ab ε≤1:=by
  rw [← hε,ab_mul,← aDI]
  have:=Rat.mul_le_mul_of_nonneg_left h2 I0
  grind
 -- ρ
 obtain ⟨ρ,hρ⟩:∃ ρ,R * (I * I) = ρ:=⟨_,rfl⟩
 have bρ:9007199254740992 * ab (ρ+1+2 * r)≤137:=by
  have e:ρ+1+2 * r = -((b * b - (a * a+R)) * (I * I)):=by
   have e1:b * b * (I * I) = r * r:=by rw [← hr];grind
   have e2:a * a * (I * I) = α * α:=by rw [← hα];grind
   have e3:-((b * b - (a * a+R)) * (I * I)) = a * a * (I * I)+R * (I * I) - b * b * (I * I):=by grind
   rw [e3,e1,e2,hρ,show α = 1+r by grind]
   grind
  rw [e,ab_neg,ab_mul,ab_pos (x:=I * I) qI]
  have l:=le_ab (b * b - (a * a+R))
  have h6:9007199254740992 * ab (b * b - (a * a+R))≤136 * (b * b):=by
   generalize ab (b * b - (a * a+R)) = z at *
   grind
  have m:=Rat.mul_le_mul_of_nonneg_left h6 qI
  have e1:I * I * (136 * (b * b)) = 136 * (r * r):=by rw [← hr];grind
  rw [e1] at m
  have rr:=Rat.mul_nonneg (show 0≤1+r by grind) (show 0≤1 - r by grind)
  have rr2:=sq_nonneg r
  grind
 have bτ:9007199254740992 * ab (t * r+1)≤4:=by
  have e:t * r+1 = (t * b+D) * I:=by rw [← hr,← hI];grind
  rw [e,ab_mul]
  have m:=Rat.mul_le_mul_of_nonneg_left h3 I0
  grind
 obtain ⟨g,hg⟩:∃ g,G * I = g:=⟨_,rfl⟩
 have bG:9007199254740992 * ab (g * (1+ε) - ρ)≤2 * ρ+3:=by
  have e:g * (1+ε) - ρ = (G * d - R) * (I * I):=by rw [← hdI,← hρ,← hg];grind
  rw [e,ab_mul,ab_pos (x:=I * I) qI,← hρ]
  have m:=Rat.mul_le_mul_of_nonneg_left h5 qI
  have e2:a * a * (I * I) = α * α:=by rw [← hα];grind
  have lρ:=le_ab (ρ+1+2 * r)
  have α1:=Rat.mul_nonneg (show 0≤1 - α by grind) (show 0≤1+α by grind)
  have e3:I * I * (2 * R+(a * a+R)) = 3 * (R * (I * I))+α * α:=by rw [← e2];grind
  rw [e3,hρ] at m
  rw [hρ]
  grind
 have ρ0:0≤ρ:=by rw [← hρ];exact Rat.mul_nonneg hR qI
 have lρ:=le_ab (ρ+1+2 * r)
 have ρ1:10 * ρ≤11:=by grind
 -- (α+g) (1+ε) = -r+small
 obtain ⟨k,hk⟩:∃ k,(α+g) * (1+ε)+r = k:=⟨_,rfl⟩
 have bk:9007199254740992 * ab k≤144:=by
  have aε:=ab_mul_le (x:=α) (y:=ε) (ab_le (by grind) (by grind))
  have l1:=le_ab (α * ε);have l2:=le_ab (g * (1+ε) - ρ)
  have e:k = (ρ+1+2 * r)+α * ε+(g * (1+ε) - ρ):=by rw [← hk,show α = 1+r by grind];grind
  rw [e]
  refine Rat.le_trans (Rat.mul_le_mul_of_nonneg_left (ab_le (y:=ab (ρ+1+2 * r)+ab (α * ε)+ab (g * (1+ε) - ρ)) (by grind) (by grind)) (by decide)) ?_
  generalize ab (ρ+1+2 * r) = z1 at *
  generalize ab (g * (1+ε) - ρ) = z2 at *
  generalize ab (α * ε) = z3 at *
  grind
 obtain ⟨θ,hθ⟩:∃ θ,t * r+1 = θ:=⟨_,rfl⟩
 rw [hθ] at bτ
 have tk:9007199254740992 * ab (t * k)≤289:=by
  rw [ab_mul]
  have m:=Rat.mul_le_mul_of_nonneg_left ht (ab_0 k)
  rw [show ab k * (1000 * ab t) = 1000 * (ab t * ab k) by grind] at m
  generalize ab t * ab k = z at *
  grind
 obtain ⟨m,hm⟩:∃ m,t * (α+g) - 1 = m:=⟨_,rfl⟩
 have lε:=le_ab ε;have lθ:=le_ab θ;have ltk:=le_ab (t * k);have lm:=le_ab m
 have e1:m+(1+m) * ε = t * k - θ:=by rw [← hm,← hk,← hθ];grind
 have mε:=ab_mul (ε) m
 have bm:9007199254740992 * ab m≤296:=by
  have q:9007199254740992 * ab (ε * m)≤ab m:=by
   rw [ab_mul]
   have:=Rat.mul_le_mul_of_nonneg_left bε (ab_0 m)
   grind
  have lq:=le_ab (ε * m)
  have e2:m = t * k - θ - ε - ε * m:=by grind
  have:=ab_le (x:=m) (y:=ab (t * k)+ab θ+ab ε+ab (ε * m)) (by grind) (by grind)
  generalize ab (ε * m) = z1 at *
  generalize ab m = z2 at *
  generalize ab (t * k) = z3 at *
  generalize ab θ = z4 at *
  generalize ab ε = z5 at *
  clear e2 e1 lm ltk lθ lε lq hm hk hθ mε
  grind
 -- back: times D
 rw [hD]
 have e3:t * (a+G) - D = m * D:=by
  rw [← hm]
  have e4:(t * (α+g) - 1) * D = t * ((a * I) * D+(G * I) * D) - D:=by rw [← hα,← hg];grind
  rw [e4,show a * I * D = a * (D * I) by grind,show G * I * D = G * (D * I) by grind,hI]
  grind
 rw [e3,ab_mul]
 have mm:=Rat.mul_le_mul_of_nonneg_left bm (ab_0 D)
 rw [show ab D * (9007199254740992 * ab m) = 9007199254740992 * (ab m * ab D) by grind] at mm
 have D1:=ab_0 D
 generalize ab m * ab D = z at *
 grind
end Go.Proofs.YtnnfjeieennffaaGreatDoor
