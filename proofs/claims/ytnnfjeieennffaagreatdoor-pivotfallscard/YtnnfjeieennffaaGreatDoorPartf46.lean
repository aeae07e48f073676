/- Part 46 of the texts. -/
import Derived.Test.YtnnfjeieennffaaGreatDoorPartf33
import Derived.Test.YtnnfjeieennffaaGreatDoorPartf45
import Derived.Test.YtnnfjeieennffaaGreatDoorPartf32
namespace Go.Proofs.YtnnfjeieennffaaGreatDoor
open Go.RowKit
theorem div_finB (a b:Nat) (ha:a < 18446744073709551616) (hb:b < 18446744073709551616) (fa:fFin a = true) (fb:fFin b = true) (a0:fK a ≠ 0) (b0:fK b ≠ 0) (h:ab (fQ a)≤p2 1000 * ab (fQ b)):fFin (dV a b) = true:=by
 obtain ⟨q1,q2⟩:=quo_near a b ha hb fa fb a0 b0
 have hb1:=eX_top b hb fb b0
 have hbp:=p2_pos (eX b)
 have hlt:xE (qS a b) (fX a - fX b - 181) < p2 1023:=by
  have hB:16 * p2 1000≤p2 1023∧0 < p2 1000:=by
   have h1:=p2_mono (show (1000+1+1+1+1:Int)≤1023 by decide)
   simp only [p2_succ] at h1
   exact ⟨by grind,p2_pos _⟩
  generalize xE (qS a b) (fX a - fX b - 181) = X at *
  rcases Rat.le_total (a:=X) (b:=2 * p2 1000) with g | g
  ·grind
  ·exfalso
   have B0:0 < ab (fQ b):=by grind
   have hm:=Rat.mul_le_mul_of_nonneg_left g (Rat.le_of_lt B0)
   have hp:=Rat.mul_pos hB.2 B0
   have hc:ab (fQ b) * X = X * ab (fQ b):=Rat.mul_comm _ _
   have hc2:ab (fQ b) * (2 * p2 1000) = 2 * (p2 1000 * ab (fQ b)):=by grind
   rw [hc,hc2] at hm
   generalize X * ab (fQ b) = XB at *
   generalize p2 1000 * ab (fQ b) = PB at *
   generalize ab (fQ a) = A at *
   clear hb1 q2
   grind
 have:=rnd_finite _ _ hlt
 have hle:qV a b≤9218868437227405312:=rnd_le _ _
 exact (fK_rungs _).2.2.2 (by rw [(dV_fin a b fa fb a0 b0).1,fR_wrd _ _ (by omega)];exact this)
theorem div_errB (a b:Nat) (ha:a < 18446744073709551616) (hb:b < 18446744073709551616) (fa:fFin a = true) (fb:fFin b = true) (b0:fK b ≠ 0) (h:ab (fQ a)≤p2 1000 * ab (fQ b)) :
  fFin (dV a b) = true∧9007199254740992 * ab (fQ (dV a b) * fQ b - fQ a)≤2 * ab (fQ a)+9007199254740992 * (p2 (-1075) * ab (fQ b)):=by
 have z0:=Rat.mul_nonneg (Rat.le_of_lt (p2_pos (-1075))) (ab_0 (fQ b))
 have h0:=ab_0 (fQ a)
 by_cases a0:fK a = 0
 ·have q:=fQ_nought a a0
  obtain ⟨b3,b4⟩:=fin_kind fb
  have e:dV a b = wrd (fS a ^^ fS b) 0:=by
   unfold dV
   rw [if_neg (by rintro (k | k);omega;exact b4 k),if_neg (by rintro ⟨k,_⟩;omega),if_neg (by omega),if_pos (.inr a0)]
  have e2:fFin (dV a b) = true∧fQ (dV a b) = 0:=by
   rw [e]
   cases fS a ^^ fS b
   ·rw [wrd_false];exact ⟨by decide,fQ_0⟩
   ·rw [wrd_true];exact ⟨by decide,fQ_nought _ (by decide)⟩
  refine ⟨e2.1,?_⟩
  rw [e2.2,q,show (0:Rat) * fQ b - 0 = 0 by grind,show ab (0:Rat) = 0 by unfold ab;grind]
  grind
 ·have hf:=div_finB a b ha hb fa fb a0 b0 h
  refine ⟨hf,?_⟩
  have h1:=ab_0 (fQ (dV a b) * fQ b - fQ a)
  rcases div_err a b ha hb fa fb a0 b0 hf with e | e
  ·grind
  ·have:=e.2
   generalize p2 (-1075) * ab (fQ b) = z at *
   grind
end Go.Proofs.YtnnfjeieennffaaGreatDoor
namespace Go.Proofs.YtnnfjeieennffaaGreatDoor
open Go.RowKit
theorem top_partsA (K:Int) (xs:List Nat) (hl:xs.length≤64) (h:TopV K xs) (h0:bgF 0 xs ≠ 0) (hk:eX (bgF 0 xs)≤900) :
  ∃ s,ssV (eX (bgF 0 xs)) 0 xs = s∧nrV xs = xV (sV s) (eX (bgF 0 xs))∧fFin s = true∧fS s = false∧fK s ≠ 0∧1≤sqQ (eX (bgF 0 xs)) xs∧sqQ (eX (bgF 0 xs)) xs≤256∧fFin (nrV xs) = true ∧
  (fQ (nrV xs) = fQ (sV s) * p2 (eX (bgF 0 xs)) ∨ 2 * ab (fQ (nrV xs) - fQ (sV s) * p2 (eX (bgF 0 xs)))≤p2 (-1074)):=by
 obtain ⟨k,ek⟩:∃ k,eX (bgF 0 xs) = k:=⟨_,rfl⟩
 obtain ⟨s,es⟩:∃ s,ssV k 0 xs = s:=⟨_,rfl⟩
 obtain ⟨b1,b2,b3,b4,b5,b6,b7,b8,y,hy,b9,b10⟩:=top_big K xs h h0
 rw [ek] at b8 b10 hk ⊢
 have hn:nrV xs = xV (sV s) k:=by
  unfold nrV
  rw [if_neg (by rw [b2];simp [h0]),ek,es]
 have T1:1≤sqQ k xs:=by have:=sqQ_mem k xs y hy;grind
 have hl2:(xs.length:Rat)≤64:=Rat.natCast_le_natCast.2 hl
 have T2:sqQ k xs≤256:=by have:=sqQ_le k xs b8;grind
 have hlG:=Rat.mul_nonneg (show 0≤64 - (xs.length:Rat) by grind) (show 0≤sqQ k xs by grind)
 have z0:fQ 0 = 0:=fQ_nought 0 (by decide)
 obtain ⟨e1,e2,e3⟩:=ss_err k (sqQ k xs) T1 T2 xs 0 0 0 (fun x hx=>⟨(h.1 x hx).1,(h.1 x hx).2,b8 x hx⟩) (by decide) (by decide) (by grind) (by grind) (by rw [z0];unfold ab;grind)
 rw [es] at e1 e2 e3
 have e4:9007199254740992 * ab (fQ s - sqQ k xs)≤130 * sqQ k xs:=by
  have:(0:Rat)+sqQ k xs = sqQ k xs:=Rat.zero_add _
  rw [this] at e3
  grind
 have l:=le_ab (fQ s - sqQ k xs)
 have s1:1≤2 * fQ s:=by grind
 have k0:fK s ≠ 0:=fun e=>by
  have:=fQ_nought s e
  grind
 obtain ⟨r1,r2,r3,r4,r5,r6,r7⟩:=sqrt_err s e1 k0 e2
 have r8:1≤2 * fQ (sV s):=by
  rcases Rat.le_total (a:=1) (b:=2 * fQ (sV s)) with g | g
  ·exact g
  ·have:=Rat.mul_nonneg (show 0≤1 - 2 * fQ (sV s) by grind) (show 0≤1+2 * fQ (sV s) by grind)
   grind
 have r9:fQ (sV s)≤17:=by
  rcases Rat.le_total (a:=fQ (sV s)) (b:=17) with g | g
  ·exact g
  ·have:=Rat.mul_nonneg (show 0≤fQ (sV s) - 17 by grind) (show 0≤fQ (sV s)+17 by grind)
   grind
 have hpk:=p2_pos k
 have x1:ab (fQ (sV s)) * p2 k < p2 1023:=by
  rw [ab_pos r5]
  have m1:=Rat.mul_le_mul_of_nonneg_left r9 (Rat.le_of_lt hpk)
  have m2:=p2_mono (show k+1+1+1+1+1≤1023 by omega)
  simp only [p2_succ] at m2
  grind
 have hf:=scale_fin (sV s) k r3 r1 x1
 refine ⟨s,es,hn,e1,e2,k0,T1,T2,by rw [hn];exact hf,?_⟩
 rw [hn]
 rcases scale_err (sV s) k r3 r1 hf with e | ⟨_,_,e⟩
 ·exact .inl e
 ·exact .inr e
theorem norm_geA (K:Int) (xs:List Nat) (hl:xs.length≤64) (h:TopV K xs) (h0:bgF 0 xs ≠ 0) (hk:eX (bgF 0 xs)≤900):1125899906842624 * (fQ (bgF 0 xs) - fQ (nrV xs))≤3 * fQ (bgF 0 xs):=by
 obtain ⟨s,es,hn,n2,n3,n4,n5,T2,hf,hsc⟩:=top_partsA K xs hl h h0 hk
 obtain ⟨b1,b2,b3,b4,b5,b6,b7,b8,y,hy,b9,b10⟩:=top_big K xs h h0
 obtain ⟨r1,r2,r3,r4,r5,r6,r7⟩:=sqrt_err _ n2 n4 n3
 clear hn
 have hl2:(xs.length:Rat)≤64:=Rat.natCast_le_natCast.2 hl
 have hlG:=Rat.mul_nonneg (show 0≤64 - (xs.length:Rat) by grind) (show 0≤sqQ (eX (bgF 0 xs)) xs by grind)
 have z0:fQ 0 = 0:=fQ_nought 0 (by decide)
 obtain ⟨g1,g2⟩:=ss_ge (eX (bgF 0 xs)) _ n5 T2 xs 0 0 0 (fun x hx=>⟨(h.1 x hx).1,(h.1 x hx).2,b8 x hx⟩) (by decide) (by decide) (by decide) (by grind) (by grind) (by rw [z0];unfold ab;grind)
 have g3:=g2 y hy
 obtain ⟨p1,p2',p3⟩:=sq_one _ y (h.1 y hy).1 (h.1 y hy).2 (b8 y hy)
 obtain ⟨t1,t2,t3⟩:=eta_small
 have hp:=p2_pos (eX (bgF 0 xs))
 have hpp:=p2_neg (eX (bgF 0 xs))
 have eB:fQ (bgF 0 xs) = ab (dQ (eX (bgF 0 xs)) y) * p2 (eX (bgF 0 xs)):=by
  unfold dQ
  rw [ab_mul,ab_pos (Rat.le_of_lt (p2_pos _)),b9,Rat.mul_assoc,hpp,Rat.mul_one]
 have eD:dQ (eX (bgF 0 xs)) y * dQ (eX (bgF 0 xs)) y = ab (dQ (eX (bgF 0 xs)) y) * ab (dQ (eX (bgF 0 xs)) y):=by
  rw [← ab_mul];exact (ab_pos (sq_nonneg _)).symm
 have m0:=ab_0 (dQ (eX (bgF 0 xs)) y)
 have l:=le_ab (fQ (mV (xV y (-eX (bgF 0 xs))) (xV y (-eX (bgF 0 xs)))) - dQ (eX (bgF 0 xs)) y * dQ (eX (bgF 0 xs)) y)
 rw [eD] at p3 l b10
 generalize fQ (mV (xV y (-eX (bgF 0 xs))) (xV y (-eX (bgF 0 xs)))) = P at *
 rw [es] at g3
 generalize fQ s = S at *
 generalize fQ (sV s) = R at *
 generalize ab (dQ (eX (bgF 0 xs)) y) = d at *
 clear g1 g2 b7 b8
 generalize p2 (-1075) = η at *
 -- R^2 is at least d^2 but for five parts in 2^53
 have e1:9007199254740992 * (d * d)≤9007199254740992 * (R * R)+6 * (d * d):=by
  generalize ab (P - d * d) = A at *
  generalize d * d = D at *
  generalize R * R = RR at *
  grind
 have e2:1125899906842624 * (d - R)≤d:=by
  rcases Rat.le_total (a:=1125899906842624 * (d - R)) (b:=d) with g | g
  ·exact g
  ·have c1:=Rat.mul_nonneg (show 0≤1125899906842624 * (d - R) - d by grind) m0
   have c2:=Rat.mul_nonneg (show 0≤1125899906842624 * (d - R) - d by grind) r5
   grind
 have e3:=Rat.mul_le_mul_of_nonneg_left e2 (Rat.le_of_lt hp)
 have e4:1125899906842624 * (fQ (bgF 0 xs) - R * p2 (eX (bgF 0 xs)))≤fQ (bgF 0 xs):=by rw [eB];grind
 have B0:=fQ_pos _ b4
 rcases hsc with e | e
 ·rw [e]
  grind
 ·have q:=p2_pos (-1074)
  have l2:=le_ab (fQ (nrV xs) - R * p2 (eX (bgF 0 xs)))
  have e5:1125899906842624 * (fQ (bgF 0 xs) - fQ (nrV xs))≤fQ (bgF 0 xs)+562949953421312 * p2 (-1074):=by grind
  clear e4 e3 e l2
  unfold fQ at e5 B0 ⊢
  generalize fZ (bgF 0 xs) = M at *
  generalize fZ (nrV xs) = N at *
  have k1:1125899906842624 * ((M:Rat) - (N:Rat))≤(M:Rat)+562949953421312:=by
   refine Rat.le_of_mul_le_mul_right (c:=p2 (-1074)) ?_ q
   grind
  have k2:(((1125899906842624 * (M - N):Int)):Rat)≤((M+562949953421312:Int):Rat):=by
   rw [Rat.intCast_mul,Rat.intCast_sub,Rat.intCast_add]
   exact k1
  have k3:=Rat.intCast_le_intCast.1 k2
  have M0:0≤M:=by
   rcases Int.lt_or_le M 0 with g | g
   ·exfalso
    have k:((M:Int):Rat) < 0:=Rat.intCast_lt_intCast.2 g
    have:=Rat.mul_pos (show 0 < -((M:Int):Rat) by grind) q
    grind
   ·exact g
  have k4:1125899906842624 * (M - N)≤3 * M:=by
   rcases Int.lt_or_le 281474976710656 M with g | g
   ·omega
   ·have:M - N≤0:=by omega
    omega
  have k5:(((1125899906842624 * (M - N):Int)):Rat)≤((3 * M:Int):Rat):=Rat.intCast_le_intCast.2 k4
  rw [Rat.intCast_mul,Rat.intCast_sub,Rat.intCast_mul] at k5
  have k6:1125899906842624 * ((M:Rat) - (N:Rat))≤3 * (M:Rat):=k5
  have m:=Rat.mul_le_mul_of_nonneg_right k6 (Rat.le_of_lt q)
  grind
end Go.Proofs.YtnnfjeieennffaaGreatDoor
namespace Go.Proofs.YtnnfjeieennffaaGreatDoor
open Go.RowKit
theorem div_size (x d:Nat) (r:Rat) (hx:x < 18446744073709551616) (hd:d < 18446744073709551616) (fx:fFin x = true) (fd:fFin d = true) (d0:0 < ab (fQ d)) (hr:1≤r) (hr2:r≤100) (h:ab (fQ x)≤r * ab (fQ d)) :
  fFin (dV x d) = true∧100000 * ab (fQ (dV x d))≤100001 * r:=by
 have kd:fK d ≠ 0:=fun e=>by
  rw [fQ_nought d e] at d0
  unfold ab at d0
  grind
 have big:(100:Rat)≤p2 1000:=by
  have h1:=p2_mono (show (7:Int)≤1000 by decide)
  have h2:p2 7 = 128:=by rw [show (7:Int) = ((7:Nat):Int) by rfl,p2_nat];rfl
  grind
 have m0:=Rat.mul_nonneg (show 0≤p2 1000 - r by grind) (Rat.le_of_lt d0)
 obtain ⟨g1,g2⟩:=div_errB x d hx hd fx fd kd (by grind)
 refine ⟨g1,?_⟩
 obtain ⟨q1,q2,q3⟩:=eta_small
 have l1:=le_ab (fQ (dV x d) * fQ d - fQ x);have l2:=le_ab (fQ x)
 have t:=ab_le (x:=fQ (dV x d) * fQ d) (y:=ab (fQ (dV x d) * fQ d - fQ x)+ab (fQ x)) (by grind) (by grind)
 rw [ab_mul] at t
 have e1:=Rat.mul_le_mul_of_nonneg_left q1 (Rat.le_of_lt d0)
 have e2:ab (fQ d) * (1267650600228229401496703205376 * p2 (-1075)) = 1267650600228229401496703205376 * (p2 (-1075) * ab (fQ d)):=by grind
 rw [e2] at e1
 rcases Rat.le_total (a:=100000 * ab (fQ (dV x d))) (b:=100001 * r) with g | g
 ·exact g
 ·exfalso
  have m:=Rat.mul_le_mul_of_nonneg_left g (Rat.le_of_lt d0)
  have e3:ab (fQ d) * (100001 * r) = 100001 * (r * ab (fQ d)):=by grind
  have e4:ab (fQ d) * (100000 * ab (fQ (dV x d))) = 100000 * (ab (fQ (dV x d)) * ab (fQ d)):=by grind
  rw [e3,e4] at m
  have rd:=Rat.mul_nonneg (show 0≤r - 1 by grind) (Rat.le_of_lt d0)
  have e5:(r - 1) * ab (fQ d) = r * ab (fQ d) - ab (fQ d):=by grind
  rw [e5] at rd
  clear l1 l2 e2 e3 e4 e5 m0 g hr hr2 big
  generalize ab (fQ (dV x d)) * ab (fQ d) = z1 at *
  generalize p2 (-1075) * ab (fQ d) = z2 at *
  generalize r * ab (fQ d) = z3 at *
  generalize ab (fQ (dV x d) * fQ d - fQ x) = z4 at *
  grind
end Go.Proofs.YtnnfjeieennffaaGreatDoor
namespace Go.Proofs.YtnnfjeieennffaaGreatDoor
open Go.RowKit
theorem less_size (c Y:Rat) (hc:100 * ab c≤201 * Y):∀ (vs ys us:List Nat),lessQ c (46 * Y) vs ys us→(∀ v ∈ vs,1000 * ab (fQ v)≤1001)→(∀ y ∈ ys,ab (fQ y)≤Y)→0≤Y→∀ u ∈ us,fFin u = true∧ab (fQ u)≤4 * Y:=by
 intro vs
 induction vs with
 | nil =>
  intro ys us h _ _ _ u hu
  cases ys with
  | cons y ys=>exact absurd h (by unfold lessQ;exact id)
  | nil =>
   cases us with
   | nil=>cases hu
   | cons w us=>exact absurd h (by unfold lessQ;exact id)
 | cons v vs ih =>
  intro ys us h hv hy Y0 u hu
  cases ys with
  | nil=>exact absurd h (by unfold lessQ;exact id)
  | cons y ys =>
   cases us with
   | nil=>cases hu
   | cons w us =>
    unfold lessQ at h
    rcases List.mem_cons.1 hu with rfl | hu
    ·refine ⟨h.1.1,?_⟩
     have e:=h.1.2
     have hv1:=hv v List.mem_cons_self
     have hy1:=hy y List.mem_cons_self
     have l1:=le_ab (fQ u - (fQ y - c * fQ v));have l2:=le_ab (fQ y);have l3:=le_ab (c * fQ v)
     have t:=ab_le (x:=fQ u) (y:=ab (fQ u - (fQ y - c * fQ v))+ab (fQ y)+ab (c * fQ v)) (by grind) (by grind)
     have m:=Rat.mul_le_mul_of_nonneg_left hv1 (ab_0 c)
     have e2:ab c * (1000 * ab (fQ v)) = 1000 * ab (c * fQ v):=by rw [ab_mul];grind
     rw [e2] at m
     generalize ab (fQ u - (fQ y - c * fQ v)) = z1 at *
     generalize ab (c * fQ v) = z2 at *
     clear l1 l2 l3
     grind
    ·exact ih ys us h.2 (fun x hx=>hv x (List.mem_cons_of_mem _ hx)) (fun x hx=>hy x (List.mem_cons_of_mem _ hx)) Y0 u hu
theorem s1_max (Z:Rat):∀ (ys:List Nat),(∀ y ∈ ys,ab (fQ y)≤Z)→s1Q ys≤(ys.length:Rat) * Z:=by
 intro ys
 induction ys with
 | nil =>
  intro _
  have e1:s1Q [] = 0:=rfl
  have e2:(([]:List Nat).length:Rat) = 0:=rfl
  rw [e1,e2]
  grind
 | cons y ys ih =>
  intro h
  have i:=ih (fun z hz=>h z (List.mem_cons_of_mem _ hz))
  have h1:=h y List.mem_cons_self
  have e1:s1Q (y :: ys) = ab (fQ y)+s1Q ys:=rfl
  have e2:((y :: ys).length:Rat) = (ys.length:Rat)+1:=by rw [List.length_cons,Rat.natCast_add];rfl
  rw [e1,e2,Rat.add_mul,Rat.one_mul]
  grind
theorem col_crude (tau:Nat) (Z:Rat) (vs ys:List Nat) (hl:vs.length≤6) (hlen:vs.length = ys.length) (ft:fFin tau = true) (ht:1000 * ab (fQ tau)≤2001) (hv:∀ v ∈ vs,fFin v = true∧1000 * ab (fQ v)≤1001) (hy:∀ y ∈ ys,fFin y = true∧ab (fQ y)≤Z)
  (hZ:6 * Z≤p2 900) (hη:1267650600228229401496703205376 * p2 (-1075)≤Z):∀ u ∈ apV (mV tau (dtV 0 vs ys)) vs ys,fFin u = true∧ab (fQ u)≤24 * Z:=by
 have hp:=p2_pos (-1075)
 have Z0:0≤Z:=by grind
 have s:=s1_max Z ys (fun y h=>(hy y h).2)
 have hl2:(ys.length:Rat)≤6:=Rat.natCast_le_natCast.2 (by omega:ys.length≤6)
 have m:=Rat.mul_nonneg (show 0≤6 - (ys.length:Rat) by grind) Z0
 have hY:s1Q ys≤6 * Z:=by grind
 obtain ⟨f1,c1,_,_⟩:=tau_dotY tau (6 * Z) vs ys hl ft ht hv (fun y h=>(hy y h).1) hY hZ (by grind)
 have hls:=col_lessY tau (6 * Z) vs ys hl hlen ft ht hv (fun y h=>(hy y h).1) hY hZ (by grind)
 intro u hu
 obtain ⟨u1,u2⟩:=less_size _ (6 * Z) c1 vs ys _ hls (fun v h=>(hv v h).2) (fun y h=>by have:=(hy y h).2;grind) (by grind) u hu
 exact ⟨u1,by grind⟩
end Go.Proofs.YtnnfjeieennffaaGreatDoor
namespace Go.Proofs.YtnnfjeieennffaaGreatDoor
open Go.RowKit
theorem top_sizeW (xs:List Nat) (hl:xs.length≤64) (h:TopV 300 xs) (h0:bgF 0 xs ≠ 0) :
  0 < fQ (nrV xs)∧fFin (nrV xs) = true∧fS (nrV xs) = false∧9007199254740992 * ab (fQ (nrV xs) * fQ (nrV xs) - sumQ xs)≤135 * sumQ xs∧fQ (nrV xs)≤p2 304∧p2 (-301)≤fQ (nrV xs)∧(∀ x ∈ xs,1000000 * ab (fQ x)≤1000001 * fQ (nrV xs)):=by
 obtain ⟨n1,n2,n3,n4⟩:=top_right2 300 (by decide) xs hl h h0
 obtain ⟨b1,b2,b3,b4,b5,b6,b7,b8,y,hy,b9,b10⟩:=top_big 300 xs h h0
 have hl2:(xs.length:Rat)≤64:=Rat.natCast_le_natCast.2 hl
 have P0:=p2_pos 300
 have hM:=eX_top _ (by omega) b2 b3
 rw [ab_pos (fQ_pos _ b4)] at hM
 have hM2:=p2_mono (show eX (bgF 0 xs)+1≤300 by omega)
 have hM3:=p2_mono (show -300≤eX (bgF 0 xs) by omega)
 have hS:sumQ xs≤64 * (p2 300 * p2 300):=by
  have h1:=sum_len (p2 300) xs (fun x hx=>by have:=b7 x hx;grind)
  have:=Rat.mul_nonneg (show 0≤64 - (xs.length:Rat) by grind) (sq_nonneg (p2 300))
  grind
 have hy2:=sum_mem xs y hy
 have hy3:p2 (-300)≤ab (fQ y):=by rw [b9];grind
 have Q0:=p2_pos (-300)
 have qy:=sq_nonneg (fQ y)
 have ey:ab (fQ y) * ab (fQ y) = fQ y * fQ y:=by rw [← ab_mul];exact ab_pos qy
 have hL:p2 (-300) * p2 (-300)≤sumQ xs:=by
  have m:=Rat.mul_nonneg (show 0≤ab (fQ y) - p2 (-300) by grind) (show 0≤ab (fQ y)+p2 (-300) by grind)
  grind
 have l:=le_ab (fQ (nrV xs) * fQ (nrV xs) - sumQ xs)
 have e204:p2 304 = 16 * p2 300:=by rw [show (304:Int) = 300+1+1+1+1 by rfl];simp only [p2_succ];grind
 have e201:p2 (-300) = 2 * p2 (-301):=by rw [show (-300:Int) = -301+1 by rfl,p2_succ]
 have s0:=sumQ_nonneg xs
 refine ⟨n3,n1,n2,n4,?_,?_,fun x hx=>?_⟩
 ·refine le_of_sq (Rat.le_of_lt (p2_pos _)) ?_
  rw [e204]
  generalize fQ (nrV xs) * fQ (nrV xs) = MM at *
  have:16 * p2 300 * (16 * p2 300) = 256 * (p2 300 * p2 300):=by grind
  rw [this]
  generalize p2 300 * p2 300 = PP at *
  grind
 ·refine le_of_sq (Rat.le_of_lt n3) ?_
  have:p2 (-300) * p2 (-300) = 4 * (p2 (-301) * p2 (-301)):=by rw [e201];grind
  rw [this] at hL
  have hpp:=Rat.mul_pos (p2_pos (-301)) (p2_pos (-301))
  generalize fQ (nrV xs) * fQ (nrV xs) = MM at *
  generalize p2 (-301) * p2 (-301) = PP at *
  grind
 ·have hx2:=sum_mem xs x hx
  have qx:=sq_nonneg (fQ x)
  have ex:ab (fQ x) * ab (fQ x) = fQ x * fQ x:=by rw [← ab_mul];exact ab_pos qx
  refine le_of_sq (by grind) ?_
  rw [show 1000000 * ab (fQ x) * (1000000 * ab (fQ x)) = 1000000000000 * (ab (fQ x) * ab (fQ x)) by grind,ex,show 1000001 * fQ (nrV xs) * (1000001 * fQ (nrV xs)) = 1000002000001 * (fQ (nrV xs) * fQ (nrV xs)) by grind]
  generalize fQ (nrV xs) * fQ (nrV xs) = MM at *
  generalize fQ x * fQ x = XX at *
  grind
theorem house_makeMW (a b:Nat) (xs:List Nat) (hl:(a :: xs).length≤64) (h:TopV 300 (a :: xs)) (h0:bgF 0 (a :: xs) ≠ 0) (hb:b < 18446744073709551616) (fb:fFin b = true) (b0:fK b ≠ 0)
  (hs:(fQ b = fQ (nrV (a :: xs))∧fQ a≤0) ∨ (fQ b = -fQ (nrV (a :: xs))∧0≤fQ a)) :
  let d:=aV a (fN b);let t:=dV (aV b (fN a)) b;let vs:=xs.map (fun x=>dV x d)
  fFin d = true∧fFin t = true∧(∀ v ∈ vs,fFin v = true)∧quosM (fQ d) (18014398509481984 * (p2 (-1075) * ab (fQ d))) vs xs∧9007199254740992 * ab (fQ d - (fQ a - fQ b))≤ab (fQ a - fQ b) ∧
  ab (fQ a - fQ b) = ab (fQ a)+ab (fQ b)∧ab (fQ b) = fQ (nrV (a :: xs))∧9007199254740992 * ab (fQ t * fQ b+(fQ a - fQ b))≤4 * ab (fQ a - fQ b)∧4503599627370496 * ab (fQ a)≤4503599627370496 * ab (fQ b)+70 * ab (fQ b):=by
 intro d t vs
 obtain ⟨n1,n2,n3,n4,n5,n6,n7⟩:=top_sizeW (a :: xs) hl h h0
 obtain ⟨a1,a2⟩:=h.1 a List.mem_cons_self
 have hM:ab (fQ b) = fQ (nrV (a :: xs)):=by
  rcases hs with ⟨e,_⟩ | ⟨e,_⟩
  ·rw [e];exact ab_pos (Rat.le_of_lt n1)
  ·rw [e,ab_neg];exact ab_pos (Rat.le_of_lt n1)
 have hS:ab (fQ a - fQ b) = ab (fQ a)+ab (fQ b):=by
  rw [hM]
  rcases hs with ⟨e,g⟩ | ⟨e,g⟩
  ·rw [e];unfold ab;grind
  ·rw [e];unfold ab;grind
 have fa':fFin (fN a) = true:=by rw [fFin_fN a a1];exact a2
 have fb':fFin (fN b) = true:=by rw [fFin_fN b hb];exact fb
 have qa:=fQ_fN a a1;have qb:=fQ_fN b hb
 have A0:=ab_0 (fQ a)
 have hA:=n7 a List.mem_cons_self
 have P4:=p2_pos 304
 have big:8 * p2 304≤p2 1023∧4 * p2 304≤p2 310:=by
  have h1:=p2_mono (show (304+1+1+1:Int)≤1023 by decide)
  have h2:=p2_mono (show (304+1+1:Int)≤310 by decide)
  simp only [p2_succ] at h1 h2
  exact ⟨by grind,by grind⟩
 -- the difference and the other one
 have fd:fFin d = true:=add_fin a (fN b) a2 fb' (by rw [qb,show fQ a+-fQ b = fQ a - fQ b by grind,hS,hM];grind)
 have ed:=add_err a (fN b) a2 fb' fd
 rw [qb,show fQ a+-fQ b = fQ a - fQ b by grind] at ed
 have fg:fFin (aV b (fN a)) = true:=add_fin b (fN a) fb fa' (by rw [qa,show fQ b+-fQ a = -(fQ a - fQ b) by grind,ab_neg,hS,hM];grind)
 have eg:=add_err b (fN a) fb fa' fg
 rw [qa,show fQ b+-fQ a = fQ b - fQ a by grind] at eg
 have kD:ab (fQ b - fQ a) = ab (fQ a - fQ b):=ab_sub _ _
 have ld:=le_ab (fQ d - (fQ a - fQ b));have lD:=le_ab (fQ a - fQ b)
 have ed2:9007199254740992 * ab (fQ d - (fQ a - fQ b))≤ab (fQ a - fQ b):=ed
 have dd:=ab_le (x:=fQ d) (y:=ab (fQ d - (fQ a - fQ b))+ab (fQ a - fQ b)) (by grind) (by grind)
 have dd2:=ab_le (x:=fQ a - fQ b) (y:=ab (fQ d - (fQ a - fQ b))+ab (fQ d)) (by have:=le_ab (fQ d);grind) (by have:=le_ab (fQ d);grind)
 have dlo:fQ (nrV (a :: xs))≤2 * ab (fQ d):=by rw [hS,hM] at *;grind
 have dhi:ab (fQ d)≤p2 310:=by rw [hS,hM] at *;grind
 have k0:fK d ≠ 0:=fun e=>by
  have:=fQ_nought d e
  rw [this] at dlo
  unfold ab at dlo
  grind
 have dl:d < 18446744073709551616:=aV_lt a (fN b) a1 (fN_lt b hb)
 obtain ⟨q1,q2⟩:=quosM_of d dl fd k0 xs (fun x hx=>by
  obtain ⟨x1,x2⟩:=h.1 x (List.mem_cons_of_mem _ hx)
  have x4:=n7 x (List.mem_cons_of_mem _ hx)
  refine ⟨x1,x2,by grind⟩)
 -- tau
 have gl:aV b (fN a) < 18446744073709551616:=aV_lt b (fN a) hb (fN_lt a a1)
 have lg:=le_ab (fQ (aV b (fN a)) - (fQ b - fQ a));have lG:=le_ab (fQ b - fQ a)
 have gg:=ab_le (x:=fQ (aV b (fN a))) (y:=ab (fQ (aV b (fN a)) - (fQ b - fQ a))+ab (fQ b - fQ a)) (by grind) (by grind)
 have gg2:=ab_le (x:=fQ a - fQ b) (y:=ab (fQ (aV b (fN a)) - (fQ b - fQ a))+ab (fQ (aV b (fN a)))) (by have:=le_ab (fQ (aV b (fN a)));grind) (by have:=le_ab (fQ (aV b (fN a)));grind)
 have eg2:=eg
 rw [kD,hS,hM] at eg2
 rw [kD,hS,hM] at gg
 rw [hS,hM] at gg2
 have glo:fQ (nrV (a :: xs))≤2 * ab (fQ (aV b (fN a))):=by
  generalize ab (fQ (aV b (fN a)) - (fQ b - fQ a)) = z at *
  grind
 have ghi:ab (fQ (aV b (fN a)))≤4 * fQ (nrV (a :: xs)):=by
  generalize ab (fQ (aV b (fN a)) - (fQ b - fQ a)) = z at *
  grind
 have g0:fK (aV b (fN a)) ≠ 0:=fun e=>by
  have:=fQ_nought _ e
  rw [this] at glo
  unfold ab at glo
  grind
 have hη0:=p2_pos (-1075)
 obtain ⟨n8,_,_⟩:=eta_small
 obtain ⟨t1,t2⟩:=div_err2 (aV b (fN a)) b gl hb fg fb g0 b0 (by rw [hM];grind) (by
  rw [hM]
  have hsm:1267650600228229401496703205376 * (4 * p2 (-1075))≤2:=by
   have e1:=p2_mono (show (102+-1075:Int)≤1 by decide)
   rw [p2_add,show (102:Int) = ((102:Nat):Int) by rfl,p2_nat,p2_1] at e1
   have:((2 ^ 102:Nat):Rat) = 5070602400912917605986812821504:=rfl
   rw [this] at e1
   grind
  have:=Rat.mul_le_mul_of_nonneg_left hsm (Rat.le_of_lt n1)
  grind)
 have es:sumQ (a :: xs) = fQ a * fQ a+sumQ xs:=rfl
 rw [es] at n4
 have n4':9007199254740992 * ab (fQ b * fQ b - (fQ a * fQ a+sumQ xs))≤135 * (fQ a * fQ a+sumQ xs):=by
  have:fQ b * fQ b = fQ (nrV (a :: xs)) * fQ (nrV (a :: xs)):=by
   rcases hs with ⟨e,_⟩ | ⟨e,_⟩ <;> rw [e] <;> grind
  rw [this];exact n4
 obtain ⟨m1,m2⟩:=mirror_alg (fQ a) (fQ b) (sumQ xs) (fQ t) (fQ (aV b (fN a))) (sumQ_nonneg xs) (by rw [hM];exact n1) hS n4' eg t2
 exact ⟨fd,t1,q2,q1,ed2,hS,hM,m1,m2⟩
theorem house_factsMW (a b d t:Nat) (xs vs:List Nat) (hl:(a :: xs).length≤64) (h:TopV 300 (a :: xs)) (h0:bgF 0 (a :: xs) ≠ 0) (hb:b < 18446744073709551616) (fb:fFin b = true) (b0:fK b ≠ 0)
  (hs:(fQ b = fQ (nrV (a :: xs))∧fQ a≤0) ∨ (fQ b = -fQ (nrV (a :: xs))∧0≤fQ a)) (hd:d = aV a (fN b)) (ht:t = dV (aV b (fN a)) b) (hv:vs = xs.map (fun x=>dV x d)) :
  fFin t = true∧1000 * ab (fQ t)≤2001∧9007199254740992 * fQ t≤18014398509481984+200∧9007199254740992≤9007199254740992 * fQ t+5 ∧
  (∀ v ∈ 4607182418800017408 :: vs,fFin v = true∧1000 * ab (fQ v)≤1001)∧8796093022208 * ab (fQ t * sumQ (4607182418800017408 :: vs) - 2)≤1 ∧
  quosM (fQ d) (18014398509481984 * (p2 (-1075) * ab (fQ d))) vs xs∧9007199254740992 * ab (fQ d - (fQ a - fQ b))≤ab (fQ a - fQ b)∧ab (fQ a - fQ b) = ab (fQ a)+ab (fQ b)∧ab (fQ b) = fQ (nrV (a :: xs)) ∧
  9007199254740992 * ab (fQ t * (fQ a+dtQ vs xs) - (fQ a - fQ b))≤300 * ab (fQ a - fQ b):=by
 obtain ⟨m1,m2,m3,m4,m5,m6,m7,m8,m9⟩:=house_makeMW a b xs hl h h0 hb fb b0 hs
 rw [← hd] at m1 m3 m4 m5
 rw [← ht] at m2 m8
 rw [← hv] at m3 m4
 obtain ⟨n1,n2,n3,n4,n5,n6,n7⟩:=top_sizeW (a :: xs) hl h h0
 have es:sumQ (a :: xs) = fQ a * fQ a+sumQ xs:=rfl
 rw [es] at n4
 have n4':9007199254740992 * ab (fQ b * fQ b - (fQ a * fQ a+sumQ xs))≤135 * (fQ a * fQ a+sumQ xs):=by
  have:fQ b * fQ b = fQ (nrV (a :: xs)) * fQ (nrV (a :: xs)):=by
   rcases hs with ⟨e,_⟩ | ⟨e,_⟩ <;> rw [e] <;> grind
  rw [this];exact n4
 have hsg:(0 < fQ b∧fQ a≤0) ∨ (fQ b < 0∧0≤fQ a):=by
  rcases hs with ⟨e,g⟩ | ⟨e,g⟩
  ·exact .inl ⟨by rw [e];exact n1,g⟩
  ·exact .inr ⟨by rw [e];grind,g⟩
 -- the absolute errors are small
 have hl3:xs.length≤64:=by rw [List.length_cons] at hl;omega
 have hlr:(xs.length:Rat)≤64:=Rat.natCast_le_natCast.2 hl3
 have hdu:ab (fQ d)≤3 * fQ (nrV (a :: xs)):=by
  have t:=ab_le (x:=fQ d) (y:=ab (fQ d - (fQ a - fQ b))+ab (fQ a - fQ b)) (by have:=le_ab (fQ d - (fQ a - fQ b));have:=le_ab (fQ a - fQ b);grind) (by have:=le_ab (fQ d - (fQ a - fQ b));have:=le_ab (fQ a - fQ b);grind)
  have ha:=n7 a List.mem_cons_self
  have m5':=m5
  rw [m6,m7] at m5' t
  generalize ab (fQ d - (fQ a - fQ b)) = z at *
  grind
 obtain ⟨κ,hκ⟩:∃ κ,18014398509481984 * (p2 (-1075) * ab (fQ d)) = κ:=⟨_,rfl⟩
 have κ0:0≤κ:=by
  rw [← hκ]
  have:=Rat.mul_nonneg (Rat.le_of_lt (p2_pos (-1075))) (ab_0 (fQ d))
  grind
 have κs:17592186044416 * κ≤fQ (nrV (a :: xs)):=by
  obtain ⟨q1,q2,q3⟩:=eta_small
  have m:=Rat.mul_le_mul_of_nonneg_left q1 (ab_0 (fQ d))
  rw [← hκ]
  have e:ab (fQ d) * (1267650600228229401496703205376 * p2 (-1075)) = 1267650600228229401496703205376 * (p2 (-1075) * ab (fQ d)):=by grind
  rw [e] at m
  have z0:=Rat.mul_nonneg (Rat.le_of_lt q2) (ab_0 (fQ d))
  generalize p2 (-1075) * ab (fQ d) = K at *
  grind
 rw [hκ] at m4 ⊢
 obtain ⟨μ,hμ⟩:∃ μ,fQ (nrV (a :: xs)) = μ:=⟨_,rfl⟩
 have E1:∀ x ∈ xs,4 * (ab (fQ x) * κ)+4 * (κ * κ)≤μ * μ * (1 / 1000):=fun x hx=>by
  have hx1:=n7 x (List.mem_cons_of_mem _ hx)
  rw [hμ] at hx1 κs
  have x0:=ab_0 (fQ x)
  have μ0:0≤μ:=by rw [← hμ];exact Rat.le_of_lt n1
  have a1:=Rat.mul_nonneg (show 0≤μ - 17592186044416 * κ by grind) x0
  have a2:=Rat.mul_nonneg (show 0≤1000001 * μ - 1000000 * ab (fQ x) by grind) μ0
  have a3:=Rat.mul_nonneg (show 0≤μ - 17592186044416 * κ by grind) κ0
  have a4:=Rat.mul_nonneg (show 0≤μ - 17592186044416 * κ by grind) μ0
  have a5:=sq_nonneg μ
  have e1:ab (fQ x) * κ = κ * ab (fQ x):=Rat.mul_comm _ _
  generalize ab (fQ x) = X at *
  grind
 obtain ⟨s1',s2'⟩:=quosM_sq (fQ d) κ (μ * μ * (1 / 1000)) κ0 vs xs m4 E1
 have hLE:(xs.length:Rat) * (μ * μ * (1 / 1000))≤fQ a * fQ a+sumQ xs:=by
  have l:=le_ab (fQ (nrV (a :: xs)) * fQ (nrV (a :: xs)) - (fQ a * fQ a+sumQ xs))
  rw [hμ] at l n4
  have q:=sq_nonneg μ
  have m:=Rat.mul_nonneg (show 0≤64 - (xs.length:Rat) by grind) (show 0≤μ * μ * (1 / 1000) by grind)
  have S0:0≤fQ a * fQ a+sumQ xs:=by have:=sq_nonneg (fQ a);have:=sumQ_nonneg xs;grind
  generalize fQ a * fQ a+sumQ xs = S at *
  generalize ab (μ * μ - S) = z at *
  generalize μ * μ = M at *
  grind
 have s1:9007199254740992 * ab (sumQ vs * (fQ d * fQ d) - sumQ xs)≤5 * sumQ xs+(fQ a * fQ a+sumQ xs):=by grind
 have s2:9007199254740992 * ab (dtQ vs xs * fQ d - sumQ xs)≤2 * sumQ xs+(fQ a * fQ a+sumQ xs):=by grind
 clear s1' s2' E1
 obtain ⟨k1,k2,k3⟩:=mirror_norm3 (fQ a) (fQ b) (sumQ xs) (fQ d) (fQ t) (sumQ vs) (sumQ_nonneg xs) hsg n4' m5 m8 m9 s1
 have ht2:1000 * ab (fQ t)≤2001:=by rw [ab_pos (by grind)];grind
 have own:=mirror_own3 (fQ a) (fQ b) (sumQ xs) (fQ d) (fQ t) (dtQ vs xs) (sumQ_nonneg xs) hsg n4' m5 m8 m9 s2 ht2
 have hdl:1000000 * fQ (nrV (a :: xs))≤1000001 * ab (fQ d):=by
  have l:=le_ab (fQ d - (fQ a - fQ b));have l2:=le_ab (fQ d)
  have t:=ab_le (x:=fQ a - fQ b) (y:=ab (fQ d - (fQ a - fQ b))+ab (fQ d)) (by grind) (by grind)
  have a0:=ab_0 (fQ a)
  have m5':=m5
  rw [m6,m7] at m5' t
  clear l l2 hsg hs n7 h m3 own k1 s1 s2 n4 n4' m5 m8 m4 hl h0 hLE κs κ0 hκ hdu hlr
  generalize ab (fQ d - (fQ a - fQ b)) = z at *
  grind
 have hsz:=quosM_size (fQ d) _ κ n1 (by grind) hdl vs xs m4 (fun x hx=>n7 x (List.mem_cons_of_mem _ hx))
 refine ⟨m2,ht2,k2,k3,?_,?_,m4,m5,m6,m7,own⟩
 ·intro v hv2
  rcases List.mem_cons.1 hv2 with rfl | hv2
  ·rw [fQ_one]
   exact ⟨by decide,by unfold ab;grind⟩
  ·exact ⟨m3 v hv2,hsz v hv2⟩
 ·have e:sumQ (4607182418800017408 :: vs) = 1+sumQ vs:=by
   show fQ 4607182418800017408 * fQ 4607182418800017408+sumQ vs = _
   rw [fQ_one]
   grind
  rw [e]
  exact k1
theorem house_crudeW (a b d t:Nat) (xs vs:List Nat) (hl:(a :: xs).length≤64) (hX:∀ x ∈ a :: xs,x < 18446744073709551616∧fFin x = true∧ab (fQ x)≤p2 300) (h0:bgF 0 (a :: xs) ≠ 0) (hb:b < 18446744073709551616) (fb:fFin b = true)
  (hs:(fQ b = fQ (nrV (a :: xs))∧fQ a≤0) ∨ (fQ b = -fQ (nrV (a :: xs))∧0≤fQ a)) (hd:d = aV a (fN b)) (ht:t = dV (aV b (fN a)) b) (hv:vs = xs.map (fun x=>dV x d)) :
  fFin d = true∧fFin t = true∧1000 * ab (fQ t)≤2001∧(∀ v ∈ vs,fFin v = true∧1000 * ab (fQ v)≤1001)∧ab (fQ b)≤p2 306:=by
 obtain ⟨k,ek⟩:∃ k,eX (bgF 0 (a :: xs)) = k:=⟨_,rfl⟩
 have hT:TopV (k.natAbs+1) (a :: xs):=⟨fun x h=>⟨(hX x h).1,(hX x h).2.1⟩,.inr ⟨by rw [ek];omega,by rw [ek];omega⟩⟩
 obtain ⟨b1,b2,b3,b4,b5,b6,b7,b8,y,hy,b9,b10⟩:=top_big _ (a :: xs) hT h0
 have hM:=eX_top _ (by omega) b2 b3
 rw [ek,ab_pos (fQ_pos _ b4)] at hM
 have hy2:=(hX y hy).2.2
 rw [b9] at hy2
 have k1:k≤300:=p2_lt_of (Rat.le_trans hM.1 hy2)
 obtain ⟨_,up⟩:=topn_above _ (a :: xs) hl hT h0 (by rw [ek];omega)
 have ge:=norm_geA _ (a :: xs) hl hT h0 (by rw [ek];omega)
 rw [ek] at up
 have pk:=p2_pos k
 have M0:0 < fQ (bgF 0 (a :: xs)):=by grind
 have hμ:0 < fQ (nrV (a :: xs)):=by grind
 have hab:ab (fQ b) = fQ (nrV (a :: xs)):=by
  rcases hs with ⟨e,_⟩ | ⟨e,_⟩ <;> rw [e]
  ·exact ab_pos (Rat.le_of_lt hμ)
  ·unfold ab;grind
 have hx:∀ x ∈ a :: xs,1000000 * ab (fQ x)≤1000001 * ab (fQ b):=fun x h=>by
  have:=b7 x h
  rw [hab]
  grind
 have hD:ab (fQ a - fQ b) = ab (fQ a)+ab (fQ b):=by
  rcases hs with ⟨e,g⟩ | ⟨e,g⟩ <;> rw [e] <;> unfold ab <;> grind
 have hD2:ab (fQ b - fQ a) = ab (fQ a)+ab (fQ b):=by
  rcases hs with ⟨e,g⟩ | ⟨e,g⟩ <;> rw [e] <;> unfold ab <;> grind
 have hbu:ab (fQ b)≤p2 306:=by
  rw [hab]
  rw [ab_pos (Rat.le_of_lt hμ)] at up
  have h1:=p2_mono k1
  have h2:=p2_mono (show (-1074:Int)≤300 by decide)
  have h3:=p2_mono (show (300+1+1+1+1+1:Int)≤306 by decide)
  simp only [p2_succ] at h3
  grind
 have big:8 * p2 306≤p2 1023∧0 < p2 306:=by
  have h3:=p2_mono (show (306+1+1+1:Int)≤1023 by decide)
  simp only [p2_succ] at h3
  exact ⟨by grind,p2_pos _⟩
 obtain ⟨a1,a2,a3⟩:=hX a List.mem_cons_self
 have ha:=hx a List.mem_cons_self
 have a0:=ab_0 (fQ a)
 have bp:0 < ab (fQ b):=by rw [hab];exact hμ
 have fnb:fFin (fN b) = true:=by rw [fFin_fN _ hb];exact fb
 have fna:fFin (fN a) = true:=by rw [fFin_fN _ a1];exact a2
 have qb:=fQ_fN _ hb
 have qa:=fQ_fN _ a1
 have fd:fFin d = true:=by
  rw [hd]
  refine add_fin a (fN b) a2 fnb ?_
  rw [qb,show fQ a+-fQ b = fQ a - fQ b by grind,hD]
  grind
 have ed:9007199254740992 * ab (fQ d - (fQ a - fQ b))≤ab (fQ a - fQ b):=by
  have e:=add_err a (fN b) a2 fnb (by rw [← hd];exact fd)
  rw [qb,show fQ a+-fQ b = fQ a - fQ b by grind,← hd] at e
  exact e
 have hdl:1000000 * ab (fQ b)≤1000001 * ab (fQ d):=by
  have l:=le_ab (fQ d - (fQ a - fQ b));have l2:=le_ab (fQ d)
  have tt:=ab_le (x:=fQ a - fQ b) (y:=ab (fQ d - (fQ a - fQ b))+ab (fQ d)) (by grind) (by grind)
  rw [hD] at ed tt
  clear l l2
  generalize ab (fQ d - (fQ a - fQ b)) = z at *
  clear hs hD hD2 hx hX up ge
  grind
 have fs:fFin (aV b (fN a)) = true:=by
  refine add_fin b (fN a) fb fna ?_
  rw [qa,show fQ b+-fQ a = fQ b - fQ a by grind,hD2]
  grind
 have esz:1000000 * ab (fQ (aV b (fN a)))≤2000002 * ab (fQ b):=by
  have e:=add_err b (fN a) fb fna fs
  rw [qa,show fQ b+-fQ a = fQ b - fQ a by grind] at e
  have l:=le_ab (fQ (aV b (fN a)) - (fQ b - fQ a));have l2:=le_ab (fQ b - fQ a)
  have tt:=ab_le (x:=fQ (aV b (fN a))) (y:=ab (fQ (aV b (fN a)) - (fQ b - fQ a))+ab (fQ b - fQ a)) (by grind) (by grind)
  rw [hD2] at e tt
  clear l l2
  generalize ab (fQ (aV b (fN a)) - (fQ b - fQ a)) = z at *
  clear hs hD hD2 hx hX up ge
  grind
 obtain ⟨t1,t2⟩:=div_size (aV b (fN a)) b (2000002 / 1000000) (aV_lt _ _ hb (fN_lt _ a1)) hb fs fb bp (by grind) (by grind) (by grind)
 rw [← ht] at t1 t2
 refine ⟨fd,t1,by grind,fun v hvm=>?_,hbu⟩
 rw [hv] at hvm
 obtain ⟨x,hxm,rfl⟩:=List.mem_map.1 hvm
 obtain ⟨x1,x2,_⟩:=hX x (List.mem_cons_of_mem _ hxm)
 have hx3:=hx x (List.mem_cons_of_mem _ hxm)
 have dl:d < 18446744073709551616:=by rw [hd];exact aV_lt _ _ a1 (fN_lt _ hb)
 obtain ⟨v1,v2⟩:=div_size x d (1000003 / 1000000) x1 dl x2 fd (by grind) (by grind) (by grind) (by grind)
 exact ⟨v1,by grind⟩
end Go.Proofs.YtnnfjeieennffaaGreatDoor
