/- Part 37 of the texts. -/
import Derived.Test.YtdhmglmccafbnaaGreatDoorPartu36
import Derived.Test.YtdhmglmccafbnaaGreatDoorPartu18
import Derived.Test.YtdhmglmccafbnaaGreatDoorPartu19
import Derived.Test.YtdhmglmccafbnaaGreatDoorPartu28
namespace Go.Proofs.YtdhmglmccafbnaaGreatDoor
open Go.RowKit
theorem div_size (x d:Nat) (r:Rat) (hx:x < 18446744073709551616) (hd:d < 18446744073709551616) (fx:fFin x = true) (fd:fFin d = true) (d0:0 < ab (fQ d)) (hr:1≤r) (hr2:r≤100) (h:ab (fQ x)≤r * ab (fQ d)) :
  fFin (dV x d) = true∧100000 * ab (fQ (dV x d))≤100001 * r:=by
 have kd:fK d ≠ 0:=fun e=>by
  rw [fQ_nought d e] at d0
  unfold ab at d0
  grind
 have big:(100:Rat)≤p2 1000:=by
  have h1:=p2_mono (show (7:Int)≤1000 by decide)
  have h2:p2 7 = 128:=by rw [show (7:Int) = ((7:Nat):Int) by rfl,p2_nat];rfl
  grind
 have m0:=Rat.mul_nonneg (show 0≤p2 1000 - r by grind) (Rat.le_of_lt d0)
 obtain ⟨g1,g2⟩:=div_errB x d hx hd fx fd kd (by grind)
 refine ⟨g1,?_⟩
 obtain ⟨q1,q2,q3⟩:=eta_small
 have l1:=le_ab (fQ (dV x d) * fQ d - fQ x);have l2:=le_ab (fQ x)
 have t:=ab_le (x:=fQ (dV x d) * fQ d) (y:=ab (fQ (dV x d) * fQ d - fQ x)+ab (fQ x)) (by grind) (by grind)
 rw [ab_mul] at t
 have e1:=Rat.mul_le_mul_of_nonneg_left q1 (Rat.le_of_lt d0)
 have e2:ab (fQ d) * (1267650600228229401496703205376 * p2 (-1075)) = 1267650600228229401496703205376 * (p2 (-1075) * ab (fQ d)):=by grind
 rw [e2] at e1
 rcases Rat.le_total (a:=100000 * ab (fQ (dV x d))) (b:=100001 * r) with g | g
 ·exact g
 ·exfalso
  have m:=Rat.mul_le_mul_of_nonneg_left g (Rat.le_of_lt d0)
  have e3:ab (fQ d) * (100001 * r) = 100001 * (r * ab (fQ d)):=by grind
  have e4:ab (fQ d) * (100000 * ab (fQ (dV x d))) = 100000 * (ab (fQ (dV x d)) * ab (fQ d)):=by grind
  rw [e3,e4] at m
  have rd:=Rat.mul_nonneg (show 0≤r - 1 by grind) (Rat.le_of_lt d0)
  have e5:(r - 1) * ab (fQ d) = r * ab (fQ d) - ab (fQ d):=by grind
  rw [e5] at rd
  clear l1 l2 e2 e3 e4 e5 m0 g hr hr2 big
  generalize ab (fQ (dV x d)) * ab (fQ d) = z1 at *
  generalize p2 (-1075) * ab (fQ d) = z2 at *
  generalize r * ab (fQ d) = z3 at *
  generalize ab (fQ (dV x d) * fQ d - fQ x) = z4 at *
  grind
end Go.Proofs.YtdhmglmccafbnaaGreatDoor
namespace Go.Proofs.YtdhmglmccafbnaaGreatDoor
open Go.RowKit
theorem less_size (c Y:Rat) (hc:100 * ab c≤201 * Y):∀ (vs ys us:List Nat),lessQ c (46 * Y) vs ys us→(∀ v ∈ vs,1000 * ab (fQ v)≤1001)→(∀ y ∈ ys,ab (fQ y)≤Y)→0≤Y→∀ u ∈ us,fFin u = true∧ab (fQ u)≤4 * Y:=by
 intro vs
 induction vs with
 | nil =>
  intro ys us h _ _ _ u hu
  cases ys with
  | cons y ys=>exact absurd h (by unfold lessQ;exact id)
  | nil =>
   cases us with
   | nil=>cases hu
   | cons w us=>exact absurd h (by unfold lessQ;exact id)
 | cons v vs ih =>
  intro ys us h hv hy Y0 u hu
  cases ys with
  | nil=>exact absurd h (by unfold lessQ;exact id)
  | cons y ys =>
   cases us with
   | nil=>cases hu
   | cons w us =>
    unfold lessQ at h
    rcases List.mem_cons.1 hu with rfl | hu
    ·refine ⟨h.1.1,?_⟩
     have e:=h.1.2
     have hv1:=hv v List.mem_cons_self
     have hy1:=hy y List.mem_cons_self
     have l1:=le_ab (fQ u - (fQ y - c * fQ v));have l2:=le_ab (fQ y);have l3:=le_ab (c * fQ v)
     have t:=ab_le (x:=fQ u) (y:=ab (fQ u - (fQ y - c * fQ v))+ab (fQ y)+ab (c * fQ v)) (by grind) (by grind)
     have m:=Rat.mul_le_mul_of_nonneg_left hv1 (ab_0 c)
     have e2:ab c * (1000 * ab (fQ v)) = 1000 * ab (c * fQ v):=by rw [ab_mul];grind
     rw [e2] at m
     generalize ab (fQ u - (fQ y - c * fQ v)) = z1 at *
     generalize ab (c * fQ v) = z2 at *
     clear l1 l2 l3
     grind
    ·exact ih ys us h.2 (fun x hx=>hv x (List.mem_cons_of_mem _ hx)) (fun x hx=>hy x (List.mem_cons_of_mem _ hx)) Y0 u hu
theorem s1_max (Z:Rat):∀ (ys:List Nat),(∀ y ∈ ys,ab (fQ y)≤Z)→s1Q ys≤(ys.length:Rat) * Z:=by
 intro ys
 induction ys with
 | nil =>
  intro _
  have e1:s1Q [] = 0:=rfl
  have e2:(([]:List Nat).length:Rat) = 0:=rfl
  rw [e1,e2]
  grind
 | cons y ys ih =>
  intro h
  have i:=ih (fun z hz=>h z (List.mem_cons_of_mem _ hz))
  have h1:=h y List.mem_cons_self
  have e1:s1Q (y :: ys) = ab (fQ y)+s1Q ys:=rfl
  have e2:((y :: ys).length:Rat) = (ys.length:Rat)+1:=by rw [List.length_cons,Rat.natCast_add];rfl
  rw [e1,e2,Rat.add_mul,Rat.one_mul]
  grind
theorem col_crude (tau:Nat) (Z:Rat) (vs ys:List Nat) (hl:vs.length≤6) (hlen:vs.length = ys.length) (ft:fFin tau = true) (ht:1000 * ab (fQ tau)≤2001) (hv:∀ v ∈ vs,fFin v = true∧1000 * ab (fQ v)≤1001) (hy:∀ y ∈ ys,fFin y = true∧ab (fQ y)≤Z)
  (hZ:6 * Z≤p2 900) (hη:1267650600228229401496703205376 * p2 (-1075)≤Z):∀ u ∈ apV (mV tau (dtV 0 vs ys)) vs ys,fFin u = true∧ab (fQ u)≤24 * Z:=by
 have hp:=p2_pos (-1075)
 have Z0:0≤Z:=by grind
 have s:=s1_max Z ys (fun y h=>(hy y h).2)
 have hl2:(ys.length:Rat)≤6:=Rat.natCast_le_natCast.2 (by omega:ys.length≤6)
 have m:=Rat.mul_nonneg (show 0≤6 - (ys.length:Rat) by grind) Z0
 have hY:s1Q ys≤6 * Z:=by grind
 obtain ⟨f1,c1,_,_⟩:=tau_dotY tau (6 * Z) vs ys hl ft ht hv (fun y h=>(hy y h).1) hY hZ (by grind)
 have hls:=col_lessY tau (6 * Z) vs ys hl hlen ft ht hv (fun y h=>(hy y h).1) hY hZ (by grind)
 intro u hu
 obtain ⟨u1,u2⟩:=less_size _ (6 * Z) c1 vs ys _ hls (fun v h=>(hv v h).2) (fun y h=>by have:=(hy y h).2;grind) (by grind) u hu
 exact ⟨u1,by grind⟩
end Go.Proofs.YtdhmglmccafbnaaGreatDoor
namespace Go.Proofs.YtdhmglmccafbnaaGreatDoor
open Go.RowKit
theorem top_sizeW (xs:List Nat) (hl:xs.length≤64) (h:TopV 300 xs) (h0:bgF 0 xs ≠ 0) :
  0 < fQ (nrV xs)∧fFin (nrV xs) = true∧fS (nrV xs) = false∧9007199254740992 * ab (fQ (nrV xs) * fQ (nrV xs) - sumQ xs)≤135 * sumQ xs∧fQ (nrV xs)≤p2 304∧p2 (-301)≤fQ (nrV xs)∧(∀ x ∈ xs,1000000 * ab (fQ x)≤1000001 * fQ (nrV xs)):=by
 obtain ⟨n1,n2,n3,n4⟩:=top_right2 300 (by decide) xs hl h h0
 obtain ⟨b1,b2,b3,b4,b5,b6,b7,b8,y,hy,b9,b10⟩:=top_big 300 xs h h0
 have hl2:(xs.length:Rat)≤64:=Rat.natCast_le_natCast.2 hl
 have P0:=p2_pos 300
 have hM:=eX_top _ (by omega) b2 b3
 rw [ab_pos (fQ_pos _ b4)] at hM
 have hM2:=p2_mono (show eX (bgF 0 xs)+1≤300 by omega)
 have hM3:=p2_mono (show -300≤eX (bgF 0 xs) by omega)
 have hS:sumQ xs≤64 * (p2 300 * p2 300):=by
  have h1:=sum_len (p2 300) xs (fun x hx=>by have:=b7 x hx;grind)
  have:=Rat.mul_nonneg (show 0≤64 - (xs.length:Rat) by grind) (sq_nonneg (p2 300))
  grind
 have hy2:=sum_mem xs y hy
 have hy3:p2 (-300)≤ab (fQ y):=by rw [b9];grind
 have Q0:=p2_pos (-300)
 have qy:=sq_nonneg (fQ y)
 have ey:ab (fQ y) * ab (fQ y) = fQ y * fQ y:=by rw [← ab_mul];exact ab_pos qy
 have hL:p2 (-300) * p2 (-300)≤sumQ xs:=by
  have m:=Rat.mul_nonneg (show 0≤ab (fQ y) - p2 (-300) by grind) (show 0≤ab (fQ y)+p2 (-300) by grind)
  grind
 have l:=le_ab (fQ (nrV xs) * fQ (nrV xs) - sumQ xs)
 have e204:p2 304 = 16 * p2 300:=by rw [show (304:Int) = 300+1+1+1+1 by rfl];simp only [p2_succ];grind
 have e201:p2 (-300) = 2 * p2 (-301):=by rw [show (-300:Int) = -301+1 by rfl,p2_succ]
 have s0:=sumQ_nonneg xs
 refine ⟨n3,n1,n2,n4,?_,?_,fun x hx=>?_⟩
 ·refine le_of_sq (Rat.le_of_lt (p2_pos _)) ?_
  rw [e204]
  generalize fQ (nrV xs) * fQ (nrV xs) = MM at *
  have:16 * p2 300 * (16 * p2 300) = 256 * (p2 300 * p2 300):=by grind
  rw [this]
  generalize p2 300 * p2 300 = PP at *
  grind
 ·refine le_of_sq (Rat.le_of_lt n3) ?_
  have:p2 (-300) * p2 (-300) = 4 * (p2 (-301) * p2 (-301)):=by rw [e201];grind
  rw [this] at hL
  have hpp:=Rat.mul_pos (p2_pos (-301)) (p2_pos (-301))
  generalize fQ (nrV xs) * fQ (nrV xs) = MM at *
  generalize p2 (-301) * p2 (-301) = PP at *
  grind
 ·have hx2:=sum_mem xs x hx
  have qx:=sq_nonneg (fQ x)
  have ex:ab (fQ x) * ab (fQ x) = fQ x * fQ x:=by rw [← ab_mul];exact ab_pos qx
  refine le_of_sq (by grind) ?_
  rw [show 1000000 * ab (fQ x) * (1000000 * ab (fQ x)) = 1000000000000 * (ab (fQ x) * ab (fQ x)) by grind,ex,show 1000001 * fQ (nrV xs) * (1000001 * fQ (nrV xs)) = 1000002000001 * (fQ (nrV xs) * fQ (nrV xs)) by grind]
  generalize fQ (nrV xs) * fQ (nrV xs) = MM at *
  generalize fQ x * fQ x = XX at *
  grind
theorem house_makeMW (a b:Nat) (xs:List Nat) (hl:(a :: xs).length≤64) (h:TopV 300 (a :: xs)) (h0:bgF 0 (a :: xs) ≠ 0) (hb:b < 18446744073709551616) (fb:fFin b = true) (b0:fK b ≠ 0)
  (hs:(fQ b = fQ (nrV (a :: xs))∧fQ a≤0) ∨ (fQ b = -fQ (nrV (a :: xs))∧0≤fQ a)) :
  let d:=aV a (fN b);let t:=dV (aV b (fN a)) b;let vs:=xs.map (fun x=>dV x d)
  fFin d = true∧fFin t = true∧(∀ v ∈ vs,fFin v = true)∧quosM (fQ d) (18014398509481984 * (p2 (-1075) * ab (fQ d))) vs xs∧9007199254740992 * ab (fQ d - (fQ a - fQ b))≤ab (fQ a - fQ b) ∧
  ab (fQ a - fQ b) = ab (fQ a)+ab (fQ b)∧ab (fQ b) = fQ (nrV (a :: xs))∧9007199254740992 * ab (fQ t * fQ b+(fQ a - fQ b))≤4 * ab (fQ a - fQ b)∧4503599627370496 * ab (fQ a)≤4503599627370496 * ab (fQ b)+70 * ab (fQ b):=by
 intro d t vs
 obtain ⟨n1,n2,n3,n4,n5,n6,n7⟩:=top_sizeW (a :: xs) hl h h0
 obtain ⟨a1,a2⟩:=h.1 a List.mem_cons_self
 have hM:ab (fQ b) = fQ (nrV (a :: xs)):=by
  rcases hs with ⟨e,_⟩ | ⟨e,_⟩
  ·rw [e];exact ab_pos (Rat.le_of_lt n1)
  ·rw [e,ab_neg];exact ab_pos (Rat.le_of_lt n1)
 have hS:ab (fQ a - fQ b) = ab (fQ a)+ab (fQ b):=by
  rw [hM]
  rcases hs with ⟨e,g⟩ | ⟨e,g⟩
  ·rw [e];unfold ab;grind
  ·rw [e];unfold ab;grind
 have fa':fFin (fN a) = true:=by rw [fFin_fN a a1];exact a2
 have fb':fFin (fN b) = true:=by rw [fFin_fN b hb];exact fb
 have qa:=fQ_fN a a1;have qb:=fQ_fN b hb
 have A0:=ab_0 (fQ a)
 have hA:=n7 a List.mem_cons_self
 have P4:=p2_pos 304
 have big:8 * p2 304≤p2 1023∧4 * p2 304≤p2 310:=by
  have h1:=p2_mono (show (304+1+1+1:Int)≤1023 by decide)
  have h2:=p2_mono (show (304+1+1:Int)≤310 by decide)
  simp only [p2_succ] at h1 h2
  exact ⟨by grind,by grind⟩
 -- the difference and the other one
 have fd:fFin d = true:=add_fin a (fN b) a2 fb' (by rw [qb,show fQ a+-fQ b = fQ a - fQ b by grind,hS,hM];grind)
 have ed:=add_err a (fN b) a2 fb' fd
 rw [qb,show fQ a+-fQ b = fQ a - fQ b by grind] at ed
 have fg:fFin (aV b (fN a)) = true:=add_fin b (fN a) fb fa' (by rw [qa,show fQ b+-fQ a = -(fQ a - fQ b) by grind,ab_neg,hS,hM];grind)
 have eg:=add_err b (fN a) fb fa' fg
 rw [qa,show fQ b+-fQ a = fQ b - fQ a by grind] at eg
 have kD:ab (fQ b - fQ a) = ab (fQ a - fQ b):=ab_sub _ _
 have ld:=le_ab (fQ d - (fQ a - fQ b));have lD:=le_ab (fQ a - fQ b)
 have ed2:9007199254740992 * ab (fQ d - (fQ a - fQ b))≤ab (fQ a - fQ b):=ed
 have dd:=ab_le (x:=fQ d) (y:=ab (fQ d - (fQ a - fQ b))+ab (fQ a - fQ b)) (by grind) (by grind)
 have dd2:=ab_le (x:=fQ a - fQ b) (y:=ab (fQ d - (fQ a - fQ b))+ab (fQ d)) (by have:=le_ab (fQ d);grind) (by have:=le_ab (fQ d);grind)
 have dlo:fQ (nrV (a :: xs))≤2 * ab (fQ d):=by rw [hS,hM] at *;grind
 have dhi:ab (fQ d)≤p2 310:=by rw [hS,hM] at *;grind
 have k0:fK d ≠ 0:=fun e=>by
  have:=fQ_nought d e
  rw [this] at dlo
  unfold ab at dlo
  grind
 have dl:d < 18446744073709551616:=aV_lt a (fN b) a1 (fN_lt b hb)
 obtain ⟨q1,q2⟩:=quosM_of d dl fd k0 xs (fun x hx=>by
  obtain ⟨x1,x2⟩:=h.1 x (List.mem_cons_of_mem _ hx)
  have x4:=n7 x (List.mem_cons_of_mem _ hx)
  refine ⟨x1,x2,by grind⟩)
 -- tau
 have gl:aV b (fN a) < 18446744073709551616:=aV_lt b (fN a) hb (fN_lt a a1)
 have lg:=le_ab (fQ (aV b (fN a)) - (fQ b - fQ a));have lG:=le_ab (fQ b - fQ a)
 have gg:=ab_le (x:=fQ (aV b (fN a))) (y:=ab (fQ (aV b (fN a)) - (fQ b - fQ a))+ab (fQ b - fQ a)) (by grind) (by grind)
 have gg2:=ab_le (x:=fQ a - fQ b) (y:=ab (fQ (aV b (fN a)) - (fQ b - fQ a))+ab (fQ (aV b (fN a)))) (by have:=le_ab (fQ (aV b (fN a)));grind) (by have:=le_ab (fQ (aV b (fN a)));grind)
 have eg2:=eg
 rw [kD,hS,hM] at eg2
 rw [kD,hS,hM] at gg
 rw [hS,hM] at gg2
 have glo:fQ (nrV (a :: xs))≤2 * ab (fQ (aV b (fN a))):=by
  generalize ab (fQ (aV b (fN a)) - (fQ b - fQ a)) = z at *
  grind
 have ghi:ab (fQ (aV b (fN a)))≤4 * fQ (nrV (a :: xs)):=by
  generalize ab (fQ (aV b (fN a)) - (fQ b - fQ a)) = z at *
  grind
 have g0:fK (aV b (fN a)) ≠ 0:=fun e=>by
  have:=fQ_nought _ e
  rw [this] at glo
  unfold ab at glo
  grind
 have hη0:=p2_pos (-1075)
 obtain ⟨n8,_,_⟩:=eta_small
 obtain ⟨t1,t2⟩:=div_err2 (aV b (fN a)) b gl hb fg fb g0 b0 (by rw [hM];grind) (by
  rw [hM]
  have hsm:1267650600228229401496703205376 * (4 * p2 (-1075))≤2:=by
   have e1:=p2_mono (show (102+-1075:Int)≤1 by decide)
   rw [p2_add,show (102:Int) = ((102:Nat):Int) by rfl,p2_nat,p2_1] at e1
   have:((2 ^ 102:Nat):Rat) = 5070602400912917605986812821504:=rfl
   rw [this] at e1
   grind
  have:=Rat.mul_le_mul_of_nonneg_left hsm (Rat.le_of_lt n1)
  grind)
 have es:sumQ (a :: xs) = fQ a * fQ a+sumQ xs:=rfl
 rw [es] at n4
 have n4':9007199254740992 * ab (fQ b * fQ b - (fQ a * fQ a+sumQ xs))≤135 * (fQ a * fQ a+sumQ xs):=by
  have:fQ b * fQ b = fQ (nrV (a :: xs)) * fQ (nrV (a :: xs)):=by
   rcases hs with ⟨e,_⟩ | ⟨e,_⟩ <;> rw [e] <;> grind
  rw [this];exact n4
 obtain ⟨m1,m2⟩:=mirror_alg (fQ a) (fQ b) (sumQ xs) (fQ t) (fQ (aV b (fN a))) (sumQ_nonneg xs) (by rw [hM];exact n1) hS n4' eg t2
 exact ⟨fd,t1,q2,q1,ed2,hS,hM,m1,m2⟩
theorem house_factsMW (a b d t:Nat) (xs vs:List Nat) (hl:(a :: xs).length≤64) (h:TopV 300 (a :: xs)) (h0:bgF 0 (a :: xs) ≠ 0) (hb:b < 18446744073709551616) (fb:fFin b = true) (b0:fK b ≠ 0)
  (hs:(fQ b = fQ (nrV (a :: xs))∧fQ a≤0) ∨ (fQ b = -fQ (nrV (a :: xs))∧0≤fQ a)) (hd:d = aV a (fN b)) (ht:t = dV (aV b (fN a)) b) (hv:vs = xs.map (fun x=>dV x d)) :
  fFin t = true∧1000 * ab (fQ t)≤2001∧9007199254740992 * fQ t≤18014398509481984+200∧9007199254740992≤9007199254740992 * fQ t+5 ∧
  (∀ v ∈ 4607182418800017408 :: vs,fFin v = true∧1000 * ab (fQ v)≤1001)∧8796093022208 * ab (fQ t * sumQ (4607182418800017408 :: vs) - 2)≤1 ∧
  quosM (fQ d) (18014398509481984 * (p2 (-1075) * ab (fQ d))) vs xs∧9007199254740992 * ab (fQ d - (fQ a - fQ b))≤ab (fQ a - fQ b)∧ab (fQ a - fQ b) = ab (fQ a)+ab (fQ b)∧ab (fQ b) = fQ (nrV (a :: xs)) ∧
  9007199254740992 * ab (fQ t * (fQ a+dtQ vs xs) - (fQ a - fQ b))≤300 * ab (fQ a - fQ b):=by
 obtain ⟨m1,m2,m3,m4,m5,m6,m7,m8,m9⟩:=house_makeMW a b xs hl h h0 hb fb b0 hs
 rw [← hd] at m1 m3 m4 m5
 rw [← ht] at m2 m8
 rw [← hv] at m3 m4
 obtain ⟨n1,n2,n3,n4,n5,n6,n7⟩:=top_sizeW (a :: xs) hl h h0
 have es:sumQ (a :: xs) = fQ a * fQ a+sumQ xs:=rfl
 rw [es] at n4
 have n4':9007199254740992 * ab (fQ b * fQ b - (fQ a * fQ a+sumQ xs))≤135 * (fQ a * fQ a+sumQ xs):=by
  have:fQ b * fQ b = fQ (nrV (a :: xs)) * fQ (nrV (a :: xs)):=by
   rcases hs with ⟨e,_⟩ | ⟨e,_⟩ <;> rw [e] <;> grind
  rw [this];exact n4
 have hsg:(0 < fQ b∧fQ a≤0) ∨ (fQ b < 0∧0≤fQ a):=by
  rcases hs with ⟨e,g⟩ | ⟨e,g⟩
  ·exact .inl ⟨by rw [e];exact n1,g⟩
  ·exact .inr ⟨by rw [e];grind,g⟩
 -- the absolute errors are small
 have hl3:xs.length≤64:=by rw [List.length_cons] at hl;omega
 have hlr:(xs.length:Rat)≤64:=Rat.natCast_le_natCast.2 hl3
 have hdu:ab (fQ d)≤3 * fQ (nrV (a :: xs)):=by
  have t:=ab_le (x:=fQ d) (y:=ab (fQ d - (fQ a - fQ b))+ab (fQ a - fQ b)) (by have:=le_ab (fQ d - (fQ a - fQ b));have:=le_ab (fQ a - fQ b);grind) (by have:=le_ab (fQ d - (fQ a - fQ b));have:=le_ab (fQ a - fQ b);grind)
  have ha:=n7 a List.mem_cons_self
  have m5':=m5
  rw [m6,m7] at m5' t
  generalize ab (fQ d - (fQ a - fQ b)) = z at *
  grind
 obtain ⟨κ,hκ⟩:∃ κ,18014398509481984 * (p2 (-1075) * ab (fQ d)) = κ:=⟨_,rfl⟩
 have κ0:0≤κ:=by
  rw [← hκ]
  have:=Rat.mul_nonneg (Rat.le_of_lt (p2_pos (-1075))) (ab_0 (fQ d))
  grind
 have κs:17592186044416 * κ≤fQ (nrV (a :: xs)):=by
  obtain ⟨q1,q2,q3⟩:=eta_small
  have m:=Rat.mul_le_mul_of_nonneg_left q1 (ab_0 (fQ d))
  rw [← hκ]
  have e:ab (fQ d) * (1267650600228229401496703205376 * p2 (-1075)) = 1267650600228229401496703205376 * (p2 (-1075) * ab (fQ d)):=by grind
  rw [e] at m
  have z0:=Rat.mul_nonneg (Rat.le_of_lt q2) (ab_0 (fQ d))
  generalize p2 (-1075) * ab (fQ d) = K at *
  grind
 rw [hκ] at m4 ⊢
 obtain ⟨μ,hμ⟩:∃ μ,fQ (nrV (a :: xs)) = μ:=⟨_,rfl⟩
 have E1:∀ x ∈ xs,4 * (ab (fQ x) * κ)+4 * (κ * κ)≤μ * μ * (1 / 1000):=fun x hx=>by
  have hx1:=n7 x (List.mem_cons_of_mem _ hx)
  rw [hμ] at hx1 κs
  have x0:=ab_0 (fQ x)
  have μ0:0≤μ:=by rw [← hμ];exact Rat.le_of_lt n1
  have a1:=Rat.mul_nonneg (show 0≤μ - 17592186044416 * κ by grind) x0
  have a2:=Rat.mul_nonneg (show 0≤1000001 * μ - 1000000 * ab (fQ x) by grind) μ0
  have a3:=Rat.mul_nonneg (show 0≤μ - 17592186044416 * κ by grind) κ0
  have a4:=Rat.mul_nonneg (show 0≤μ - 17592186044416 * κ by grind) μ0
  have a5:=sq_nonneg μ
  have e1:ab (fQ x) * κ = κ * ab (fQ x):=Rat.mul_comm _ _
  generalize ab (fQ x) = X at *
  grind
 obtain ⟨s1',s2'⟩:=quosM_sq (fQ d) κ (μ * μ * (1 / 1000)) κ0 vs xs m4 E1
 have hLE:(xs.length:Rat) * (μ * μ * (1 / 1000))≤fQ a * fQ a+sumQ xs:=by
  have l:=le_ab (fQ (nrV (a :: xs)) * fQ (nrV (a :: xs)) - (fQ a * fQ a+sumQ xs))
  rw [hμ] at l n4
  have q:=sq_nonneg μ
  have m:=Rat.mul_nonneg (show 0≤64 - (xs.length:Rat) by grind) (show 0≤μ * μ * (1 / 1000) by grind)
  have S0:0≤fQ a * fQ a+sumQ xs:=by have:=sq_nonneg (fQ a);have:=sumQ_nonneg xs;grind
  generalize fQ a * fQ a+sumQ xs = S at *
  generalize ab (μ * μ - S) = z at *
  generalize μ * μ = M at *
  grind
 have s1:9007199254740992 * ab (sumQ vs * (fQ d * fQ d) - sumQ xs)≤5 * sumQ xs+(fQ a * fQ a+sumQ xs):=by grind
 have s2:9007199254740992 * ab (dtQ vs xs * fQ d - sumQ xs)≤2 * sumQ xs+(fQ a * fQ a+sumQ xs):=by grind
 clear s1' s2' E1
 obtain ⟨k1,k2,k3⟩:=mirror_norm3 (fQ a) (fQ b) (sumQ xs) (fQ d) (fQ t) (sumQ vs) (sumQ_nonneg xs) hsg n4' m5 m8 m9 s1
 have ht2:1000 * ab (fQ t)≤2001:=by rw [ab_pos (by grind)];grind
 have own:=mirror_own3 (fQ a) (fQ b) (sumQ xs) (fQ d) (fQ t) (dtQ vs xs) (sumQ_nonneg xs) hsg n4' m5 m8 m9 s2 ht2
 have hdl:1000000 * fQ (nrV (a :: xs))≤1000001 * ab (fQ d):=by
  have l:=le_ab (fQ d - (fQ a - fQ b));have l2:=le_ab (fQ d)
  have t:=ab_le (x:=fQ a - fQ b) (y:=ab (fQ d - (fQ a - fQ b))+ab (fQ d)) (by grind) (by grind)
  have a0:=ab_0 (fQ a)
  have m5':=m5
  rw [m6,m7] at m5' t
  clear l l2 hsg hs n7 h m3 own k1 s1 s2 n4 n4' m5 m8 m4 hl h0 hLE κs κ0 hκ hdu hlr
  generalize ab (fQ d - (fQ a - fQ b)) = z at *
  grind
 have hsz:=quosM_size (fQ d) _ κ n1 (by grind) hdl vs xs m4 (fun x hx=>n7 x (List.mem_cons_of_mem _ hx))
 refine ⟨m2,ht2,k2,k3,?_,?_,m4,m5,m6,m7,own⟩
 ·intro v hv2
  rcases List.mem_cons.1 hv2 with rfl | hv2
  ·rw [fQ_one]
   exact ⟨by decide,by unfold ab;grind⟩
  ·exact ⟨m3 v hv2,hsz v hv2⟩
 ·have e:sumQ (4607182418800017408 :: vs) = 1+sumQ vs:=by
   show fQ 4607182418800017408 * fQ 4607182418800017408+sumQ vs = _
   rw [fQ_one]
   grind
  rw [e]
  exact k1
theorem house_crudeW (a b d t:Nat) (xs vs:List Nat) (hl:(a :: xs).length≤64) (hX:∀ x ∈ a :: xs,x < 18446744073709551616∧fFin x = true∧ab (fQ x)≤p2 300) (h0:bgF 0 (a :: xs) ≠ 0) (hb:b < 18446744073709551616) (fb:fFin b = true)
  (hs:(fQ b = fQ (nrV (a :: xs))∧fQ a≤0) ∨ (fQ b = -fQ (nrV (a :: xs))∧0≤fQ a)) (hd:d = aV a (fN b)) (ht:t = dV (aV b (fN a)) b) (hv:vs = xs.map (fun x=>dV x d)) :
  fFin d = true∧fFin t = true∧1000 * ab (fQ t)≤2001∧(∀ v ∈ vs,fFin v = true∧1000 * ab (fQ v)≤1001)∧ab (fQ b)≤p2 306:=by
 obtain ⟨k,ek⟩:∃ k,eX (bgF 0 (a :: xs)) = k:=⟨_,rfl⟩
 have hT:TopV (k.natAbs+1) (a :: xs):=⟨fun x h=>⟨(hX x h).1,(hX x h).2.1⟩,.inr ⟨by rw [ek];omega,by rw [ek];omega⟩⟩
 obtain ⟨b1,b2,b3,b4,b5,b6,b7,b8,y,hy,b9,b10⟩:=top_big _ (a :: xs) hT h0
 have hM:=eX_top _ (by omega) b2 b3
 rw [ek,ab_pos (fQ_pos _ b4)] at hM
 have hy2:=(hX y hy).2.2
 rw [b9] at hy2
 have k1:k≤300:=p2_lt_of (Rat.le_trans hM.1 hy2)
 obtain ⟨_,up⟩:=topn_above _ (a :: xs) hl hT h0 (by rw [ek];omega)
 have ge:=norm_geA _ (a :: xs) hl hT h0 (by rw [ek];omega)
 rw [ek] at up
 have pk:=p2_pos k
 have M0:0 < fQ (bgF 0 (a :: xs)):=by grind
 have hμ:0 < fQ (nrV (a :: xs)):=by grind
 have hab:ab (fQ b) = fQ (nrV (a :: xs)):=by
  rcases hs with ⟨e,_⟩ | ⟨e,_⟩ <;> rw [e]
  ·exact ab_pos (Rat.le_of_lt hμ)
  ·unfold ab;grind
 have hx:∀ x ∈ a :: xs,1000000 * ab (fQ x)≤1000001 * ab (fQ b):=fun x h=>by
  have:=b7 x h
  rw [hab]
  grind
 have hD:ab (fQ a - fQ b) = ab (fQ a)+ab (fQ b):=by
  rcases hs with ⟨e,g⟩ | ⟨e,g⟩ <;> rw [e] <;> unfold ab <;> grind
 have hD2:ab (fQ b - fQ a) = ab (fQ a)+ab (fQ b):=by
  rcases hs with ⟨e,g⟩ | ⟨e,g⟩ <;> rw [e] <;> unfold ab <;> grind
 have hbu:ab (fQ b)≤p2 306:=by
  rw [hab]
  rw [ab_pos (Rat.le_of_lt hμ)] at up
  have h1:=p2_mono k1
  have h2:=p2_mono (show (-1074:Int)≤300 by decide)
  have h3:=p2_mono (show (300+1+1+1+1+1:Int)≤306 by decide)
  simp only [p2_succ] at h3
  grind
 have big:8 * p2 306≤p2 1023∧0 < p2 306:=by
  have h3:=p2_mono (show (306+1+1+1:Int)≤1023 by decide)
  simp only [p2_succ] at h3
  exact ⟨by grind,p2_pos _⟩
 obtain ⟨a1,a2,a3⟩:=hX a List.mem_cons_self
 have ha:=hx a List.mem_cons_self
 have a0:=ab_0 (fQ a)
 have bp:0 < ab (fQ b):=by rw [hab];exact hμ
 have fnb:fFin (fN b) = true:=by rw [fFin_fN _ hb];exact fb
 have fna:fFin (fN a) = true:=by rw [fFin_fN _ a1];exact a2
 have qb:=fQ_fN _ hb
 have qa:=fQ_fN _ a1
 have fd:fFin d = true:=by
  rw [hd]
  refine add_fin a (fN b) a2 fnb ?_
  rw [qb,show fQ a+-fQ b = fQ a - fQ b by grind,hD]
  grind
 have ed:9007199254740992 * ab (fQ d - (fQ a - fQ b))≤ab (fQ a - fQ b):=by
  have e:=add_err a (fN b) a2 fnb (by rw [← hd];exact fd)
  rw [qb,show fQ a+-fQ b = fQ a - fQ b by grind,← hd] at e
  exact e
 have hdl:1000000 * ab (fQ b)≤1000001 * ab (fQ d):=by
  have l:=le_ab (fQ d - (fQ a - fQ b));have l2:=le_ab (fQ d)
  have tt:=ab_le (x:=fQ a - fQ b) (y:=ab (fQ d - (fQ a - fQ b))+ab (fQ d)) (by grind) (by grind)
  rw [hD] at ed tt
  clear l l2
  generalize ab (fQ d - (fQ a - fQ b)) = z at *
  clear hs hD hD2 hx hX up ge
  grind
 have fs:fFin (aV b (fN a)) = true:=by
  refine add_fin b (fN a) fb fna ?_
  rw [qa,show fQ b+-fQ a = fQ b - fQ a by grind,hD2]
  grind
 have esz:1000000 * ab (fQ (aV b (fN a)))≤2000002 * ab (fQ b):=by
  have e:=add_err b (fN a) fb fna fs
  rw [qa,show fQ b+-fQ a = fQ b - fQ a by grind] at e
  have l:=le_ab (fQ (aV b (fN a)) - (fQ b - fQ a));have l2:=le_ab (fQ b - fQ a)
  have tt:=ab_le (x:=fQ (aV b (fN a))) (y:=ab (fQ (aV b (fN a)) - (fQ b - fQ a))+ab (fQ b - fQ a)) (by grind) (by grind)
  rw [hD2] at e tt
  clear l l2
  generalize ab (fQ (aV b (fN a)) - (fQ b - fQ a)) = z at *
  clear hs hD hD2 hx hX up ge
  grind
 obtain ⟨t1,t2⟩:=div_size (aV b (fN a)) b (2000002 / 1000000) (aV_lt _ _ hb (fN_lt _ a1)) hb fs fb bp (by grind) (by grind) (by grind)
 rw [← ht] at t1 t2
 refine ⟨fd,t1,by grind,fun v hvm=>?_,hbu⟩
 rw [hv] at hvm
 obtain ⟨x,hxm,rfl⟩:=List.mem_map.1 hvm
 obtain ⟨x1,x2,_⟩:=hX x (List.mem_cons_of_mem _ hxm)
 have hx3:=hx x (List.mem_cons_of_mem _ hxm)
 have dl:d < 18446744073709551616:=by rw [hd];exact aV_lt _ _ a1 (fN_lt _ hb)
 obtain ⟨v1,v2⟩:=div_size x d (1000003 / 1000000) x1 dl x2 fd (by grind) (by grind) (by grind) (by grind)
 exact ⟨v1,by grind⟩
end Go.Proofs.YtdhmglmccafbnaaGreatDoor
namespace Go.Proofs.YtdhmglmccafbnaaGreatDoor
open Go.RowKit
def Small (Z:Rat) (xs:List Nat):Prop:=∀ x ∈ xs,x < 18446744073709551616∧fFin x = true∧ab (fQ x)≤Z
theorem Small.mono {Z Y:Rat} {xs:List Nat} (h:Small Z xs) (hz:Z≤Y):Small Y xs:=fun x hx=>⟨(h x hx).1,(h x hx).2.1,Rat.le_trans (h x hx).2.2 hz⟩
theorem Small.drop {Z:Rat} {xs:List Nat} (h:Small Z xs) (k:Nat):Small Z (xs.drop k):=fun x hx=>h x (List.mem_of_mem_drop hx)
theorem p2_two (e:Int):p2 (e+e) = p2 e * p2 e:=p2_add e e
theorem p2_upW (e:Int) (k:Nat):p2 (e+k) = ((2 ^ k:Nat):Rat) * p2 e:=by rw [p2_add,p2_nat,Rat.mul_comm]
theorem nr_nought {xs:List Nat} (h0:bgF 0 xs = 0):nrV xs = 0:=by unfold nrV;rw [if_pos (.inl h0)];exact h0
theorem sum_nought {xs:List Nat} (h:∀ x ∈ xs,fQ x = 0):sumQ xs = 0:=by
 induction xs with
 | nil=>rfl
 | cons x xs ih =>
  show fQ x * fQ x+sumQ xs = 0
  rw [h x List.mem_cons_self,ih (fun y hy=>h y (List.mem_cons_of_mem _ hy))]
  grind
theorem nr_sq (xs:List Nat) (hl:xs.length≤6) (hx:Small (p2 300) xs) :
  fFin (nrV xs) = true∧0≤fQ (nrV xs)∧9007199254740992 * ab (fQ (nrV xs) * fQ (nrV xs) - sumQ xs)≤135 * sumQ xs+p2 (-1700)∧∀ x ∈ xs,1000 * ab (fQ x)≤1001 * fQ (nrV xs):=by
 have P0:=p2_pos (-1700)
 have hl64:xs.length≤64:=by omega
 by_cases h0:bgF 0 xs = 0
 ·have e:=nr_nought h0
  have z:=bg_0 xs (fun x h=>(hx x h).2.1) h0
  rw [e,fQ_0,sum_nought z]
  refine ⟨by decide,Rat.le_refl,?_,fun x h=>?_⟩
  ·have:(0:Rat) * 0 - 0 = 0:=by grind
   rw [this]
   unfold ab
   grind
  ·rw [z x h]
   unfold ab
   grind
 ·obtain ⟨k,ek⟩:∃ k,eX (bgF 0 xs) = k:=⟨_,rfl⟩
  have hT:TopV (k.natAbs+1) xs:=⟨fun x h=>⟨(hx x h).1,(hx x h).2.1⟩,.inr ⟨by rw [ek];omega,by rw [ek];omega⟩⟩
  obtain ⟨b1,b2,b3,b4,b5,b6,b7,b8,y,hy,b9,b10⟩:=top_big _ xs hT h0
  have hM:=eX_top _ (by omega) b2 b3
  rw [ek,ab_pos (fQ_pos _ b4)] at hM
  have hy2:=(hx y hy).2.2
  rw [b9] at hy2
  have k1:k≤300:=p2_lt_of (Rat.le_trans hM.1 hy2)
  obtain ⟨nf,up⟩:=topn_above _ xs hl64 hT h0 (by rw [ek];omega)
  have ge:=norm_geA _ xs hl64 hT h0 (by rw [ek];omega)
  rw [ek] at up
  have pk:=p2_pos k
  have hμ:0 < fQ (nrV xs):=by grind
  refine ⟨nf,Rat.le_of_lt hμ,?_,fun x h=>by have:=b7 x h;grind⟩
  rcases Int.lt_or_le k (-899) with g | g
  ·-- tiny
   rw [ab_pos (Rat.le_of_lt hμ)] at up
   have hk:=p2_mono (show k≤-900 by omega)
   have q1:p2 (-1074)≤p2 (-900):=p2_mono (by decide)
   have e1:p2 (-1700) = 1267650600228229401496703205376 * (p2 (-900) * p2 (-900)):=by
    rw [← p2_two,show (-1700:Int) = (-900+-900)+((100:Nat):Int) by rfl,p2_upW]
    rfl
   have Q0:=p2_pos (-900)
   have hν:fQ (nrV xs)≤18 * p2 (-900):=by grind
   have hS:sumQ xs≤6 * (2 * p2 (-900) * (2 * p2 (-900))):=by
    have h1:=sum_len (2 * p2 (-900)) xs (fun x h=>by have:=b7 x h;rw [p2_succ] at hM;grind)
    have hl2:(xs.length:Rat)≤6:=Rat.natCast_le_natCast.2 hl
    have:=Rat.mul_nonneg (show 0≤6 - (xs.length:Rat) by grind) (sq_nonneg (2 * p2 (-900)))
    grind
   have S0:=sumQ_nonneg xs
   have hνν:fQ (nrV xs) * fQ (nrV xs)≤324 * (p2 (-900) * p2 (-900)):=by
    have:=Rat.mul_nonneg (show 0≤18 * p2 (-900) - fQ (nrV xs) by grind) (show 0≤18 * p2 (-900)+fQ (nrV xs) by grind)
    grind
   have N0:=sq_nonneg (fQ (nrV xs))
   have R0:=sq_nonneg (p2 (-900))
   rw [e1]
   have e2:6 * (2 * p2 (-900) * (2 * p2 (-900))) = 24 * (p2 (-900) * p2 (-900)):=by grind
   rw [e2] at hS
   generalize fQ (nrV xs) * fQ (nrV xs) = NN at *
   generalize p2 (-900) * p2 (-900) = RR at *
   generalize sumQ xs = SS at *
   have:=ab_le (x:=NN - SS) (y:=348 * RR) (by grind) (by grind)
   grind
  ·have hT9:TopV 900 xs:=⟨hT.1,.inr ⟨by rw [ek];omega,by rw [ek];omega⟩⟩
   obtain ⟨_,_,_,n4⟩:=top_right2 900 (by decide) xs hl64 hT9 h0
   grind
theorem mr_crude (X:List Nat) (hl:X.length≤6) (hX:Small (p2 300) X) :
  mrK X = true∧fFin (mrT X) = true∧1000 * ab (fQ (mrT X))≤2001∧(∀ v ∈ mrV X,fFin v = true∧1000 * ab (fQ v)≤1001)∧(X ≠ []→(fQ (mrB X) * fQ (mrB X) = fQ (nrV X) * fQ (nrV X) ∨ fQ (mrB X) * fQ (mrB X) = sumQ X))∧fFin (mrB X) = true:=by
 match X,hl,hX with
 | [],_,_=>exact ⟨rfl,by decide,by rw [show mrT [] = 0 from rfl,fQ_0];unfold ab;grind,(fun v hv=>by cases hv),fun h=>absurd rfl h,by decide⟩
 | a :: xs,hl,hX =>
  obtain ⟨nf,n0,n1,n2⟩:=nr_sq (a :: xs) hl hX
  cases hn:ngt xs with
  | true =>
   have e1:mrT (a :: xs) = 0:=if_pos hn
   have e2:mrB (a :: xs) = a:=if_pos hn
   have e3:mrK (a :: xs) = true:=by show (ngt xs || _) = true;rw [hn];rfl
   rw [e1,e2,e3]
   refine ⟨rfl,by decide,by rw [fQ_0];unfold ab;grind,fun v hv=>?_,fun _=>.inr ?_,(hX a List.mem_cons_self).2.1⟩
   ·rcases List.mem_cons.1 hv with rfl | hv
    ·rw [fQ_one];exact ⟨by decide,by unfold ab;grind⟩
    ·obtain ⟨x,_,rfl⟩:=List.mem_map.1 hv
     rw [if_pos hn,fQ_0]
     exact ⟨by decide,by unfold ab;grind⟩
   ·show _ = fQ a * fQ a+sumQ xs
    rw [ngt_sum hn];grind
  | false =>
   have h0:bgF 0 (a :: xs) ≠ 0:=by
    intro e
    have k:=bg_0 (a :: xs) (fun x h=>(hX x h).2.1) e
    have:ngt xs = true:=List.all_eq_true.2 (fun x hx=>decide_eq_true (fK_0_of (hX x (List.mem_cons_of_mem _ hx)).1 (hX x (List.mem_cons_of_mem _ hx)).2.1 (k x (List.mem_cons_of_mem _ hx))))
    rw [this] at hn
    cases hn
   have nl:=nrV_lt (a :: xs)
   obtain ⟨s1,s2⟩:=ld_sign a xs
   have key:fFin (hmB a xs) = true∧((fQ (hmB a xs) = fQ (nrV (a :: xs))∧fQ a≤0) ∨ (fQ (hmB a xs) = -fQ (nrV (a :: xs))∧0≤fQ a)):=by
    unfold hmB
    by_cases e:ldS (a :: xs) = true
    ·rw [if_pos e];exact ⟨nf,.inl ⟨rfl,s1 e⟩⟩
    ·rw [if_neg e]
     exact ⟨(fFin_fN _ nl).trans nf,.inr ⟨fQ_fN _ nl,s2 (by simpa using e)⟩⟩
   obtain ⟨k1,k3⟩:=key
   obtain ⟨c1,c2,c3,c4,_⟩:=house_crudeW a (hmB a xs) (hmD a xs) (dV (aV (hmB a xs) (fN a)) (hmB a xs)) xs (xs.map (fun x=>dV x (hmD a xs))) (by omega) hX h0 (hmB_lt a xs) k1 k3 rfl rfl rfl
   have hn':¬ ngt xs = true:=by rw [hn];decide
   have e1:mrT (a :: xs) = dV (aV (hmB a xs) (fN a)) (hmB a xs):=if_neg hn'
   have e2:mrB (a :: xs) = hmB a xs:=if_neg hn'
   have e3:mrK (a :: xs) = true:=by show (ngt xs || (fFin (hmB a xs) && fFin (hmD a xs))) = true;rw [k1,c1,Bool.and_self,Bool.or_true]
   rw [e1,e2,e3]
   refine ⟨rfl,c2,c3,fun v hv=>?_,fun _=>.inl ?_,k1⟩
   ·rcases List.mem_cons.1 hv with rfl | hv
    ·rw [fQ_one];exact ⟨by decide,by unfold ab;grind⟩
    ·obtain ⟨x,hx,rfl⟩:=List.mem_map.1 hv
     rw [if_neg hn']
     exact c4 _ (List.mem_map.2 ⟨x,hx,rfl⟩)
   ·rcases k3 with ⟨e,_⟩ | ⟨e,_⟩ <;> rw [e] <;> grind
end Go.Proofs.YtdhmglmccafbnaaGreatDoor
namespace Go.Proofs.YtdhmglmccafbnaaGreatDoor
open Go.RowKit
theorem steps_snoc (n:Nat) (δ:Rat) (m:(Nat→Rat) × Rat):∀ (ms:List ((Nat→Rat) × Rat)) (y u z:Nat→Rat),Steps n δ ms y u→(∀ a,Bd n u a→Bd n (fun i=>z i+(-1) * mir n m.1 m.2 u i) (δ * a))→Steps n δ (ms ++ [m]) y z:=by
 intro ms
 induction ms with
 | nil =>
  intro y u z h1 h2
  have h1':∀ i,i < n→y i = u i:=h1
  refine ⟨z,fun a ha=>?_,fun i _=>rfl⟩
  refine (h2 a (ha.congr h1')).congr (fun i hi=>?_)
  rw [mir_congr h1' i hi]
 | cons p ms ih =>
  intro y u z h1 h2
  obtain ⟨w,g1,g2⟩:=h1
  exact ⟨w,g1,ih w u z g2 h2⟩
theorem steps_end (n:Nat) (δ:Rat):∀ (ms:List ((Nat→Rat) × Rat)) (y u z:Nat→Rat),Steps n δ ms y u→(∀ i,i < n→u i = z i)→Steps n δ ms y z:=by
 intro ms
 induction ms with
 | nil=>intro y u z h1 h2 i hi;rw [h1 i hi,h2 i hi]
 | cons p ms ih =>
  intro y u z h1 h2
  obtain ⟨w,g1,g2⟩:=h1
  exact ⟨w,g1,ih w u z g2 h2⟩
theorem run_append (n:Nat):∀ (ms ns:List ((Nat→Rat) × Rat)) (y:Nat→Rat),runM n (ms ++ ns) y = runM n ns (runM n ms y):=by
 intro ms
 induction ms with
 | nil=>intro ns y;rfl
 | cons m ms ih=>intro ns y;exact ih ns _
theorem run_reverse (n:Nat):∀ (ms:List ((Nat→Rat) × Rat)) (y:Nat→Rat),runM n ms.reverse y = bakM n ms y:=by
 intro ms
 induction ms with
 | nil=>intro y;rfl
 | cons m ms ih =>
  intro y
  rw [List.reverse_cons,run_append,ih]
  rfl
theorem nat_root (m:Nat):∃ s,s * s≤m∧m < (s+1) * (s+1):=by
 induction m with
 | zero=>exact ⟨0,by omega,by omega⟩
 | succ m ih =>
  obtain ⟨s,h1,h2⟩:=ih
  by_cases h:(s+1) * (s+1)≤m+1
  ·refine ⟨s+1,h,?_⟩
   have e:(s+1+1) * (s+1+1) = (s+1) * (s+1)+2 * (s+1)+1:=by grind
   omega
  ·exact ⟨s,by omega,by omega⟩
theorem root_near (Y:Rat) (h:0 < Y):∃ a:Rat,0≤a∧Y≤a * a∧a * a≤4 * Y:=by
 obtain ⟨p,q,q0,p0,e⟩:∃ p q:Nat,0 < q∧0 < p∧Y * (q:Rat) = (p:Rat):=by
  have hn:0 < Y.num:=by
   have k1:=Rat.num_nonneg.2 (Rat.le_of_lt h)
   have k2:Y.num ≠ 0:=fun e=>by have:=Rat.num_eq_zero.1 e;grind
   omega
  refine ⟨Y.num.toNat,Y.den,Y.den_pos,by omega,?_⟩
  have e1:((Y.num.toNat:Nat):Rat) = ((Y.num:Int):Rat):=by
   have:((Y.num.toNat:Nat):Int) = Y.num:=by omega
   rw [← this]
   rfl
  rw [e1]
  have k:=Rat.mkRat_self Y
  have k2:=Rat.mkRat_eq_div Y.num Y.den
  rw [k] at k2
  have hd:((Y.den:Nat):Rat) ≠ 0:=fun e=>by
   have:=Rat.natCast_pos.2 Y.den_pos
   grind
  have k3:Y * (Y.den:Rat) = (Y.num:Rat) / (Y.den:Rat) * (Y.den:Rat):=congrArg (· * (Y.den:Rat)) k2
  rw [k3]
  exact Rat.div_mul_cancel hd
 obtain ⟨s,h1,h2⟩:=nat_root (p * q)
 have hq:0 < (q:Rat):=Rat.natCast_pos.2 q0
 have s1:1≤s:=by
  rcases Nat.eq_zero_or_pos s with g | g
  ·subst g
   have:1≤p * q:=Nat.mul_pos p0 q0
   omega
  ·exact g
 have h3:(s+1) * (s+1)≤4 * (s * s):=by
  have:s≤s * s:=Nat.le_mul_self s
  have e:(s+1) * (s+1) = s * s+2 * s+1:=by grind
  omega
 have c1:((p:Nat):Rat) * q≤((s:Rat)+1) * (s+1):=by
  have k:((p * q:Nat):Rat)≤(((s+1) * (s+1):Nat):Rat):=Rat.natCast_le_natCast.2 (by omega)
  rw [Rat.natCast_mul,Rat.natCast_mul,Rat.natCast_add] at k
  exact k
 have c2:((s:Rat)+1) * (s+1)≤4 * ((p:Rat) * q):=by
  have k:(((s+1) * (s+1):Nat):Rat)≤((4 * (p * q):Nat):Rat):=Rat.natCast_le_natCast.2 (by omega)
  rw [Rat.natCast_mul,Rat.natCast_mul,Rat.natCast_mul,Rat.natCast_add] at k
  exact k
 obtain ⟨a,ha⟩:∃ a:Rat,a * q = (s:Rat)+1:=⟨((s:Rat)+1) / q,Rat.div_mul_cancel (by grind)⟩
 have hs0:(0:Rat)≤(s:Rat):=Rat.natCast_nonneg
 have a0:0≤a:=by
  rcases Rat.le_total (a:=0) (b:=a) with g | g
  ·exact g
  ·exfalso
   have:=Rat.mul_le_mul_of_nonneg_left g (Rat.le_of_lt hq)
   grind
 have qq:=Rat.mul_pos hq hq
 have e1:(a * a) * ((q:Rat) * q) = ((s:Rat)+1) * (s+1):=by rw [← ha];grind
 have e2:Y * ((q:Rat) * q) = (p:Rat) * q:=by rw [← e];grind
 refine ⟨a,a0,?_,?_⟩
 ·refine Rat.le_of_mul_le_mul_right (c:=(q:Rat) * q) ?_ qq
  rw [e1,e2]
  exact c1
 ·refine Rat.le_of_mul_le_mul_right (c:=(q:Rat) * q) ?_ qq
  rw [e1,show 4 * Y * ((q:Rat) * q) = 4 * (Y * ((q:Rat) * q)) by grind,e2]
  exact c2
theorem Mir.sq {n:Nat} {v:Nat→Rat} {t ε:Rat} (h:Mir n v t ε) (y:Nat→Rat):ab (dt n (mir n v t y) (mir n v t y) - dt n y y)≤12 * (ε * dt n y y):=by
 have Y0:=dt_sq n y
 rw [mir_dot]
 rw [show dt n y y+t * (t * dt n v v - 2) * (dt n v y * dt n v y) - dt n y y = t * (t * dt n v v - 2) * (dt n v y * dt n v y) by grind]
 rcases Rat.le_iff_lt_or_eq.1 Y0 with g | g
 ·obtain ⟨a,a0,a1,a2⟩:=root_near _ g
  have k:=h.near (y:=y) (z:=y) (a:=a) (b:=a) ⟨a0,a1⟩ ⟨a0,a1⟩
  have m:=Rat.mul_le_mul_of_nonneg_left a2 h.eps
  grind
 ·have k:=h.near (y:=y) (z:=y) (a:=0) (b:=0) ⟨by grind,by rw [← g];grind⟩ ⟨by grind,by rw [← g];grind⟩
  rw [← g]
  grind
theorem step_low {n:Nat} {v:Nat→Rat} {t ε δ:Rat} {y u:Nat→Rat} (h:Mir n v t ε) (hε:1000 * ε≤1) (hδ0:0≤δ) (hδ:1000 * δ≤1) (hs:∀ a,Bd n y a→Bd n (fun i=>u i+(-1) * mir n v t y i) (δ * a)) (b:Rat) (hb:Bd n u b):Bd n y (2 * b):=by
 have b0:=hb.1
 have Y0:=dt_sq n y
 refine ⟨by grind,?_⟩
 rcases Rat.le_iff_lt_or_eq.1 Y0 with g | g
 ·obtain ⟨a,a0,a1,a2⟩:=root_near _ g
  have he:=hs a ⟨a0,a1⟩
  have hm:Bd n (mir n v t y) (b+ab (-1) * (δ * a)):=(hb.add (he.mul (-1))).congr (fun i _=>by grind)
  have e1:ab (-1:Rat) = 1:=by unfold ab;grind
  rw [e1,Rat.one_mul] at hm
  have k:=hm.2
  have q:=h.sq y
  have l:=le_ab (dt n (mir n v t y) (mir n v t y) - dt n y y)
  have d0:=Rat.mul_nonneg hδ0 a0
  have s1:=sq_nonneg (b - δ * a)
  have m1:=Rat.mul_nonneg (Rat.mul_nonneg hδ0 (show 0≤1 - 1000 * δ by grind)) (sq_nonneg a)
  have m2:=Rat.mul_nonneg (show 0≤1 - 1000 * δ by grind) (sq_nonneg a)
  have m3:=Rat.mul_nonneg (show 0≤1 - 1000 * ε by grind) Y0
  have m4:=sq_nonneg b
  have e2:(b - δ * a) * (b - δ * a) = b * b - 2 * (b * (δ * a))+δ * a * (δ * a):=by grind
  have e3:(b+δ * a) * (b+δ * a) = b * b+2 * (b * (δ * a))+δ * a * (δ * a):=by grind
  have e4:δ * (1 - 1000 * δ) * (a * a) = δ * (a * a) - 1000 * (δ * a * (δ * a)):=by grind
  have e5:(1 - 1000 * δ) * (a * a) = a * a - 1000 * (δ * (a * a)):=by grind
  have e6:(1 - 1000 * ε) * dt n y y = dt n y y - 1000 * (ε * dt n y y):=by grind
  rw [e2] at s1
  rw [e3] at k
  rw [e4] at m1
  rw [e5] at m2
  rw [e6] at m3
  have e7:2 * b * (2 * b) = 4 * (b * b):=by grind
  rw [e7]
  generalize δ * a * (δ * a) = z1 at *
  generalize b * (δ * a) = z2 at *
  generalize δ * (a * a) = z3 at *
  generalize ε * dt n y y = z4 at *
  generalize ab (dt n (mir n v t y) (mir n v t y) - dt n y y) = z5 at *
  generalize dt n (mir n v t y) (mir n v t y) = z6 at *
  generalize dt n y y = Y at *
  generalize a * a = A at *
  generalize b * b = B at *
  clear e2 e3 e4 e5 e6 e7 hm he hs hb h
  grind
 ·rw [← g]
  have:=sq_nonneg b
  grind
theorem steps_low {n:Nat} {ε δ:Rat} (hε:1000 * ε≤1) (hδ0:0≤δ) (hδ:1000 * δ≤1):∀ (ms:List ((Nat→Rat) × Rat)) (y z:Nat→Rat) (b:Rat),Mirs n ε ms→Steps n δ ms y z→Bd n z b→Bd n y (p2 ms.length * b):=by
 intro ms
 induction ms with
 | nil =>
  intro y z b _ hs hb
  have e:p2 (([]:List ((Nat→Rat) × Rat)).length:Int) = 1:=p2_0
  rw [e,Rat.one_mul]
  exact hb.congr (fun i hi=>(hs i hi).symm)
 | cons m ms ih =>
  intro y z b hm hs hb
  obtain ⟨u,g1,g2⟩:=hs
  have k:=ih u z b (fun p hp=>hm p (List.mem_cons_of_mem _ hp)) g2 hb
  have k2:=step_low (hm m List.mem_cons_self) hε hδ0 hδ g1 _ k
  have e:p2 ((m :: ms).length:Int) = 2 * p2 (ms.length:Int):=by
   rw [List.length_cons,show ((ms.length+1:Nat):Int) = (ms.length:Int)+1 by omega,p2_succ]
  rw [e,Rat.mul_assoc]
  exact k2
theorem steps_noughts {n:Nat} {ε δ:Rat}:∀ (ms:List ((Nat→Rat) × Rat)) (y z:Nat→Rat),Mirs n ε ms→Steps n δ ms y z→(∀ i,i < n→y i = 0)→∀ i,i < n→z i = 0:=by
 intro ms
 induction ms with
 | nil=>intro y z _ hs h i hi;rw [← hs i hi,h i hi]
 | cons m ms ih =>
  intro y z hm hs h
  obtain ⟨u,g1,g2⟩:=hs
  refine ih u z (fun p hp=>hm p (List.mem_cons_of_mem _ hp)) g2 (fun i hi=>?_)
  have b:=g1 0 ((Bd.nought n).congr (fun j hj=>(h j hj).symm))
  have k:=b.at hi
  have e:mir n m.1 m.2 y i = 0:=by
   unfold mir
   rw [h i hi,show dt n m.1 y = 0 from by
    have:dt n m.1 y = dt n m.1 (fun _=>0):=dt_congr (fun _ _=>rfl) (fun j hj=>h j hj)
    rw [this]
    have e2:=dt_mul2 n 0 (fun _=>0) m.1
    have e3:dt n m.1 (fun i=>(0:Rat) * (fun _=>0) i) = dt n m.1 (fun _=>0):=dt_congr (fun _ _=>rfl) (fun _ _=>by grind)
    rw [e3] at e2
    grind]
   grind
  have l:=le_ab (u i+(-1) * mir n m.1 m.2 y i)
  have k':ab (u i+(-1) * mir n m.1 m.2 y i)≤δ * 0:=k
  rw [e] at l k'
  grind
end Go.Proofs.YtdhmglmccafbnaaGreatDoor
namespace Go.Proofs.YtdhmglmccafbnaaGreatDoor
open Go.RowKit
theorem root_fine (Y:Rat) (h:0 < Y):∃ a:Rat,0≤a∧Y≤a * a∧1000 * (a * a)≤1001 * Y:=by
 obtain ⟨p,q,q0,p0,e⟩:∃ p q:Nat,0 < q∧0 < p∧Y * (q:Rat) = (p:Rat):=by
  have hn:0 < Y.num:=by
   have k1:=Rat.num_nonneg.2 (Rat.le_of_lt h)
   have k2:Y.num ≠ 0:=fun e=>by have:=Rat.num_eq_zero.1 e;grind
   omega
  refine ⟨Y.num.toNat,Y.den,Y.den_pos,by omega,?_⟩
  have e1:((Y.num.toNat:Nat):Rat) = ((Y.num:Int):Rat):=by
   have:((Y.num.toNat:Nat):Int) = Y.num:=by omega
   rw [← this]
   rfl
  rw [e1]
  have k:=Rat.mkRat_self Y
  have k2:=Rat.mkRat_eq_div Y.num Y.den
  rw [k] at k2
  have hd:((Y.den:Nat):Rat) ≠ 0:=fun e=>by
   have:=Rat.natCast_pos.2 Y.den_pos
   grind
  have k3:Y * (Y.den:Rat) = (Y.num:Rat) / (Y.den:Rat) * (Y.den:Rat):=congrArg (· * (Y.den:Rat)) k2
  rw [k3]
  exact Rat.div_mul_cancel hd
 obtain ⟨s,h1,h2⟩:=nat_root (p * q * 9000000)
 have hq:0 < (q:Rat):=Rat.natCast_pos.2 q0
 have pq:1≤p * q:=Nat.mul_pos p0 q0
 have s1:3000≤s:=by
  rcases Nat.lt_or_ge s 3000 with g | g
  ·have:(s+1) * (s+1)≤3000 * 3000:=Nat.mul_le_mul (by omega) (by omega)
   omega
  ·exact g
 have h3:1000 * ((s+1) * (s+1))≤1001 * (s * s):=by
  have k:3000 * s≤s * s:=Nat.mul_le_mul_right s s1
  have e:(s+1) * (s+1) = s * s+2 * s+1:=by grind
  omega
 have c1:((p:Nat):Rat) * q * 9000000≤((s:Rat)+1) * (s+1):=by
  have k:((p * q * 9000000:Nat):Rat)≤(((s+1) * (s+1):Nat):Rat):=Rat.natCast_le_natCast.2 (by omega)
  rw [Rat.natCast_mul,Rat.natCast_mul,Rat.natCast_mul,Rat.natCast_add] at k
  exact k
 have c2:1000 * (((s:Rat)+1) * (s+1))≤1001 * ((p:Rat) * q * 9000000):=by
  have k:((1000 * ((s+1) * (s+1)):Nat):Rat)≤((1001 * (p * q * 9000000):Nat):Rat):=Rat.natCast_le_natCast.2 (by omega)
  rw [Rat.natCast_mul,Rat.natCast_mul,Rat.natCast_mul,Rat.natCast_mul,Rat.natCast_mul,Rat.natCast_add] at k
  exact k
 obtain ⟨a,ha⟩:∃ a:Rat,a * (q * 3000) = (s:Rat)+1:=⟨((s:Rat)+1) / (q * 3000),Rat.div_mul_cancel (by grind)⟩
 have hs0:(0:Rat)≤(s:Rat):=Rat.natCast_nonneg
 have a0:0≤a:=by
  rcases Rat.le_total (a:=0) (b:=a) with g | g
  ·exact g
  ·exfalso
   have:=Rat.mul_le_mul_of_nonneg_left g (Rat.le_of_lt hq)
   grind
 have qq:0 < (q:Rat) * q * 9000000:=by have:=Rat.mul_pos hq hq;grind
 have e1:(a * a) * ((q:Rat) * q * 9000000) = ((s:Rat)+1) * (s+1):=by rw [← ha];grind
 have e2:Y * ((q:Rat) * q * 9000000) = (p:Rat) * q * 9000000:=by rw [← e];grind
 refine ⟨a,a0,?_,?_⟩
 ·refine Rat.le_of_mul_le_mul_right (c:=(q:Rat) * q * 9000000) ?_ qq
  rw [e1,e2]
  exact c1
 ·refine Rat.le_of_mul_le_mul_right (c:=(q:Rat) * q * 9000000) ?_ qq
  rw [show 1000 * (a * a) * ((q:Rat) * q * 9000000) = 1000 * ((a * a) * ((q:Rat) * q * 9000000)) by grind,e1,show 1001 * Y * ((q:Rat) * q * 9000000) = 1001 * (Y * ((q:Rat) * q * 9000000)) by grind,e2]
  exact c2
theorem mir_fix {n:Nat} {v:Nat→Rat} {t:Rat} {y:Nat→Rat} (h:dt n v y = 0) (i:Nat):mir n v t y i = y i:=by
 unfold mir
 rw [h]
 grind
theorem run_fix (n:Nat):∀ (ms:List ((Nat→Rat) × Rat)) (y:Nat→Rat),(∀ m ∈ ms,dt n m.1 y = 0)→∀ i,i < n→runM n ms y i = y i:=by
 intro ms
 induction ms with
 | nil=>intro y _ i _;rfl
 | cons m ms ih =>
  intro y h i hi
  have e:∀ i,i < n→mir n m.1 m.2 y i = y i:=fun i _=>mir_fix (h m List.mem_cons_self) i
  show runM n ms (mir n m.1 m.2 y) i = y i
  rw [run_congr n ms _ y e i hi]
  exact ih y (fun p hp=>h p (List.mem_cons_of_mem _ hp)) i hi
theorem dt_apart (n j:Nat) (vs:List Nat) (y:Nat→Rat) (h:∀ i,i < n→j≤i→y i = 0):dt n (vl j vs) y = 0:=by
 refine sm_noughts n _ (fun i hi=>?_)
 show vl j vs i * y i = 0
 rcases Nat.lt_or_ge i j with g | g
 ·unfold vl;rw [if_pos g];grind
 ·rw [h i hi g];grind
theorem cleared_err {n:Nat} {ε δ κ a:Rat} {ms ns:List ((Nat→Rat) × Rat)} {y z w:Nat→Rat} (hm:Mirs n ε (ms ++ ns)) (hs:Steps n δ ms y z) (hy:Bd n y a) (hw:Bd n (fun i=>w i+(-1) * z i) κ) (hf:∀ m ∈ ns,dt n m.1 w = 0) :
  Bd n (fun i=>w i+(-1) * runM n (ms ++ ns) y i) (gw ε ns.length * (κ+er ε δ ms.length * (δ * a))):=by
 have m1:Mirs n ε ms:=fun m h=>hm m (List.mem_append_left _ h)
 have m2:Mirs n ε ns:=fun m h=>hm m (List.mem_append_right _ h)
 have b1:=steps_err ms y z a m1 hs hy
 have b2:=hw.add b1
 have b3:=run_bd ns _ _ m2 b2
 refine b3.congr (fun i hi=>?_)
 rw [run_append]
 have e1:∀ i,i < n→(w i+(-1) * z i)+(z i+(-1) * runM n ms y i) = w i+(-1) * runM n ms y i:=fun i _=>by grind
 rw [run_congr n ns _ _ e1 i hi,run_add n ns w (fun i=>(-1) * runM n ms y i) i hi,run_mul n (-1) ns _ i hi,run_fix n ns w hf i hi]
theorem add_same (s z:Nat) (hs:s < 18446744073709551616) (fs:fFin s = true) (fz:fFin z = true) (z0:fQ z = 0) (hp:ab (fQ s) < p2 1023):fFin (aV s z) = true∧fQ (aV s z) = fQ s:=by
 have z1:fZ z = 0:=by
  unfold fQ at z0
  have hp:=p2_pos (-1074)
  rcases Int.lt_trichotomy (fZ z) 0 with g | g | g
  ·exfalso
   have k:((fZ z:Int):Rat) < 0:=Rat.intCast_lt_intCast.2 g
   have:=Rat.mul_pos (show 0 < -((fZ z:Int):Rat) by grind) hp
   grind
  ·exact g
  ·exfalso
   have k:(0:Rat) < ((fZ z:Int):Rat):=Rat.intCast_lt_intCast.2 g
   have:=Rat.mul_pos k hp
   grind
 obtain ⟨v1,v2⟩:=aV_fin s z fs fz
 have e:aZ s z = fZ s:=by unfold aZ;rw [z1];omega
 rw [e,fZ_rnd s hs fs] at v2
 refine ⟨add_fin s z fs fz (by rw [z0,Rat.add_zero];exact hp),?_⟩
 unfold fQ
 rw [v2]
end Go.Proofs.YtdhmglmccafbnaaGreatDoor
namespace Go.Proofs.YtdhmglmccafbnaaGreatDoor
open Go.RowKit
theorem sum_drop:∀ (zs:List Nat) (j:Nat),sumQ (zs.drop j)≤sumQ zs:=by
 intro zs
 induction zs with
 | nil=>intro j;rw [List.drop_nil];exact Rat.le_refl
 | cons z zs ih =>
  intro j
  cases j with
  | zero=>exact Rat.le_refl
  | succ j =>
   have i:=ih j
   have e:sumQ (z :: zs) = fQ z * fQ z+sumQ zs:=rfl
   have q:=sq_nonneg (fQ z)
   rw [List.drop_succ_cons,e]
   grind
theorem cleared_sq (j:Nat) (T us:List Nat) (u b:Nat) (hT:T.length = j) :
  dt (j+(us.length+1)) (fun i=>fc (T ++ b :: List.replicate us.length 0) i+(-1) * fc (T ++ u :: us) i) (fun i=>fc (T ++ b :: List.replicate us.length 0) i+(-1) * fc (T ++ u :: us) i) = (fQ u - fQ b) * (fQ u - fQ b)+sumQ us:=by
 unfold dt
 rw [sm_split,sm_noughts j _ (fun i hi=>by
  show (fc (T ++ b :: List.replicate us.length 0) i+(-1) * fc (T ++ u :: us) i) * (fc (T ++ b :: List.replicate us.length 0) i+(-1) * fc (T ++ u :: us) i) = 0
  rw [fc_left T _ i (by omega),fc_left T _ i (by omega)];grind),sm_shift]
 have k:∀ (L:List Nat) i,fc (T ++ L) (j+i) = fc L i:=fun L i=>by rw [← hT];exact fc_right T L i
 have z:∀ i,fc (List.replicate us.length 0) i = 0:=fun i=>by
  unfold fc
  rw [List.getD_eq_getElem?_getD,List.getElem?_replicate]
  split <;> exact fQ_0
 have e1:sm us.length (fun i=>(fc (T ++ b :: List.replicate us.length 0) (j+(i+1))+(-1) * fc (T ++ u :: us) (j+(i+1))) * (fc (T ++ b :: List.replicate us.length 0) (j+(i+1))+(-1) * fc (T ++ u :: us) (j+(i+1)))) = sumQ us:=by
  rw [← sum_fc us]
  refine sm_congr (fun i _=>?_)
  rw [k,k]
  show (fc (List.replicate us.length 0) i+(-1) * fc us i) * (fc (List.replicate us.length 0) i+(-1) * fc us i) = _
  rw [z i]
  grind
 rw [e1]
 show (0:Rat)+((fc (T ++ b :: List.replicate us.length 0) (j+0)+(-1) * fc (T ++ u :: us) (j+0)) * (fc (T ++ b :: List.replicate us.length 0) (j+0)+(-1) * fc (T ++ u :: us) (j+0))+sumQ us) = _
 have e2:fc (T ++ b :: List.replicate us.length 0) (j+0) = fQ b:=k _ 0
 have e3:fc (T ++ u :: us) (j+0) = fQ u:=k _ 0
 rw [e2,e3]
 grind
theorem qr_mirror (n j a b d t:Nat) (Ys xs vs:List Nat) (hn:Ys.length = n) (h6:n≤6) (hX:Ys.drop j = a :: xs) (hY:∀ y ∈ Ys,y < 18446744073709551616∧fFin y = true∧ab (fQ y)≤p2 100)
  (hb:b < 18446744073709551616) (fb:fFin b = true) (hlow:p2 (-101)≤ab (fQ b))
  (hs:(fQ b = fQ (nrV (a :: xs))∧fQ a≤0) ∨ (fQ b = -fQ (nrV (a :: xs))∧0≤fQ a)) (hd:d = aV a (fN b)) (ht:t = dV (aV b (fN a)) b) (hv:vs = xs.map (fun x=>dV x d)) :
  Mir n (vl j (4607182418800017408 :: vs)) (fQ t) (1 / 8796093022208)∧fFin t = true∧1000 * ab (fQ t)≤2001∧(∀ v ∈ 4607182418800017408 :: vs,fFin v = true∧1000 * ab (fQ v)≤1001)∧j+(4607182418800017408 :: vs).length = n ∧
  ∃ u us,apV (mV t (dtV 0 (4607182418800017408 :: vs) (a :: xs))) (4607182418800017408 :: vs) (a :: xs) = u :: us∧us.length = xs.length ∧
   ∀ q,Bd n (fc Ys) q→Bd n (fun i=>fc (Ys.take j ++ b :: List.replicate us.length 0) i+(-1) * fc (Ys.take j ++ u :: us) i) (2208 / 9007199254740992 * q):=by
 have hlX:(Ys.drop j).length = xs.length+1:=by rw [hX];rfl
 rw [List.length_drop] at hlX
 have hjl:j+(xs.length+1) = n:=by omega
 have hl6:(a :: xs).length≤6:=by rw [List.length_cons];omega
 have hXm:∀ x ∈ a :: xs,x < 18446744073709551616∧fFin x = true∧ab (fQ x)≤p2 100:=fun x hx=>hY x (List.mem_of_mem_drop (by rw [hX];exact hx))
 have hab:ab (fQ b) = ab (fQ (nrV (a :: xs))):=by
  rcases hs with ⟨e,_⟩ | ⟨e,_⟩ <;> rw [e]
  unfold ab;grind
 have pl:=p2_pos (-101)
 have h0:bgF 0 (a :: xs) ≠ 0:=fun e=>by
  have e2:nrV (a :: xs) = 0:=by unfold nrV;rw [if_pos (.inl e)];exact e
  rw [hab,e2,fQ_0] at hlow
  unfold ab at hlow
  grind
 have hT:=top_of (a :: xs) (by omega) hXm h0 (by rw [← hab];exact hlow)
 have b0:fK b ≠ 0:=fun e=>by
  rw [fQ_nought b e] at hlow
  unfold ab at hlow
  grind
 obtain ⟨f1,f2,f3,f4,f5,f6,f7,f8,f9,f10,f11⟩:=house_factsM a b d t xs vs (by omega) hT h0 hb fb b0 hs hd ht hv
 obtain ⟨n1,n2,n3,n4,n5,n6,n7⟩:=top_size (a :: xs) (by omega) hT h0
 have hvl:vs.length = xs.length:=by rw [hv];simp
 have hjv:j+(4607182418800017408 :: vs).length = n:=by rw [List.length_cons,hvl];exact hjl
 refine ⟨mir_of j t _ n hjv.symm f6 (by grind),f1,f2,f5,hjv,?_⟩
 obtain ⟨u,us,hu⟩:∃ u us,apV (mV t (dtV 0 (4607182418800017408 :: vs) (a :: xs))) (4607182418800017408 :: vs) (a :: xs) = u :: us:=⟨_,_,rfl⟩
 have hul:us.length = xs.length:=by
  have key:∀ (t:Nat) (vs ys:List Nat),vs.length = ys.length→(apV t vs ys).length = ys.length:=by
   intro t vs
   induction vs with
   | nil=>intro ys h;cases ys with | nil=>rfl | cons y ys=>simp at h
   | cons v vs ih =>
    intro ys h
    cases ys with
    | nil=>simp at h
    | cons y ys=>show (_ :: apV t vs ys).length = _;rw [List.length_cons,List.length_cons,ih ys (by simpa using h)]
  have k:=key (mV t (dtV 0 (4607182418800017408 :: vs) (a :: xs))) (4607182418800017408 :: vs) (a :: xs) (by rw [List.length_cons,List.length_cons,hvl])
  rw [hu,List.length_cons,List.length_cons] at k
  omega
 refine ⟨u,us,hu,hul,fun q hq=>?_⟩
 obtain ⟨o1,o2,o3⟩:=house_ownM a b d t u xs vs us hl6 hT h0 hb fb b0 hs hd ht hv hu.symm (by rw [hul];simp only [List.length_cons] at hl6;omega)
 have q0:=hq.1
 have q1:=hq.2
 have tl:(Ys.take j).length = j:=by rw [List.length_take];omega
 have hsq:=cleared_sq j (Ys.take j) us u b tl
 rw [hul,hjl,← hul] at hsq
 refine ⟨by grind,?_⟩
 rw [hsq]
 rw [← hn,sum_fc] at q1
 have S1:=sum_drop Ys j
 rw [hX] at S1
 have eb:fQ b * fQ b = fQ (nrV (a :: xs)) * fQ (nrV (a :: xs)):=by
  rcases hs with ⟨e,_⟩ | ⟨e,_⟩ <;> rw [e] <;> grind
 rw [← eb] at n4
 have l:=le_ab (fQ b * fQ b - sumQ (a :: xs))
 have S0:=sumQ_nonneg (a :: xs)
 have k:100000 * (fQ b * fQ b)≤100001 * (q * q):=by
  generalize ab (fQ b * fQ b - sumQ (a :: xs)) = z at *
  generalize sumQ (a :: xs) = S at *
  generalize fQ b * fQ b = B at *
  generalize q * q = Q at *
  clear hs hsq o1 o2 f11 f9 f10 f8 hv hu
  grind
 have e:2208 / 9007199254740992 * q * (2208 / 9007199254740992 * q) = 4875264 / 81129638414606681695789005144064 * (q * q):=by grind
 rw [e]
 have Q0:=sq_nonneg q
 generalize fQ b * fQ b = B at *
 generalize q * q = Q at *
 generalize (fQ u - fQ b) * (fQ u - fQ b)+sumQ us = D at *
 clear hs hsq f11 f9 f10 f8 hv hu n4 l S0 S1 q1 n7 n5 n6
 grind
end Go.Proofs.YtdhmglmccafbnaaGreatDoor
