/- Part 32 of the texts. -/
import Derived.Test.YtnnfjeieennffaaGreatDoorPartf31
namespace Go.Proofs.YtnnfjeieennffaaGreatDoor
open Go.RowKit
theorem quosM_of (d:Nat) (hd:d < 18446744073709551616) (fd:fFin d = true) (d0:fK d ≠ 0):∀ (xs:List Nat),(∀ x ∈ xs,x < 18446744073709551616∧fFin x = true∧ab (fQ x)≤1024 * ab (fQ d)) →
  quosM (fQ d) (18014398509481984 * (p2 (-1075) * ab (fQ d))) (xs.map (fun x=>dV x d)) xs∧∀ v ∈ xs.map (fun x=>dV x d),fFin v = true:=by
 have K0:0≤p2 (-1075) * ab (fQ d):=Rat.mul_nonneg (Rat.le_of_lt (p2_pos _)) (ab_0 _)
 intro xs
 induction xs with
 | nil=>intro _;exact ⟨trivial,fun v hv=>(by cases hv)⟩
 | cons x xs ih =>
  intro h
  obtain ⟨i1,i2⟩:=ih (fun y hy=>h y (List.mem_cons_of_mem _ hy))
  obtain ⟨h1,h2,h4⟩:=h x List.mem_cons_self
  have main:fFin (dV x d) = true∧9007199254740992 * ab (fQ (dV x d) * fQ d - fQ x)≤2 * ab (fQ x)+18014398509481984 * (p2 (-1075) * ab (fQ d)):=by
   by_cases x0:fK x = 0
   ·obtain ⟨c1,c2⟩:=fin_kind fd
    have e:dV x d = wrd (fS x ^^ fS d) 0:=by
     unfold dV
     rw [if_neg (by omega),if_neg (by omega),if_neg (by omega),if_pos (.inr x0)]
    have k0:fK (wrd (fS x ^^ fS d) 0) = 0:=(fK_zero _).2 (fR_wrd _ _ (by decide))
    have f0:fFin (wrd (fS x ^^ fS d) 0) = true:=(fK_rungs _).2.2.2 (by rw [fR_wrd _ _ (by decide)];decide)
    rw [e,fQ_nought _ k0,fQ_nought x x0,Rat.zero_mul]
    refine ⟨f0,?_⟩
    generalize p2 (-1075) * ab (fQ d) = K at *
    unfold ab
    grind
   ·have hf:=div_fin x d h1 hd h2 fd x0 d0 h4
    refine ⟨hf,?_⟩
    have a0:=ab_0 (fQ x)
    have z0:=ab_0 (fQ (dV x d) * fQ d - fQ x)
    rcases div_err x d h1 hd h2 fd x0 d0 hf with e | ⟨_,e⟩
    ·generalize p2 (-1075) * ab (fQ d) = K at *
     grind
    ·generalize p2 (-1075) * ab (fQ d) = K at *
     grind
  refine ⟨?_,?_⟩
  ·show quosM (fQ d) _ (dV x d :: xs.map (fun x=>dV x d)) (x :: xs)
   unfold quosM
   exact ⟨main.2,i1⟩
  ·intro v hv
   rcases List.mem_cons.1 hv with rfl | hv
   ·exact main.1
   ·exact i2 v hv
end Go.Proofs.YtnnfjeieennffaaGreatDoor
namespace Go.Proofs.YtnnfjeieennffaaGreatDoor
open Go.RowKit
theorem quosM_size (d μ κ:Rat) (hμ:0 < μ) (hκ:κ≤μ) (hd:1000000 * μ≤1000001 * ab d):∀ (vs xs:List Nat),quosM d κ vs xs→(∀ x ∈ xs,1000000 * ab (fQ x)≤1000001 * μ)→∀ v ∈ vs,1000 * ab (fQ v)≤1001:=by
 intro vs
 induction vs with
 | nil=>intro xs _ _ v hv;cases hv
 | cons w vs ih =>
  intro xs hq hx v hv
  cases xs with
  | nil=>exact absurd hq (by unfold quosM;exact id)
  | cons x xs =>
   unfold quosM at hq
   rcases List.mem_cons.1 hv with rfl | hv
   ·have h1:=hq.1
    have h2:=hx x List.mem_cons_self
    have l1:=le_ab (fQ v * d - fQ x);have l2:=le_ab (fQ x)
    have t:=ab_le (x:=fQ v * d) (y:=ab (fQ v * d - fQ x)+ab (fQ x)) (by grind) (by grind)
    rw [ab_mul] at t
    rcases Rat.le_total (a:=1000 * ab (fQ v)) (b:=1001) with g | g
    ·exact g
    ·exfalso
     have d0:0 < ab d:=by grind
     have m:=Rat.mul_le_mul_of_nonneg_left g (Rat.le_of_lt d0)
     rw [show ab d * (1000 * ab (fQ v)) = 1000 * (ab (fQ v) * ab d) by grind] at m
     generalize ab (fQ v) * ab d = z at *
     generalize ab (fQ v * d - fQ x) = z1 at *
     clear l1 l2
     grind
   ·exact ih xs hq.2 (fun y hy=>hx y (List.mem_cons_of_mem _ hy)) v hv
end Go.Proofs.YtnnfjeieennffaaGreatDoor
namespace Go.Proofs.YtnnfjeieennffaaGreatDoor
open Go.RowKit
theorem tau_dotY (tau:Nat) (Y:Rat) (vs ys:List Nat) (hl:vs.length≤6) (ft:fFin tau = true) (ht:1000 * ab (fQ tau)≤2001) (hv:∀ v ∈ vs,fFin v = true∧1000 * ab (fQ v)≤1001) (hy:∀ y ∈ ys,fFin y = true)
  (hYs:s1Q ys≤Y) (hY:Y≤p2 900) (hη:1267650600228229401496703205376 * p2 (-1075)≤Y) :
  fFin (mV tau (dtV 0 vs ys)) = true∧100 * ab (fQ tau * dtQ vs ys)≤201 * Y∧9007199254740992 * ab (fQ (mV tau (dtV 0 vs ys)) - fQ tau * dtQ vs ys)≤39 * Y∧1000 * ab (dtQ vs ys)≤1001 * Y:=by
 have hp:=p2_pos (-1075)
 have Y1:=s1Q_0 ys
 have Y0:0≤Y:=by grind
 have big:16 * p2 900≤p2 1023∧0 < p2 900∧16 * p2 900≤p2 1000:=by
  have h1:=p2_mono (show (900+1+1+1+1:Int)≤1023 by decide)
  have h2:=p2_mono (show (900+1+1+1+1:Int)≤1000 by decide)
  simp only [p2_succ] at h1 h2
  exact ⟨by grind,p2_pos _,by grind⟩
 have hda:=da_le vs ys (fun v h=>(hv v h).2)
 have hdt:=dtQ_le vs ys
 have hd:1000 * ab (dtQ vs ys)≤1001 * Y:=by grind
 obtain ⟨W,hW⟩:∃ W,1000 * W = 1001 * Y:=⟨1001 * Y / 1000,by grind⟩
 obtain ⟨f1,e1⟩:=dot_err0 W vs ys (by omega) (by grind) (by grind) (fun v h=>(hv v h).1) hy (by grind)
 have hl2:(vs.length:Rat)≤6:=Rat.natCast_le_natCast.2 hl
 have e2:9007199254740992 * ab (fQ (dtV 0 vs ys) - dtQ vs ys)≤18 * W:=by
  have:=Rat.mul_nonneg (show 0≤6 - (vs.length:Rat) by grind) (show 0≤W by grind)
  grind
 have l1:=le_ab (fQ (dtV 0 vs ys) - dtQ vs ys);have l2:=le_ab (dtQ vs ys)
 have hw:=ab_le (x:=fQ (dtV 0 vs ys)) (y:=ab (fQ (dtV 0 vs ys) - dtQ vs ys)+ab (dtQ vs ys)) (by grind) (by grind)
 have t0:=ab_0 (fQ tau)
 have w0:=ab_0 (fQ (dtV 0 vs ys))
 have m1:=Rat.mul_le_mul_of_nonneg_left ht w0
 have m2:=Rat.mul_le_mul_of_nonneg_left ht (ab_0 (dtQ vs ys))
 have m3:=Rat.mul_le_mul_of_nonneg_left ht (ab_0 (fQ (dtV 0 vs ys) - dtQ vs ys))
 have n1:1000 * ab (fQ tau * fQ (dtV 0 vs ys))≤2001 * ab (fQ (dtV 0 vs ys)):=by rw [ab_mul];grind
 have n2:1000 * ab (fQ tau * dtQ vs ys)≤2001 * ab (dtQ vs ys):=by rw [ab_mul];grind
 have n3:1000 * ab (fQ tau * (fQ (dtV 0 vs ys) - dtQ vs ys))≤2001 * ab (fQ (dtV 0 vs ys) - dtQ vs ys):=by rw [ab_mul];grind
 obtain ⟨f2,e3⟩:=mul_err2 tau (dtV 0 vs ys) ft f1 (by grind)
 refine ⟨f2,by grind,?_,hd⟩
 have l3:=le_ab (fQ (mV tau (dtV 0 vs ys)) - fQ tau * fQ (dtV 0 vs ys));have l4:=le_ab (fQ tau * (fQ (dtV 0 vs ys) - dtQ vs ys))
 have w:fQ tau * (fQ (dtV 0 vs ys) - dtQ vs ys) = fQ tau * fQ (dtV 0 vs ys) - fQ tau * dtQ vs ys:=by grind
 rw [w] at l4 n3
 have fin:=ab_le (x:=fQ (mV tau (dtV 0 vs ys)) - fQ tau * dtQ vs ys) (y:=ab (fQ (mV tau (dtV 0 vs ys)) - fQ tau * fQ (dtV 0 vs ys))+ab (fQ tau * fQ (dtV 0 vs ys) - fQ tau * dtQ vs ys)) (by grind) (by grind)
 clear l1 l2 l3 l4 m1 m2 m3 w e1
 generalize ab (fQ (mV tau (dtV 0 vs ys)) - fQ tau * dtQ vs ys) = z0 at *
 generalize ab (fQ (mV tau (dtV 0 vs ys)) - fQ tau * fQ (dtV 0 vs ys)) = z1 at *
 generalize ab (fQ tau * fQ (dtV 0 vs ys) - fQ tau * dtQ vs ys) = z2 at *
 generalize ab (fQ (dtV 0 vs ys) - dtQ vs ys) = z3 at *
 generalize ab (fQ tau * fQ (dtV 0 vs ys)) = z4 at *
 generalize ab (fQ (dtV 0 vs ys)) = z5 at *
 generalize ab (dtQ vs ys) = z6 at *
 clear hYs Y1 hda
 generalize p2 (-1075) = η at *
 grind
theorem col_lessY (tau:Nat) (Y:Rat) (vs ys:List Nat) (hl:vs.length≤6) (hlen:vs.length = ys.length) (ft:fFin tau = true) (ht:1000 * ab (fQ tau)≤2001) (hv:∀ v ∈ vs,fFin v = true∧1000 * ab (fQ v)≤1001) (hy:∀ y ∈ ys,fFin y = true)
  (hYs:s1Q ys≤Y) (hY:Y≤p2 900) (hη:1267650600228229401496703205376 * p2 (-1075)≤Y) :
  lessQ (fQ tau * dtQ vs ys) (46 * Y) vs ys (apV (mV tau (dtV 0 vs ys)) vs ys):=by
 obtain ⟨f1,c1,c2,c3⟩:=tau_dotY tau Y vs ys hl ft ht hv hy hYs hY hη
 exact ap_all _ (fQ tau * dtQ vs ys) Y f1 hY hη c1 c2 vs ys hlen hv (fun y h=>⟨hy y h,Rat.le_trans (s1_mem ys y h) hYs⟩)
end Go.Proofs.YtnnfjeieennffaaGreatDoor
namespace Go.Proofs.YtnnfjeieennffaaGreatDoor
open Go.RowKit
def sm:Nat→(Nat→Rat)→Rat
 | 0,_=>0
 | n+1,f=>sm n f+f n
theorem sm_add (n:Nat) (f g:Nat→Rat):sm n (fun i=>f i+g i) = sm n f+sm n g:=by
 induction n with
 | zero=>show (0:Rat) = 0+0;grind
 | succ n ih=>show sm n _+(f n+g n) = sm n f+f n+(sm n g+g n);rw [ih];grind
theorem sm_mul (n:Nat) (c:Rat) (f:Nat→Rat):sm n (fun i=>c * f i) = c * sm n f:=by
 induction n with
 | zero=>show (0:Rat) = c * 0;grind
 | succ n ih=>show sm n _+c * f n = c * (sm n f+f n);rw [ih];grind
theorem sm_congr {n:Nat} {f g:Nat→Rat} (h:∀ i,i < n→f i = g i):sm n f = sm n g:=by
 induction n with
 | zero=>rfl
 | succ n ih=>show sm n f+f n = sm n g+g n;rw [ih (fun i hi=>h i (by omega)),h n (by omega)]
theorem sm_nonneg {n:Nat} {f:Nat→Rat} (h:∀ i,i < n→0≤f i):0≤sm n f:=by
 induction n with
 | zero=>exact Rat.le_refl
 | succ n ih =>
  have h1:=ih (fun i hi=>h i (by omega))
  have h2:=h n (by omega)
  show 0≤sm n f+f n
  grind
def dt (n:Nat) (x y:Nat→Rat):Rat:=sm n (fun i=>x i * y i)
theorem dt_comm (n:Nat) (x y:Nat→Rat):dt n x y = dt n y x:=sm_congr (fun _ _=>Rat.mul_comm _ _)
theorem dt_add (n:Nat) (x y z:Nat→Rat):dt n (fun i=>x i+y i) z = dt n x z+dt n y z:=by
 unfold dt
 rw [← sm_add]
 exact sm_congr (fun i _=>by grind)
theorem dt_mul (n:Nat) (c:Rat) (x z:Nat→Rat):dt n (fun i=>c * x i) z = c * dt n x z:=by
 unfold dt
 rw [← sm_mul]
 exact sm_congr (fun i _=>by grind)
theorem dt_add2 (n:Nat) (x y z:Nat→Rat):dt n z (fun i=>x i+y i) = dt n z x+dt n z y:=by
 rw [dt_comm,dt_add,dt_comm n x,dt_comm n y]
theorem dt_mul2 (n:Nat) (c:Rat) (x z:Nat→Rat):dt n z (fun i=>c * x i) = c * dt n z x:=by
 rw [dt_comm,dt_mul,dt_comm n x]
theorem dt_sq (n:Nat) (x:Nat→Rat):0≤dt n x x:=sm_nonneg (fun i _=>sq_nonneg (x i))
theorem dt_congr {n:Nat} {x y x' y':Nat→Rat} (h:∀ i,i < n→x i = x' i) (k:∀ i,i < n→y i = y' i):dt n x y = dt n x' y' :=
 sm_congr (fun i hi=>by rw [h i hi,k i hi])
theorem dt_cs (n:Nat) (x y:Nat→Rat):dt n x y * dt n x y≤dt n x x * dt n y y:=by
 induction n with
 | zero=>show (0:Rat) * 0≤0 * 0;exact Rat.le_refl
 | succ n ih =>
  have X0:=dt_sq n x
  have Y0:=dt_sq n y
  have e1:dt (n+1) x y = dt n x y+x n * y n:=rfl
  have e2:dt (n+1) x x = dt n x x+x n * x n:=rfl
  have e3:dt (n+1) y y = dt n y y+y n * y n:=rfl
  rw [e1,e2,e3]
  generalize dt n x y = S at *
  generalize dt n x x = X at *
  generalize dt n y y = Y at *
  generalize x n = a at *
  generalize y n = b at *
  have ha:=sq_nonneg a
  have hb:=sq_nonneg b
  have h1:0≤X * (b * b)+Y * (a * a):=by
   have:=Rat.mul_nonneg X0 hb
   have:=Rat.mul_nonneg Y0 ha
   grind
  have h2:(2 * S * (a * b)) * (2 * S * (a * b))≤(X * (b * b)+Y * (a * a)) * (X * (b * b)+Y * (a * a)):=by
   have k1:=Rat.mul_nonneg (show 0≤X * Y - S * S by grind) (Rat.mul_nonneg ha hb)
   have k2:=sq_nonneg (X * (b * b) - Y * (a * a))
   grind
  have h3:=le_of_sq h1 h2
  grind
def Bd (n:Nat) (x:Nat→Rat) (a:Rat):Prop:=0≤a∧dt n x x≤a * a
theorem Bd.dot {n:Nat} {x y:Nat→Rat} {a b:Rat} (hx:Bd n x a) (hy:Bd n y b):ab (dt n x y)≤a * b:=by
 have h0:=Rat.mul_nonneg hx.1 hy.1
 have c:=dt_cs n x y
 have X0:=dt_sq n x
 have k1:=Rat.mul_nonneg (show 0≤a * a - dt n x x by have:=hx.2;grind) (dt_sq n y)
 have k2:=Rat.mul_nonneg (sq_nonneg a) (show 0≤b * b - dt n y y by have:=hy.2;grind)
 have h:ab (dt n x y) * ab (dt n x y)≤(a * b) * (a * b):=by
  rw [← ab_mul,ab_pos (sq_nonneg _)]
  grind
 exact le_of_sq h0 h
theorem Bd.add {n:Nat} {x y:Nat→Rat} {a b:Rat} (hx:Bd n x a) (hy:Bd n y b):Bd n (fun i=>x i+y i) (a+b):=by
 have h1:=hx.1
 have h2:=hy.1
 refine ⟨by grind,?_⟩
 have d:=hx.dot hy
 have l:=le_ab (dt n x y)
 rw [dt_add,dt_add2,dt_add2,dt_comm n y x]
 have:=hx.2
 have:=hy.2
 grind
theorem Bd.mono {n:Nat} {x:Nat→Rat} {a b:Rat} (hx:Bd n x a) (h:a≤b):Bd n x b:=by
 have h1:=hx.1
 refine ⟨by grind,?_⟩
 have k:=Rat.mul_nonneg (show 0≤b - a by grind) (show 0≤b+a by grind)
 have:=hx.2
 grind
theorem Bd.congr {n:Nat} {x y:Nat→Rat} {a:Rat} (hx:Bd n x a) (h:∀ i,i < n→x i = y i):Bd n y a :=
 ⟨hx.1,by rw [← dt_congr h h];exact hx.2⟩
def mir (n:Nat) (v:Nat→Rat) (t:Rat) (y:Nat→Rat):Nat→Rat:=fun i=>y i+(-(t * dt n v y)) * v i
theorem mir_dot (n:Nat) (v:Nat→Rat) (t:Rat) (y z:Nat→Rat):dt n (mir n v t y) (mir n v t z) = dt n y z+t * (t * dt n v v - 2) * (dt n v y * dt n v z):=by
 unfold mir
 rw [dt_add,dt_add2,dt_add2,dt_mul,dt_mul,dt_mul2,dt_mul2,dt_comm n y v]
 grind
structure Mir (n:Nat) (v:Nat→Rat) (t ε:Rat):Prop where
 eps:0≤ε
 one:ε≤1
 two:ab (t * dt n v v - 2)≤ε
 pos:0≤t
theorem Mir.size {n:Nat} {v:Nat→Rat} {t ε:Rat} (h:Mir n v t ε):t * dt n v v≤3:=by
 have:=le_ab (t * dt n v v - 2)
 have:=h.two
 have:=h.one
 grind
theorem Mir.near {n:Nat} {v:Nat→Rat} {t ε a b:Rat} {y z:Nat→Rat} (h:Mir n v t ε) (hy:Bd n y a) (hz:Bd n z b):ab (t * (t * dt n v v - 2) * (dt n v y * dt n v z))≤3 * ε * (a * b):=by
 have c1:=dt_cs n v y
 have c2:=dt_cs n v z
 have V0:=dt_sq n v
 have hs:=h.size
 have ha:=hy.1
 have hb:=hz.1
 have hab:=Rat.mul_nonneg ha hb
 -- (v y) (v z) is at most |v|^2 a b
 have k:ab (dt n v y * dt n v z)≤dt n v v * (a * b):=by
  refine le_of_sq (Rat.mul_nonneg V0 hab) ?_
  rw [← ab_mul,ab_pos (sq_nonneg _)]
  have p1:dt n v y * dt n v y≤dt n v v * (a * a):=by
   have:=Rat.mul_nonneg V0 (show 0≤a * a - dt n y y by have:=hy.2;grind)
   grind
  have p2:dt n v z * dt n v z≤dt n v v * (b * b):=by
   have:=Rat.mul_nonneg V0 (show 0≤b * b - dt n z z by have:=hz.2;grind)
   grind
  have q1:=Rat.mul_nonneg (show 0≤dt n v v * (a * a) - dt n v y * dt n v y by grind) (sq_nonneg (dt n v z))
  have q2:=Rat.mul_nonneg (Rat.mul_nonneg V0 (sq_nonneg a)) (show 0≤dt n v v * (b * b) - dt n v z * dt n v z by grind)
  grind
 have e:ab (t * (t * dt n v v - 2) * (dt n v y * dt n v z)) = t * (ab (t * dt n v v - 2) * ab (dt n v y * dt n v z)):=by
  rw [ab_mul,ab_mul,ab_pos h.pos]
  grind
 rw [e]
 have m1:=Rat.mul_nonneg (show 0≤ε - ab (t * dt n v v - 2) by have:=h.two;grind) (ab_0 (dt n v y * dt n v z))
 have m2:=Rat.mul_nonneg h.eps (show 0≤dt n v v * (a * b) - ab (dt n v y * dt n v z) by grind)
 have m3:=Rat.mul_nonneg h.pos (show 0≤ε * (dt n v v * (a * b)) - ab (t * dt n v v - 2) * ab (dt n v y * dt n v z) by grind)
 have m4:=Rat.mul_nonneg (Rat.mul_nonneg h.eps hab) (show 0≤3 - t * dt n v v by grind)
 grind
end Go.Proofs.YtnnfjeieennffaaGreatDoor
namespace Go.Proofs.YtnnfjeieennffaaGreatDoor
open Go.RowKit
theorem Mir.bd {n:Nat} {v:Nat→Rat} {t ε a:Rat} {y:Nat→Rat} (h:Mir n v t ε) (hy:Bd n y a):Bd n (mir n v t y) ((1+2 * ε) * a):=by
 have ha:=hy.1
 have he:=h.eps
 refine ⟨Rat.mul_nonneg (by grind) ha,?_⟩
 rw [mir_dot]
 have k:=h.near hy hy
 have l:=le_ab (t * (t * dt n v v - 2) * (dt n v y * dt n v y))
 have m:=Rat.mul_nonneg he (sq_nonneg a)
 have m2:=Rat.mul_nonneg (Rat.mul_nonneg he he) (sq_nonneg a)
 have:=hy.2
 rw [show (1+2 * ε) * a * ((1+2 * ε) * a) = a * a+4 * (ε * (a * a))+4 * (ε * ε * (a * a)) by grind]
 grind
def gw (ε:Rat):Nat→Rat
 | 0=>1
 | k+1=>(1+2 * ε) * gw ε k
def bk (ε:Rat):Nat→Rat
 | 0=>0
 | k+1=>3+(1+2 * ε) * (1+2 * ε) * bk ε k
def er (ε δ:Rat):Nat→Rat
 | 0=>0
 | k+1=>gw ε k+er ε δ k * (1+2 * ε+δ)
end Go.Proofs.YtnnfjeieennffaaGreatDoor
