/- Part 31 of the texts. -/
import Derived.Test.YtlnphkioddknfaaGreatDoorPartz30
import Derived.Test.YtlnphkioddknfaaGreatDoorPartz28
namespace Go.Proofs.YtlnphkioddknfaaGreatDoor
open Go.RowKit
def apV (t:Nat):List Nat→List Nat→List Nat
 | v :: vs,y :: ys=>aV y (fN (mV t v)) :: apV t vs ys
 | _,_=>[]
end Go.Proofs.YtlnphkioddknfaaGreatDoor
namespace Go.Proofs.YtlnphkioddknfaaGreatDoor
open Go.RowKit
def sm:Nat→(Nat→Rat)→Rat
 | 0,_=>0
 | n+1,f=>sm n f+f n
def dt (n:Nat) (x y:Nat→Rat):Rat:=sm n (fun i=>x i * y i)
def Bd (n:Nat) (x:Nat→Rat) (a:Rat):Prop:=0≤a∧dt n x x≤a * a
def mir (n:Nat) (v:Nat→Rat) (t:Rat) (y:Nat→Rat):Nat→Rat:=fun i=>y i+(-(t * dt n v y)) * v i
end Go.Proofs.YtlnphkioddknfaaGreatDoor
namespace Go.Proofs.YtlnphkioddknfaaGreatDoor
open Go.RowKit
def gw (ε:Rat):Nat→Rat
 | 0=>1
 | k+1=>(1+2 * ε) * gw ε k
def Steps (n:Nat) (δ:Rat):List ((Nat→Rat) × Rat)→(Nat→Rat)→(Nat→Rat)→Prop
 | [],y,z=>∀ i,i < n→y i = z i
 | m :: ms,y,z=>∃ u:Nat→Rat,(∀ a,Bd n y a→Bd n (fun i=>u i+(-1) * mir n m.1 m.2 y i) (δ * a))∧Steps n δ ms u z
def er (ε δ:Rat):Nat→Rat
 | 0=>0
 | k+1=>gw ε k+er ε δ k * (1+2 * ε+δ)
end Go.Proofs.YtlnphkioddknfaaGreatDoor
namespace Go.Proofs.YtlnphkioddknfaaGreatDoor
def ngt (xs:List Nat):Bool:=xs.all (fun x=>decide (fK x = 0))
def ldS:List Nat→Bool
 | []=>false
 | x :: xs=>if fK x = 0 then ldS xs else fS x
def hmB (a:Nat) (xs:List Nat):Nat:=if ldS (a :: xs) = true then nrV (a :: xs) else fN (nrV (a :: xs))
def hmD (a:Nat) (xs:List Nat):Nat:=aV a (fN (hmB a xs))
def mrB:List Nat→Nat
 | []=>0
 | a :: xs=>if ngt xs = true then a else hmB a xs
def mrT:List Nat→Nat
 | []=>0
 | a :: xs=>if ngt xs = true then 0 else dV (aV (hmB a xs) (fN a)) (hmB a xs)
def mrV:List Nat→List Nat
 | []=>[]
 | a :: xs=>4607182418800017408 :: xs.map (fun x=>if ngt xs = true then 0 else dV x (hmD a xs))
def mrK:List Nat→Bool
 | []=>true
 | a :: xs=>ngt xs || (fFin (hmB a xs) && fFin (hmD a xs))
theorem toN_mxL (xs:List Nat):toN (mxL xs) = xs:=by
 unfold toN mxL
 rw [List.map_map]
 exact List.map_id'' (fun x=>by simp) xs
theorem nrV_lt (xs:List Nat):nrV xs < 18446744073709551616:=by
 have:=nmV_lt (mxL xs)
 rwa [nmV_nrV,toN_mxL] at this
theorem hmB_lt (a:Nat) (xs:List Nat):hmB a xs < 18446744073709551616:=by
 unfold hmB
 split
 ·exact nrV_lt _
 ·exact fN_lt _ (nrV_lt _)
theorem hmD_lt (a:Nat) (xs:List Nat) (ha:a < 18446744073709551616):hmD a xs < 18446744073709551616:=aV_lt _ _ ha (fN_lt _ (hmB_lt _ _))
theorem mrB_lt (xs:List Nat) (h:∀ x ∈ xs,x < 18446744073709551616):mrB xs < 18446744073709551616:=by
 match xs with
 | []=>decide
 | a :: xs =>
  show (if ngt xs = true then a else hmB a xs) < _
  split
  ·exact h a List.mem_cons_self
  ·exact hmB_lt _ _
theorem mrT_lt (xs:List Nat):mrT xs < 18446744073709551616:=by
 match xs with
 | []=>decide
 | a :: xs =>
  show (if ngt xs = true then 0 else dV (aV (hmB a xs) (fN a)) (hmB a xs)) < _
  split
  ·decide
  ·exact dV_lt _ _
theorem mrV_len (xs:List Nat):(mrV xs).length = xs.length:=by
 match xs with
 | []=>rfl
 | a :: xs=>simp [mrV]
theorem ngt_true {xs:List Nat} (h:ngt xs = true):∀ x ∈ xs,fK x = 0:=fun x hx=>of_decide_eq_true (List.all_eq_true.1 h x hx)
end Go.Proofs.YtlnphkioddknfaaGreatDoor
namespace Go.Proofs.YtlnphkioddknfaaGreatDoor
def colL (c:Nat) (S:List Nat) (i n q:Nat):List Nat:=(List.range n).map (fun j=>elM c S (i+j) q)
def apL (c:Nat) (S:List Nat) (i q:Nat) (vs:List Nat) (tau:Nat):List Nat:=apV (mV tau (dtV 0 vs (colL c S i vs.length q))) vs (colL c S i vs.length q)
def apM (r c:Nat) (S:List Nat) (i k:Nat) (vs:List Nat) (tau:Nat):List Nat:=mkM r c (fun p q=>if k≤q∧i≤p∧p < i+vs.length then (apL c S i q vs tau).getD (p - i) 0 else elM c S p q)
theorem colL_len (c:Nat) (S:List Nat) (i n q:Nat):(colL c S i n q).length = n:=by simp [colL]
theorem apM_len (r c:Nat) (S:List Nat) (i k:Nat) (vs:List Nat) (tau:Nat):(apM r c S i k vs tau).length = r * c:=mkM_len _ _ _
theorem apV_len (t:Nat):∀ (vs ys:List Nat),vs.length = ys.length→(apV t vs ys).length = vs.length:=by
 intro vs
 induction vs with
 | nil=>intro ys _;rfl
 | cons v vs ih =>
  intro ys h
  match ys with
  | []=>cases h
  | y :: ys =>
   show (apV t vs ys).length+1 = vs.length+1
   rw [ih ys (by simpa using h)]
theorem apV_at (t:Nat):∀ (vs ys:List Nat) (j:Nat),vs.length = ys.length→j < vs.length→(apV t vs ys).getD j 0 = aV (ys.getD j 0) (fN (mV t (vs.getD j 0))):=by
 intro vs
 induction vs with
 | nil=>intro ys j _ hj;exact absurd hj (Nat.not_lt_zero j)
 | cons v vs ih =>
  intro ys j h hj
  match ys with
  | []=>cases h
  | y :: ys =>
   match j with
   | 0=>rfl
   | j+1=>exact ih ys j (by simpa using h) (by simpa using hj)
theorem colL_at (c:Nat) (S:List Nat) (i n q:Nat) {j:Nat} (hj:j < n):(colL c S i n q).getD j 0 = elM c S (i+j) q:=by
 simp [colL,List.getD_eq_getElem?_getD,hj]
theorem el_ap (r c:Nat) (S:List Nat) (i k:Nat) (vs:List Nat) (tau:Nat) {p q:Nat} (hp:p < r) (hq:q < c):elM c (apM r c S i k vs tau) p q = if k≤q∧i≤p∧p < i+vs.length then (apL c S i q vs tau).getD (p - i) 0 else elM c S p q:=el_mk r c _ hp hq
theorem list_range (L:List Nat):L = (List.range L.length).map (fun j=>L.getD j 0):=by
 refine List.ext_getElem (by simp) (fun j h1 h2=>?_)
 simp [List.getD_eq_getElem?_getD,h1]
end Go.Proofs.YtlnphkioddknfaaGreatDoor
