/- Part 23 of the texts. -/
import Derived.Test.YtcbcmlaogehimaaGreatDoorPartc19
import Derived.Maps.AppendAt
import Derived.Test.YtcbcmlaogehimaaGreatDoorPartc18
import Derived.Test.YtcbcmlaogehimaaGreatDoorPartc17
import Derived.Test.YtcbcmlaogehimaaGreatDoorPartc16
import Derived.Test.YtcbcmlaogehimaaGreatDoorPartc14
import Derived.Test.YtcbcmlaogehimaaGreatDoorPartc22
import Derived.Test.YtcbcmlaogehimaaGreatDoorPartc20
import Derived.Test.YtcbcmlaogehimaaGreatDoorPartc21
import Derived.Deep.RegionLaw
import Derived.Test.YtcbcmlaogehimaaGreatDoorPartc11
import Derived.Test.YtcbcmlaogehimaaGreatDoorPartc12
import Derived.Test.YtcbcmlaogehimaaGreatDoorPartc13
import Derived.Deep.Cut
import Derived.BigQuiet
import Derived.Test.YtcbcmlaogehimaaGreatDoorPartc04
import Derived.Test.YtcbcmlaogehimaaGreatDoorPartc06
import Derived.Lib.BitFns
import Derived.Test.YtcbcmlaogehimaaGreatDoorPartc05
import Derived.Test.YtcbcmlaogehimaaGreatDoorPartc07
import Derived.Maps.Own
import Derived.Maps.OwnOps
import Derived.Maps.OwnSet
import Derived.DeepKeys4
import Derived.Test.YtcbcmlaogehimaaGreatDoorPartc08
import Derived.WalkSmall
import Derived.Test.YtcbcmlaogehimaaGreatDoorPartc01
import Derived.OwnWalk
import Derived.Test.YtcbcmlaogehimaaGreatDoorPartc02
set_option maxRecDepth 20000
namespace Go.Proofs.YtcbcmlaogehimaaGreatDoor
open Go.RowKit
structure Mr where
 ao:Option Addr
 cap:Nat
 V:List Nat
 tau:Nat
 beta:Nat
def mrAt (R:List Mr) (k:Nat):Mr:=R[k]?.getD ⟨none,0,[],0,0⟩
def AvM (g:Option Nat) (x:Mr):Prop:=x.V = [] ∨ ∃ b off,x.ao = some ⟨b,off,none⟩∧some b ≠ g
theorem AvM.new {w:World} {x:Mr} (h:BitsAt w x.ao x.cap (mxL x.V)) {g:Nat} (hg:w.heap.size≤g):AvM (some g) x:=by
 rcases h.2.2 with e | ⟨b,off,e,hb,_⟩
 ·exact .inl (by cases hV:x.V with
   | nil=>rfl
   | cons y ys=>rw [hV] at e;cases e)
 ·exact .inr ⟨b,off,e,by intro e;cases e;omega⟩
theorem bits_grownAv {w w':World} {x:Mr} {g:Option Nat} (h:BitsAt w x.ao x.cap (mxL x.V)) (ha:AvM g x) (hg:w.grownBy w' g):BitsAt w' x.ao x.cap (mxL x.V):=by
 refine ⟨h.1,h.2.1,?_⟩
 rcases h.2.2 with e | ⟨b,off,e,hb,hc⟩
 ·exact .inl e
 ·rcases ha with e' | ⟨b',off',e',hne⟩
  ·exact .inl (by rw [e'];rfl)
  ·rw [e] at e'
   simp only [Option.some.injEq,Addr.mk.injEq] at e'
   obtain ⟨rfl,rfl,_⟩:=e'
   refine .inr ⟨b,off,e,Nat.lt_of_lt_of_le hb hg.size,fun i hi=>?_⟩
   rw [World.cell?_of_block (a:=⟨b,off+i,none⟩) (hg.block b hb hne)]
   exact hc i hi
theorem ownsRow_grownM {w w':World} {base e size n:Nat} {v:Value} {xs:List Value} {g:Option Nat} (h:w.ownsRow base e size v n xs) (hg:w.grownBy w' g) (hne:∀ k,v.ownBlock = some k→some k ≠ g):w'.ownsRow base e size v n xs:=by
 refine ⟨h.1,?_⟩
 rcases h.2 with h | ⟨k,cap,cur,hv,hb,hh,hr⟩
 ·exact .inl h
 ·have hk:k < w.heap.size:=(Array.getElem?_eq_some_iff.1 hh).1
  exact .inr ⟨k,cap,cur,hv,hb,(hg.block k hk (hne k (by rw [hv];rfl))).trans hh,hr⟩
end Go.Proofs.YtcbcmlaogehimaaGreatDoor
namespace Go.Proofs.YtcbcmlaogehimaaGreatDoor
open Go.RowKit
def Mr.pair (x:Mr):List Value:=[.slice x.ao x.V.length x.cap,.int .u64 (x.tau:Nat)]
def mtCells (R:List Mr):List Value:=R.flatMap Mr.pair
theorem mtCells_get:∀ (R:List Mr) (k:Nat),k < R.length→(mtCells R)[k * 2]? = some (.slice (mrAt R k).ao (mrAt R k).V.length (mrAt R k).cap)∧(mtCells R)[k * 2+1]? = some (.int .u64 ((mrAt R k).tau:Nat))
 | x :: R,0,_=>by simp [mtCells,mrAt,Mr.pair]
 | x :: R,k+1,h=>by
  have:=mtCells_get R k (by simpa using h)
  have e:mtCells (x :: R) = .slice x.ao x.V.length x.cap :: .int .u64 (x.tau:Nat) :: mtCells R:=rfl
  rw [e,show (k+1) * 2 = k * 2+1+1 by omega]
  simpa [mrAt] using this
def OwnMt (base:Nat) (w:World) (v:Value) (R:List Mr):Prop:=w.ownsRow base 176 2 v R.length (mtCells R)∧∀ x ∈ R,BitsAt w x.ao x.cap (mxL x.V)∧AvM v.ownBlock x
theorem OwnMt.start (w:World) (base:Nat):OwnMt base w (.slice none 0 0) []:=⟨⟨by rfl,.inl ⟨rfl,rfl⟩⟩,by simp⟩
theorem OwnMt.below {base:Nat} {w w':World} {v:Value} {R:List Mr} (h:OwnMt base w v R) (hb:Below w.heap.size w w'):OwnMt base w' v R :=
 ⟨ownsRow_grownM h.1 ⟨hb.os,hb.tape,hb.output,hb.size,fun k hk _=>hb.block k hk⟩ (fun k _=>by simp:∀ k,v.ownBlock = some k→some k ≠ none),fun x hx=>⟨((h.2 x hx).1).below hb,(h.2 x hx).2⟩⟩
theorem OwnMt.lt {base:Nat} {w:World} {v:Value} {R:List Mr} (h:OwnMt base w v R):∀ k,v.ownBlock = some k→base≤k∧k < w.heap.size:=h.1.lt
theorem infoMt:(Tryz.prog.info? 176).map (fun i=>(i.zero,i.size,i.bytes)) = some (some (.agg #[.slice none 0 0,.int .u64 0]),2,32):=by kernel_rfl
theorem OwnMt.push {base:Nat} {w:World} {v:Value} {R:List Mr} (h:OwnMt base w v R) (x:Mr) (hx:BitsAt w x.ao x.cap (mxL x.V)) (ha:AvM v.ownBlock x) (hl:R.length≤1000000) (hb:base≤w.heap.size) (ty:TypeId) :
  ∃ v' w',(Builtin.append_ #[147,147] ty #[v,.slice (some ⟨w.heap.size,0,none⟩) 1 1]).run Tryz.prog (w.alloc (.cells #[.slice x.ao x.V.length x.cap,.int .u64 (x.tau:Nat)] 176)) = .ok v' w'∧OwnMt base w' v' (R ++ [x])∧Below base w w'∧(w.alloc (.cells #[.slice x.ao x.V.length x.cap,.int .u64 (x.tau:Nat)] 176)).grownBy w' v.ownBlock∧(v'.ownBlock = v.ownBlock ∨ v'.ownBlock = some (w.heap.size+1)):=by
 obtain ⟨i0,hi,hz0,hz1,hz2⟩:=info_parts infoMt
 have b1:=below_alloc9 w (.cells #[.slice x.ao x.V.length x.cap,.int .u64 (x.tau:Nat)] 176)
 have n1:=heap_alloc_new w (.cells #[.slice x.ao x.V.length x.cap,.int .u64 (x.tau:Nat)] 176)
 have s1:=size_alloc9 w (.cells #[.slice x.ao x.V.length x.cap,.int .u64 (x.tau:Nat)] 176)
 have h1:=h.below b1
 have hx1:=hx.below b1
 generalize w.alloc (.cells #[.slice x.ao x.V.length x.cap,.int .u64 (x.tau:Nat)] 176) = W at *
 obtain ⟨v',w',e1,e2,e3,e4,e5⟩:=run_append_own_at (P:=Tryz.prog) W base 147 ty 176 i0 (.agg #[.slice none 0 0,.int .u64 0]) 2 32 Tryz.underlying147 hi hz0 hz1 hz2 rfl (by decide) v R.length (mtCells R) h1.1 ⟨w.heap.size,0,none⟩ 1 1 x.pair rfl (fun j u hj=>by
   rw [show (⟨w.heap.size,0,none⟩:Addr).add j = ⟨w.heap.size,j,none⟩ from by unfold Addr.add;split <;> simp_all,cell_of_row _ w.heap.size j _ _ _ n1]
   simpa [Mr.pair] using hj) (fun u hu=>by
   simp [Mr.pair] at hu
   rcases hu with rfl | rfl <;> rfl) (by unfold maxLen;omega) (by omega) (by omega)
 ·refine ⟨v',w',e1,⟨?_,fun y hy=>?_⟩,(b1.mono hb).grown e3 (by omega) (fun g hg=>(h.1.lt g hg).1),e3,by rw [← s1];exact e5⟩
  ·rw [List.length_append,show mtCells (R ++ [x]) = mtCells R ++ x.pair by simp [mtCells]]
   exact e2
  ·have hy':BitsAt W y.ao y.cap (mxL y.V)∧AvM v.ownBlock y:=by
    rcases List.mem_append.1 hy with hy | hy
    ·exact h1.2 y hy
    ·simp at hy;subst hy;exact ⟨hx1,ha⟩
   refine ⟨bits_grownAv hy'.1 hy'.2 e3,?_⟩
   rcases e5 with e | e
   ·rw [e];exact hy'.2
   ·rw [e];exact AvM.new hy'.1 (Nat.le_refl _)
theorem OwnMt.putQ {base:Nat} {w:World} {v:Value} {R:List Mr} (h:OwnMt base w v R) {g:Nat} {x y:Int} {o:Option Addr} {n d:Nat} (hx:BoxM w g (.int .i64 x) (.int .i64 y) (.slice o n d)) (u u' u'':Value):OwnMt base (((w.setCell ⟨g,0,none⟩ u).setCell ⟨g,1,none⟩ u').setCell ⟨g,2,none⟩ u'') v R:=by
 refine ⟨⟨h.1.1,?_⟩,fun z hz=>⟨(h.2 z hz).1.putM hx u u' u'',(h.2 z hz).2⟩⟩
 rcases h.1.2 with e | ⟨k,cap,cur,hv,hk,hh,rest⟩
 ·exact .inl e
 ·have hne:k ≠ g:=by
   rintro rfl
   have e:=hh.symm.trans hx
   simp at e
  exact .inr ⟨k,cap,cur,hv,hk,(Below.heap_setCell _ ⟨g,2,none⟩ u'' k hne).trans ((Below.heap_setCell _ ⟨g,1,none⟩ u' k hne).trans ((Below.heap_setCell _ ⟨g,0,none⟩ u k hne).trans hh)),rest⟩
theorem OwnMt.slice {base:Nat} {w:World} {v:Value} {R:List Mr} (h:OwnMt base w v R):∃ lo lc,v = .slice lo R.length lc:=by
 rcases h.1.2 with ⟨e1,e2⟩ | ⟨g,cap,cur,hv,_⟩
 ·exact ⟨none,0,by rw [e1,e2]⟩
 ·exact ⟨_,_,hv⟩
theorem OwnMt.least {base b':Nat} {w:World} {v:Value} {R:List Mr} (h:OwnMt base w v R) (hb:b'≤base):OwnMt b' w v R:=by
 refine ⟨⟨h.1.1,?_⟩,h.2⟩
 rcases h.1.2 with e | ⟨k,cap,cur,hv,hk,rest⟩
 ·exact .inl e
 ·exact .inr ⟨k,cap,cur,hv,Nat.le_trans hb hk,rest⟩
theorem OwnMt.at {base:Nat} {w:World} {v:Value} {R:List Mr} (h:OwnMt base w v R) {k:Nat} (hk:k < R.length):∃ g cap,v = .slice (some ⟨g,0,none⟩) R.length cap∧base≤g∧g < w.heap.size∧w.cell? ⟨g,k * 2,none⟩ = some (.slice (mrAt R k).ao (mrAt R k).V.length (mrAt R k).cap)∧w.cell? ⟨g,k * 2+1,none⟩ = some (.int .u64 ((mrAt R k).tau:Nat))∧BitsAt w (mrAt R k).ao (mrAt R k).cap (mxL (mrAt R k).V):=by
 rcases h.1.2 with ⟨hv,h0⟩ | ⟨g,cap,cur,hv,hg,hh,hc,hm,hs,ht⟩
 ·omega
 ·obtain ⟨q1,q2⟩:=mtCells_get R k hk
  rw [← ht,List.getElem?_take] at q1 q2
  rw [if_pos (by omega)] at q1 q2
  simp only [Array.getElem?_toList] at q1 q2
  refine ⟨g,cap,hv,hg,(Array.getElem?_eq_some_iff.1 hh).1,?_,?_,(h.2 (mrAt R k) ?_).1⟩
  ·rw [cell_of_row w g _ _ _ _ hh];exact q1
  ·rw [cell_of_row w g _ _ _ _ hh];exact q2
  ·unfold mrAt
   rw [List.getElem?_eq_getElem hk]
   exact List.getElem_mem hk
end Go.Proofs.YtcbcmlaogehimaaGreatDoor
namespace Go.Proofs.YtcbcmlaogehimaaGreatDoor
open Go.RowKit
def dtV:Nat→List Nat→List Nat→Nat
 | s,x :: xs,y :: ys=>dtV (aV s (mV x y)) xs ys
 | s,_,_=>s
end Go.Proofs.YtcbcmlaogehimaaGreatDoor
namespace Go.Proofs.YtcbcmlaogehimaaGreatDoor
open Go.RowKit
def apV (t:Nat):List Nat→List Nat→List Nat
 | v :: vs,y :: ys=>aV y (fN (mV t v)) :: apV t vs ys
 | _,_=>[]
end Go.Proofs.YtcbcmlaogehimaaGreatDoor
namespace Go.Proofs.YtcbcmlaogehimaaGreatDoor
open Go.RowKit
def gw (ε:Rat):Nat→Rat
 | 0=>1
 | k+1=>(1+2 * ε) * gw ε k
def er (ε δ:Rat):Nat→Rat
 | 0=>0
 | k+1=>gw ε k+er ε δ k * (1+2 * ε+δ)
end Go.Proofs.YtcbcmlaogehimaaGreatDoor
namespace Go.Proofs.YtcbcmlaogehimaaGreatDoor
def ngt (xs:List Nat):Bool:=xs.all (fun x=>decide (fK x = 0))
def ldS:List Nat→Bool
 | []=>false
 | x :: xs=>if fK x = 0 then ldS xs else fS x
def hmB (a:Nat) (xs:List Nat):Nat:=if ldS (a :: xs) = true then nrV (a :: xs) else fN (nrV (a :: xs))
def hmD (a:Nat) (xs:List Nat):Nat:=aV a (fN (hmB a xs))
def mrB:List Nat→Nat
 | []=>0
 | a :: xs=>if ngt xs = true then a else hmB a xs
def mrT:List Nat→Nat
 | []=>0
 | a :: xs=>if ngt xs = true then 0 else dV (aV (hmB a xs) (fN a)) (hmB a xs)
def mrV:List Nat→List Nat
 | []=>[]
 | a :: xs=>4607182418800017408 :: xs.map (fun x=>if ngt xs = true then 0 else dV x (hmD a xs))
def mrK:List Nat→Bool
 | []=>true
 | a :: xs=>ngt xs || (fFin (hmB a xs) && fFin (hmD a xs))
theorem toN_mxL (xs:List Nat):toN (mxL xs) = xs:=by
 unfold toN mxL
 rw [List.map_map]
 exact List.map_id'' (fun x=>by simp) xs
theorem nrV_lt (xs:List Nat):nrV xs < 18446744073709551616:=by
 have:=nmV_lt (mxL xs)
 rwa [nmV_nrV,toN_mxL] at this
theorem hmB_lt (a:Nat) (xs:List Nat):hmB a xs < 18446744073709551616:=by
 unfold hmB
 split
 ·exact nrV_lt _
 ·exact fN_lt _ (nrV_lt _)
theorem hmD_lt (a:Nat) (xs:List Nat) (ha:a < 18446744073709551616):hmD a xs < 18446744073709551616:=aV_lt _ _ ha (fN_lt _ (hmB_lt _ _))
theorem mrB_lt (xs:List Nat) (h:∀ x ∈ xs,x < 18446744073709551616):mrB xs < 18446744073709551616:=by
 match xs with
 | []=>decide
 | a :: xs =>
  show (if ngt xs = true then a else hmB a xs) < _
  split
  ·exact h a List.mem_cons_self
  ·exact hmB_lt _ _
theorem mrT_lt (xs:List Nat):mrT xs < 18446744073709551616:=by
 match xs with
 | []=>decide
 | a :: xs =>
  show (if ngt xs = true then 0 else dV (aV (hmB a xs) (fN a)) (hmB a xs)) < _
  split
  ·decide
  ·exact dV_lt _ _
theorem mrV_len (xs:List Nat):(mrV xs).length = xs.length:=by
 match xs with
 | []=>rfl
 | a :: xs=>simp [mrV]
theorem ngt_true {xs:List Nat} (h:ngt xs = true):∀ x ∈ xs,fK x = 0:=fun x hx=>of_decide_eq_true (List.all_eq_true.1 h x hx)
end Go.Proofs.YtcbcmlaogehimaaGreatDoor
namespace Go.Proofs.YtcbcmlaogehimaaGreatDoor
def colL (c:Nat) (S:List Nat) (i n q:Nat):List Nat:=(List.range n).map (fun j=>elM c S (i+j) q)
def apL (c:Nat) (S:List Nat) (i q:Nat) (vs:List Nat) (tau:Nat):List Nat:=apV (mV tau (dtV 0 vs (colL c S i vs.length q))) vs (colL c S i vs.length q)
def apM (r c:Nat) (S:List Nat) (i k:Nat) (vs:List Nat) (tau:Nat):List Nat:=mkM r c (fun p q=>if k≤q∧i≤p∧p < i+vs.length then (apL c S i q vs tau).getD (p - i) 0 else elM c S p q)
theorem colL_len (c:Nat) (S:List Nat) (i n q:Nat):(colL c S i n q).length = n:=by simp [colL]
theorem apM_len (r c:Nat) (S:List Nat) (i k:Nat) (vs:List Nat) (tau:Nat):(apM r c S i k vs tau).length = r * c:=mkM_len _ _ _
theorem apV_len (t:Nat):∀ (vs ys:List Nat),vs.length = ys.length→(apV t vs ys).length = vs.length:=by
 intro vs
 induction vs with
 | nil=>intro ys _;rfl
 | cons v vs ih =>
  intro ys h
  match ys with
  | []=>cases h
  | y :: ys =>
   show (apV t vs ys).length+1 = vs.length+1
   rw [ih ys (by simpa using h)]
theorem apV_at (t:Nat):∀ (vs ys:List Nat) (j:Nat),vs.length = ys.length→j < vs.length→(apV t vs ys).getD j 0 = aV (ys.getD j 0) (fN (mV t (vs.getD j 0))):=by
 intro vs
 induction vs with
 | nil=>intro ys j _ hj;exact absurd hj (Nat.not_lt_zero j)
 | cons v vs ih =>
  intro ys j h hj
  match ys with
  | []=>cases h
  | y :: ys =>
   match j with
   | 0=>rfl
   | j+1=>exact ih ys j (by simpa using h) (by simpa using hj)
theorem colL_at (c:Nat) (S:List Nat) (i n q:Nat) {j:Nat} (hj:j < n):(colL c S i n q).getD j 0 = elM c S (i+j) q:=by
 simp [colL,List.getD_eq_getElem?_getD,hj]
theorem el_ap (r c:Nat) (S:List Nat) (i k:Nat) (vs:List Nat) (tau:Nat) {p q:Nat} (hp:p < r) (hq:q < c):elM c (apM r c S i k vs tau) p q = if k≤q∧i≤p∧p < i+vs.length then (apL c S i q vs tau).getD (p - i) 0 else elM c S p q:=el_mk r c _ hp hq
theorem list_range (L:List Nat):L = (List.range L.length).map (fun j=>L.getD j 0):=by
 refine List.ext_getElem (by simp) (fun j h1 h2=>?_)
 simp [List.getD_eq_getElem?_getD,h1]
end Go.Proofs.YtcbcmlaogehimaaGreatDoor
