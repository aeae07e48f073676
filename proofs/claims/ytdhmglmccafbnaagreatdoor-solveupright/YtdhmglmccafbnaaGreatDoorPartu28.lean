/- Part 28 of the texts. -/
import Derived.Test.YtdhmglmccafbnaaGreatDoorPartu17
import Derived.Test.YtdhmglmccafbnaaGreatDoorPartu26
import Derived.Test.YtdhmglmccafbnaaGreatDoorPartu13
import Derived.Deep.Cut
import Derived.BigQuiet
import Derived.Test.YtdhmglmccafbnaaGreatDoorPartu04
import Derived.Maps.AppendAt
import Derived.Test.YtdhmglmccafbnaaGreatDoorPartu27
import Derived.Test.YtdhmglmccafbnaaGreatDoorPartu06
import Derived.Test.YtdhmglmccafbnaaGreatDoorPartu05
import Derived.Test.YtdhmglmccafbnaaGreatDoorPartu07
import Derived.Maps.Own
import Derived.Maps.OwnOps
import Derived.Maps.OwnSet
import Derived.DeepKeys4
import Derived.Test.YtdhmglmccafbnaaGreatDoorPartu08
import Derived.WalkSmall
import Derived.Test.YtdhmglmccafbnaaGreatDoorPartu01
import Derived.OwnWalk
import Derived.Test.YtdhmglmccafbnaaGreatDoorPartu23
import Derived.Test.YtdhmglmccafbnaaGreatDoorPartu24
import Derived.Test.YtdhmglmccafbnaaGreatDoorPartu19
import Derived.Deep.RegionWith
import Derived.Deep.RegionLaw
import Derived.Test.YtdhmglmccafbnaaGreatDoorPartu22
import Derived.Deep.RegionHeld3
import Derived.Test.YtdhmglmccafbnaaGreatDoorPartu25
set_option maxHeartbeats 4000000
set_option maxRecDepth 20000
namespace Go.Proofs.YtdhmglmccafbnaaGreatDoor
theorem ab_zero12:ab 0 = 0:=by unfold ab;grind
end Go.Proofs.YtdhmglmccafbnaaGreatDoor
namespace Go.Proofs.YtdhmglmccafbnaaGreatDoor
def ngt (xs:List Nat):Bool:=xs.all (fun x=>decide (fK x = 0))
def ldS:List Nat→Bool
 | []=>false
 | x :: xs=>if fK x = 0 then ldS xs else fS x
def hmB (a:Nat) (xs:List Nat):Nat:=if ldS (a :: xs) = true then nrV (a :: xs) else fN (nrV (a :: xs))
def hmD (a:Nat) (xs:List Nat):Nat:=aV a (fN (hmB a xs))
def mrB:List Nat→Nat
 | []=>0
 | a :: xs=>if ngt xs = true then a else hmB a xs
def mrT:List Nat→Nat
 | []=>0
 | a :: xs=>if ngt xs = true then 0 else dV (aV (hmB a xs) (fN a)) (hmB a xs)
def mrV:List Nat→List Nat
 | []=>[]
 | a :: xs=>4607182418800017408 :: xs.map (fun x=>if ngt xs = true then 0 else dV x (hmD a xs))
def mrK:List Nat→Bool
 | []=>true
 | a :: xs=>ngt xs || (fFin (hmB a xs) && fFin (hmD a xs))
theorem toN_mxL (xs:List Nat):toN (mxL xs) = xs:=by
 unfold toN mxL
 rw [List.map_map]
 exact List.map_id'' (fun x=>by simp) xs
theorem nrV_lt (xs:List Nat):nrV xs < 18446744073709551616:=by
 have:=nmV_lt (mxL xs)
 rwa [nmV_nrV,toN_mxL] at this
theorem hmB_lt (a:Nat) (xs:List Nat):hmB a xs < 18446744073709551616:=by
 unfold hmB
 split
 ·exact nrV_lt _
 ·exact fN_lt _ (nrV_lt _)
theorem hmD_lt (a:Nat) (xs:List Nat) (ha:a < 18446744073709551616):hmD a xs < 18446744073709551616:=aV_lt _ _ ha (fN_lt _ (hmB_lt _ _))
theorem mrB_lt (xs:List Nat) (h:∀ x ∈ xs,x < 18446744073709551616):mrB xs < 18446744073709551616:=by
 match xs with
 | []=>decide
 | a :: xs =>
  show (if ngt xs = true then a else hmB a xs) < _
  split
  ·exact h a List.mem_cons_self
  ·exact hmB_lt _ _
theorem mrT_lt (xs:List Nat):mrT xs < 18446744073709551616:=by
 match xs with
 | []=>decide
 | a :: xs =>
  show (if ngt xs = true then 0 else dV (aV (hmB a xs) (fN a)) (hmB a xs)) < _
  split
  ·decide
  ·exact dV_lt _ _
theorem mrV_len (xs:List Nat):(mrV xs).length = xs.length:=by
 match xs with
 | []=>rfl
 | a :: xs=>simp [mrV]
theorem fK_0_of {x:Nat} (hx:x < 18446744073709551616) (fx:fFin x = true) (h:fQ x = 0):fK x = 0:=by
 by_cases h0:fK x = 0
 ·exact h0
 ·have h1:=(eX_top x hx fx h0).1
  rw [h,ab_zero12] at h1
  have:=p2_pos (eX x)
  grind
theorem ngt_true {xs:List Nat} (h:ngt xs = true):∀ x ∈ xs,fK x = 0:=fun x hx=>of_decide_eq_true (List.all_eq_true.1 h x hx)
theorem ngt_sum {xs:List Nat} (h:ngt xs = true):sumQ xs = 0:=by
 have h2:=ngt_true h
 clear h
 induction xs with
 | nil=>rfl
 | cons x xs ih =>
  show fQ x * fQ x+sumQ xs = 0
  rw [fQ_nought x (h2 x List.mem_cons_self),ih (fun y hy=>h2 y (List.mem_cons_of_mem _ hy))]
  grind
theorem ld_sign (a:Nat) (xs:List Nat):(ldS (a :: xs) = true→fQ a≤0)∧(ldS (a :: xs) = false→0≤fQ a):=by
 have h1:=mag_0 (fR a)
 by_cases h:fK a = 0
 ·rw [fQ_nought a h]
  exact ⟨fun _=>Rat.le_refl,fun _=>Rat.le_refl⟩
 ·have e:ldS (a :: xs) = fS a:=if_neg h
  rw [e,fQ_sign a]
  refine ⟨fun g=>?_,fun g=>?_⟩
  ·rw [if_pos g];grind
  ·rw [if_neg (by rw [g];decide)];exact h1
end Go.Proofs.YtdhmglmccafbnaaGreatDoor
namespace Go.Proofs.YtdhmglmccafbnaaGreatDoor
def colL (c:Nat) (S:List Nat) (i n q:Nat):List Nat:=(List.range n).map (fun j=>elM c S (i+j) q)
def apL (c:Nat) (S:List Nat) (i q:Nat) (vs:List Nat) (tau:Nat):List Nat:=apV (mV tau (dtV 0 vs (colL c S i vs.length q))) vs (colL c S i vs.length q)
def apM (r c:Nat) (S:List Nat) (i k:Nat) (vs:List Nat) (tau:Nat):List Nat:=mkM r c (fun p q=>if k≤q∧i≤p∧p < i+vs.length then (apL c S i q vs tau).getD (p - i) 0 else elM c S p q)
theorem colL_len (c:Nat) (S:List Nat) (i n q:Nat):(colL c S i n q).length = n:=by simp [colL]
theorem apM_len (r c:Nat) (S:List Nat) (i k:Nat) (vs:List Nat) (tau:Nat):(apM r c S i k vs tau).length = r * c:=mkM_len _ _ _
theorem apV_len (t:Nat):∀ (vs ys:List Nat),vs.length = ys.length→(apV t vs ys).length = vs.length:=by
 intro vs
 induction vs with
 | nil=>intro ys _;rfl
 | cons v vs ih =>
  intro ys h
  match ys with
  | []=>cases h
  | y :: ys =>
   show (apV t vs ys).length+1 = vs.length+1
   rw [ih ys (by simpa using h)]
theorem apL_len (c:Nat) (S:List Nat) (i q:Nat) (vs:List Nat) (tau:Nat):(apL c S i q vs tau).length = vs.length:=apV_len _ _ _ (colL_len _ _ _ _ _).symm
theorem apV_at (t:Nat):∀ (vs ys:List Nat) (j:Nat),vs.length = ys.length→j < vs.length→(apV t vs ys).getD j 0 = aV (ys.getD j 0) (fN (mV t (vs.getD j 0))):=by
 intro vs
 induction vs with
 | nil=>intro ys j _ hj;exact absurd hj (Nat.not_lt_zero j)
 | cons v vs ih =>
  intro ys j h hj
  match ys with
  | []=>cases h
  | y :: ys =>
   match j with
   | 0=>rfl
   | j+1=>exact ih ys j (by simpa using h) (by simpa using hj)
theorem colL_at (c:Nat) (S:List Nat) (i n q:Nat) {j:Nat} (hj:j < n):(colL c S i n q).getD j 0 = elM c S (i+j) q:=by
 simp [colL,List.getD_eq_getElem?_getD,hj]
theorem el_ap (r c:Nat) (S:List Nat) (i k:Nat) (vs:List Nat) (tau:Nat) {p q:Nat} (hp:p < r) (hq:q < c):elM c (apM r c S i k vs tau) p q = if k≤q∧i≤p∧p < i+vs.length then (apL c S i q vs tau).getD (p - i) 0 else elM c S p q:=el_mk r c _ hp hq
theorem list_range (L:List Nat):L = (List.range L.length).map (fun j=>L.getD j 0):=by
 refine List.ext_getElem (by simp) (fun j h1 h2=>?_)
 simp [List.getD_eq_getElem?_getD,h1]
end Go.Proofs.YtdhmglmccafbnaaGreatDoor
namespace Go.Proofs.YtdhmglmccafbnaaGreatDoor
open Go.RowKit
attribute [local go_sem ↓] Go.wp_at_zero Go.wp_at_succ
theorem OwnB.least {base base':Nat} {w:World} {v:Value} {S:List Nat} (h:OwnB base w v S) (hb:base'≤base):OwnB base' w v S:=by
 refine ⟨⟨h.1.1,?_⟩,h.2⟩
 rcases h.1.2 with e | ⟨g,cap,cur,hv,hg,rest⟩
 ·exact .inl e
 ·exact .inr ⟨g,cap,cur,hv,Nat.le_trans hb hg,rest⟩
theorem OwnB.putM {base:Nat} {w:World} {v:Value} {S:List Nat} (h:OwnB base w v S) {b:Nat} {x y z:Value} (_hx:BoxM w b x y z) (hb:b < base) (u u' u'':Value):OwnB base (((w.setCell ⟨b,0,none⟩ u).setCell ⟨b,1,none⟩ u').setCell ⟨b,2,none⟩ u'') v S:=by
 refine ⟨⟨h.1.1,?_⟩,h.2⟩
 rcases h.1.2 with e | ⟨g,cap,cur,hv,hg,hh,rest⟩
 ·exact .inl e
 ·refine .inr ⟨g,cap,cur,hv,hg,?_,rest⟩
  have ne:g ≠ b:=by omega
  rw [Below.heap_setCell _ ⟨b,2,none⟩ u'' g ne,Below.heap_setCell _ ⟨b,1,none⟩ u' g ne,Below.heap_setCell _ ⟨b,0,none⟩ u g ne]
  exact hh
end Go.Proofs.YtdhmglmccafbnaaGreatDoor
namespace Go.Proofs.YtdhmglmccafbnaaGreatDoor
open Go.RowKit
attribute [local go_sem ↓] Go.wp_at_zero Go.wp_at_succ
def clL (r c:Nat) (S:List Nat) (k:Nat):List Nat:=fsL (fun i=>elM c S i k) r
theorem rcol_any (r c cap k:Nat) (ao:Option Addr) (S:List Nat) (w:World) (h:Mx w ao cap r c S) (hk:k < c) :
  Calls Tryz.prog 48 #[.agg #[.int .i64 r,.int .i64 c,.slice ao S.length cap],.int .i64 k,.int .i64 0] w fun e w'=>∃ bo d,e = .returned (.slice bo r d)∧BitsAt w' bo d (mxL (clL r c S k))∧Below w.heap.size w w':=by
 have HH:=hide h
 have r6:=h.2.2.1
 have s0:=size_alloc9 w (.cells #[.int .i64 r,.int .i64 c,.slice ao S.length cap] 25)
 have b0:=below_alloc9 w (.cells #[.int .i64 r,.int .i64 c,.slice ao S.length cap] 25)
 have X0:=BoxM.new w (.int .i64 r) (.int .i64 c) (.slice ao S.length cap)
 have b1:=below_alloc9 (w.alloc (.cells #[.int .i64 r,.int .i64 c,.slice ao S.length cap] 25)) (.cells #[] 28)
 have O0:=OwnB.nil (w.alloc (.cells #[.int .i64 r,.int .i64 c,.slice ao S.length cap] 25)) (w.heap.size+1) (by rw [s0];omega)
 rw [s0] at O0
 have HO:=hide O0;have HX:=hide (X0.all b1);have HB:=hide (b0.trans (b1.mono b0.size))
 obtain ⟨l,hl⟩:∃ l,S.length = l:=⟨_,rfl⟩
 rw [hl] at HX HB HO
 rw [hl]
 have HLL:=hide hl
 clear h s0 b0 X0 b1 O0 hl
 go_enter Tryz.func48,Tryz.ntmps48
 go_wp2_with fail
 go_loopw [7,8] (fun v i wr=>∃ j:Nat,j≤r∧i = .int .i64 j∧Hid (OwnB (w.heap.size+1) wr v (fsL (fun i=>elM c S i k) j))∧Hid (BoxM wr w.heap.size (.int .i64 r) (.int .i64 c) (.slice ao l cap))∧Hid (Below w.heap.size w wr)) (fun _ i _=>r - (intOf i).toNat)
 case atStart=>exact ⟨0,Nat.zero_le _,rfl,HO,HX,HB⟩
 case round =>
  clear HO HX HB
  obtain ⟨j,hj,rfl,hO,hX,hB⟩:=hrel
  have t0:=(uH hX).c0;have t1:=(uH hX).c1;have t2:=(uH hX).c2
  by_cases hlt:j < r
  ·have hjI:(j:Int) < (r:Int):=by omega
   have C:=hide (fun w' (m:Mx w' ao cap r c S)=>rat_any r c cap j k ao S w' m hlt hk)
   rw [uH HLL] at C
   have HM:=hide ((uH HH).below hB.out)
   have ho:=hide ((uH HH).el_lt j k)
   have hlen:=hide (show (fsL (fun i=>elM c S i k) j).length≤1000000 from by rw [fsL_len];omega)
   have eS:=hide (fsL_succ (fun i=>elM c S i k) j)
   generalize elM c S j k = o at *
   go_wp2_with fail
   refine (uH C _ (uH HM)).mono ?_
   rintro e w2 ⟨rfl,hb2⟩
   have own2:=(uH hO).below hb2
   have box2:=(uH hX).all hb2
   have B2:=hB.out.trans (hb2.mono hB.out.size)
   obtain ⟨v3,w3,run3,own3,bel3,_,_⟩:=own2.push o (uH ho) (uH hlen) (by have:=box2.lt;omega) 23
   have RUN:=hide run3
   have O3:=hide (show OwnB (w.heap.size+1) w3 v3 (fsL (fun i=>elM c S i k) (j+1)) from by rw [uH eS];exact own3)
   have X3:=hide (box2.below bel3 (by omega))
   have B3:=hide (B2.trans (bel3.mono (by omega)))
   clear hb2 C hO hX hB own2 box2 B2 run3 own3 bel3 ho hlen eS HM t0 t1 t2
   go_wp2_with (at_builtin;refine wpList_append_ran _ rfl _ _ 23 rfl _ _ _ _ rfl rfl (uH RUN) ?_;clear RUN)
   go_round
   case rel=>exact ⟨j+1,by omega,by go_num,O3,X3,B3⟩
   case measure=>simp [intOf];omega
  ·have hjj:r = j:=by omega
   subst hjj
   obtain ⟨b1,d1,e1,q1⟩:=(uH hO).bits
   rw [fsL_len] at e1
   subst e1
   have Q1:=hide q1
   clear q1 hO
   go_wp2_with fail
   go_ret
   exact ⟨b1,d1,rfl,uH Q1,hB.out⟩
end Go.Proofs.YtdhmglmccafbnaaGreatDoor
namespace Go.Proofs.YtdhmglmccafbnaaGreatDoor
open Go.RowKit
attribute [local go_sem ↓] Go.wp_at_zero Go.wp_at_succ
theorem toN_getD (I:List Int) (j:Nat) (hj:j < I.length):(toN I).getD j 0 = atB I j:=by
 rw [List.getD_eq_getElem?_getD,toN_at I j hj]
 rfl
theorem ldS_drop (L:List Nat) {j:Nat} (h:j < L.length):ldS (L.drop j) = if fK (L.getD j 0) = 0 then ldS (L.drop (j+1)) else fS (L.getD j 0):=by
 rw [List.drop_eq_getElem_cons h,List.getD_eq_getElem?_getD,List.getElem?_eq_getElem h]
 rfl
end Go.Proofs.YtdhmglmccafbnaaGreatDoor
namespace Go.Proofs.YtdhmglmccafbnaaGreatDoor
def apJ (r c:Nat) (S:List Nat) (i k:Nat) (vs:List Nat) (tau d j:Nat):List Nat:=mkM r c (fun p q=>if (k≤q∧i≤p∧p < i+vs.length)∧(q < d ∨ (q = d∧p < i+j)) then (apL c S i q vs tau).getD (p - i) 0 else elM c S p q)
theorem apJ_len (r c:Nat) (S:List Nat) (i k:Nat) (vs:List Nat) (tau d j:Nat):(apJ r c S i k vs tau d j).length = r * c:=mkM_len _ _ _
theorem apJ_0 (r c:Nat) (S:List Nat) (i k:Nat) (vs:List Nat) (tau:Nat) (h:S.length = r * c):apJ r c S i k vs tau k 0 = S:=by
 unfold apJ
 rw [← mkM_of r c S h]
 refine mkM_congr (fun p q _ _=>?_)
 rw [mkM_of r c S h,if_neg (fun g=>by omega)]
 rfl
theorem apJ_next (r c:Nat) (S:List Nat) (i k:Nat) (vs:List Nat) (tau d:Nat):apJ r c S i k vs tau d vs.length = apJ r c S i k vs tau (d+1) 0:=by
 unfold apJ
 refine mkM_congr (fun p q _ _=>?_)
 by_cases g:(k≤q∧i≤p∧p < i+vs.length)∧(q < d ∨ (q = d∧p < i+vs.length))
 ·rw [if_pos g,if_pos ⟨g.1,by omega⟩]
 ·rw [if_neg g,if_neg (fun g2=>g ⟨g2.1,by omega⟩)]
theorem apJ_all (r c:Nat) (S:List Nat) (i k:Nat) (vs:List Nat) (tau d:Nat) (hd:c≤d):apJ r c S i k vs tau d 0 = apM r c S i k vs tau:=by
 unfold apJ apM
 refine mkM_congr (fun p q _ hq=>?_)
 by_cases g:k≤q∧i≤p∧p < i+vs.length
 ·rw [if_pos g,if_pos ⟨g,by omega⟩]
 ·rw [if_neg g,if_neg (fun g2=>g g2.1)]
theorem apJ_set (r c:Nat) (S:List Nat) {i k:Nat} {vs:List Nat} {tau d j:Nat} (hi:i+vs.length≤r) (hd:d < c) (hk:k≤d) (hj:j < vs.length) :
  (apJ r c S i k vs tau d j).set ((i+j) * c+d) ((apL c S i d vs tau).getD j 0) = apJ r c S i k vs tau d (j+1):=by
 unfold apJ
 rw [mkM_set r c _ _ (show i+j < r by omega) hd]
 refine mkM_congr (fun p q _ _=>?_)
 by_cases e:p = i+j∧q = d
 ·obtain ⟨rfl,rfl⟩:=e
  rw [if_pos ⟨rfl,rfl⟩,if_pos ⟨⟨hk,by omega,by omega⟩,.inr ⟨rfl,by omega⟩⟩,show i+j - i = j by omega]
 ·rw [if_neg e]
  by_cases g:(k≤q∧i≤p∧p < i+vs.length)∧(q < d ∨ (q = d∧p < i+j))
  ·rw [if_pos g,if_pos ⟨g.1,by omega⟩]
  ·rw [if_neg g,if_neg (fun g2=>g ⟨g2.1,by omega⟩)]
theorem apL_at (c:Nat) (S:List Nat) (i q:Nat) (vs:List Nat) (tau:Nat) {j:Nat} (hj:j < vs.length) :
  (apL c S i q vs tau).getD j 0 = aV (elM c S (i+j) q) (fN (mV (mV tau (dtV 0 vs (colL c S i vs.length q))) (vs.getD j 0))):=by
 unfold apL
 rw [apV_at _ vs _ j (colL_len _ _ _ _ _).symm hj,colL_at c S i vs.length q hj]
theorem apL_lt (c:Nat) (S:List Nat) (i q:Nat) (vs:List Nat) (tau:Nat) {j:Nat} (hj:j < vs.length) (hS:∀ p q,elM c S p q < 18446744073709551616):(apL c S i q vs tau).getD j 0 < 18446744073709551616:=by
 rw [apL_at c S i q vs tau hj]
 exact aV_lt _ _ (hS _ _) (fN_lt _ (mV_lt _ _))
theorem dtV_snoc (x y:Nat):∀ (xs ys:List Nat) (s:Nat),xs.length = ys.length→dtV s (xs ++ [x]) (ys ++ [y]) = aV (dtV s xs ys) (mV x y):=by
 intro xs
 induction xs with
 | nil =>
  intro ys s h
  match ys with
  | []=>rfl
  | y' :: ys=>cases h
 | cons x' xs ih =>
  intro ys s h
  match ys with
  | []=>cases h
  | y' :: ys=>exact ih ys _ (by simpa using h)
theorem dtK_dtV (I J:List Int):∀ j,j≤I.length→j≤J.length→dtK I J j = dtV 0 ((toN I).take j) ((toN J).take j):=by
 intro j
 induction j with
 | zero=>intro _ _;rfl
 | succ j ih =>
  intro h1 h2
  rw [toN_take I j h1,toN_take J j h2,dtV_snoc _ _ _ _ _ (by simp [toN_len];omega),← ih (by omega) (by omega)]
  rfl
end Go.Proofs.YtdhmglmccafbnaaGreatDoor
