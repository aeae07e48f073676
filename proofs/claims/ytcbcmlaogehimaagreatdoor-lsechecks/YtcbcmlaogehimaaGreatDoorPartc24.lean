/- Part 24 of the texts. -/
import Derived.Test.YtcbcmlaogehimaaGreatDoorPartc23
import Derived.Test.YtcbcmlaogehimaaGreatDoorPartc18
import Derived.Test.YtcbcmlaogehimaaGreatDoorPartc17
import Derived.Test.YtcbcmlaogehimaaGreatDoorPartc16
import Derived.Test.YtcbcmlaogehimaaGreatDoorPartc14
import Derived.Test.YtcbcmlaogehimaaGreatDoorPartc20
import Derived.Test.YtcbcmlaogehimaaGreatDoorPartc19
import Derived.Test.YtcbcmlaogehimaaGreatDoorPartc21
import Derived.Deep.RegionLaw
import Derived.Test.YtcbcmlaogehimaaGreatDoorPartc11
import Derived.Test.YtcbcmlaogehimaaGreatDoorPartc12
import Derived.Test.YtcbcmlaogehimaaGreatDoorPartc13
import Derived.Deep.Cut
import Derived.BigQuiet
import Derived.Test.YtcbcmlaogehimaaGreatDoorPartc04
import Derived.Maps.AppendAt
import Derived.Test.YtcbcmlaogehimaaGreatDoorPartc22
import Derived.Test.YtcbcmlaogehimaaGreatDoorPartc06
import Derived.Lib.BitFns
import Derived.Test.YtcbcmlaogehimaaGreatDoorPartc05
import Derived.Test.YtcbcmlaogehimaaGreatDoorPartc07
import Derived.Maps.Own
import Derived.Maps.OwnOps
import Derived.Maps.OwnSet
import Derived.DeepKeys4
import Derived.Test.YtcbcmlaogehimaaGreatDoorPartc08
import Derived.WalkSmall
import Derived.Test.YtcbcmlaogehimaaGreatDoorPartc01
import Derived.OwnWalk
import Derived.Test.YtcbcmlaogehimaaGreatDoorPartc02
import Derived.Deep.LoopGhost
import Derived.WalkMore
set_option maxHeartbeats 32000000
set_option maxRecDepth 20000
namespace Go.Proofs.YtcbcmlaogehimaaGreatDoor
open Go.RowKit
attribute [local go_sem ↓] Go.wp_at_zero Go.wp_at_succ
theorem toN_getD (I:List Int) (j:Nat) (hj:j < I.length):(toN I).getD j 0 = atB I j:=by
 rw [List.getD_eq_getElem?_getD,toN_at I j hj]
 rfl
theorem ldS_drop (L:List Nat) {j:Nat} (h:j < L.length):ldS (L.drop j) = if fK (L.getD j 0) = 0 then ldS (L.drop (j+1)) else fS (L.getD j 0):=by
 rw [List.drop_eq_getElem_cons h,List.getD_eq_getElem?_getD,List.getElem?_eq_getElem h]
 rfl
end Go.Proofs.YtcbcmlaogehimaaGreatDoor
namespace Go.Proofs.YtcbcmlaogehimaaGreatDoor
def apJ (r c:Nat) (S:List Nat) (i k:Nat) (vs:List Nat) (tau d j:Nat):List Nat:=mkM r c (fun p q=>if (k≤q∧i≤p∧p < i+vs.length)∧(q < d ∨ (q = d∧p < i+j)) then (apL c S i q vs tau).getD (p - i) 0 else elM c S p q)
theorem apJ_len (r c:Nat) (S:List Nat) (i k:Nat) (vs:List Nat) (tau d j:Nat):(apJ r c S i k vs tau d j).length = r * c:=mkM_len _ _ _
theorem apJ_0 (r c:Nat) (S:List Nat) (i k:Nat) (vs:List Nat) (tau:Nat) (h:S.length = r * c):apJ r c S i k vs tau k 0 = S:=by
 unfold apJ
 rw [← mkM_of r c S h]
 refine mkM_congr (fun p q _ _=>?_)
 rw [mkM_of r c S h,if_neg (fun g=>by omega)]
 rfl
theorem apJ_next (r c:Nat) (S:List Nat) (i k:Nat) (vs:List Nat) (tau d:Nat):apJ r c S i k vs tau d vs.length = apJ r c S i k vs tau (d+1) 0:=by
 unfold apJ
 refine mkM_congr (fun p q _ _=>?_)
 by_cases g:(k≤q∧i≤p∧p < i+vs.length)∧(q < d ∨ (q = d∧p < i+vs.length))
 ·rw [if_pos g,if_pos ⟨g.1,by omega⟩]
 ·rw [if_neg g,if_neg (fun g2=>g ⟨g2.1,by omega⟩)]
theorem apJ_all (r c:Nat) (S:List Nat) (i k:Nat) (vs:List Nat) (tau d:Nat) (hd:c≤d):apJ r c S i k vs tau d 0 = apM r c S i k vs tau:=by
 unfold apJ apM
 refine mkM_congr (fun p q _ hq=>?_)
 by_cases g:k≤q∧i≤p∧p < i+vs.length
 ·rw [if_pos g,if_pos ⟨g,by omega⟩]
 ·rw [if_neg g,if_neg (fun g2=>g g2.1)]
theorem apJ_set (r c:Nat) (S:List Nat) {i k:Nat} {vs:List Nat} {tau d j:Nat} (hi:i+vs.length≤r) (hd:d < c) (hk:k≤d) (hj:j < vs.length) :
  (apJ r c S i k vs tau d j).set ((i+j) * c+d) ((apL c S i d vs tau).getD j 0) = apJ r c S i k vs tau d (j+1):=by
 unfold apJ
 rw [mkM_set r c _ _ (show i+j < r by omega) hd]
 refine mkM_congr (fun p q _ _=>?_)
 by_cases e:p = i+j∧q = d
 ·obtain ⟨rfl,rfl⟩:=e
  rw [if_pos ⟨rfl,rfl⟩,if_pos ⟨⟨hk,by omega,by omega⟩,.inr ⟨rfl,by omega⟩⟩,show i+j - i = j by omega]
 ·rw [if_neg e]
  by_cases g:(k≤q∧i≤p∧p < i+vs.length)∧(q < d ∨ (q = d∧p < i+j))
  ·rw [if_pos g,if_pos ⟨g.1,by omega⟩]
  ·rw [if_neg g,if_neg (fun g2=>g ⟨g2.1,by omega⟩)]
theorem apL_at (c:Nat) (S:List Nat) (i q:Nat) (vs:List Nat) (tau:Nat) {j:Nat} (hj:j < vs.length) :
  (apL c S i q vs tau).getD j 0 = aV (elM c S (i+j) q) (fN (mV (mV tau (dtV 0 vs (colL c S i vs.length q))) (vs.getD j 0))):=by
 unfold apL
 rw [apV_at _ vs _ j (colL_len _ _ _ _ _).symm hj,colL_at c S i vs.length q hj]
theorem apL_lt (c:Nat) (S:List Nat) (i q:Nat) (vs:List Nat) (tau:Nat) {j:Nat} (hj:j < vs.length) (hS:∀ p q,elM c S p q < 18446744073709551616):(apL c S i q vs tau).getD j 0 < 18446744073709551616:=by
 rw [apL_at c S i q vs tau hj]
 exact aV_lt _ _ (hS _ _) (fN_lt _ (mV_lt _ _))
theorem dtV_snoc (x y:Nat):∀ (xs ys:List Nat) (s:Nat),xs.length = ys.length→dtV s (xs ++ [x]) (ys ++ [y]) = aV (dtV s xs ys) (mV x y):=by
 intro xs
 induction xs with
 | nil =>
  intro ys s h
  match ys with
  | []=>rfl
  | y' :: ys=>cases h
 | cons x' xs ih =>
  intro ys s h
  match ys with
  | []=>cases h
  | y' :: ys=>exact ih ys _ (by simpa using h)
theorem dtK_dtV (I J:List Int):∀ j,j≤I.length→j≤J.length→dtK I J j = dtV 0 ((toN I).take j) ((toN J).take j):=by
 intro j
 induction j with
 | zero=>intro _ _;rfl
 | succ j ih =>
  intro h1 h2
  rw [toN_take I j h1,toN_take J j h2,dtV_snoc _ _ _ _ _ (by simp [toN_len];omega),← ih (by omega) (by omega)]
  rfl
end Go.Proofs.YtcbcmlaogehimaaGreatDoor
namespace Go.Proofs.YtcbcmlaogehimaaGreatDoor
def clJ (r c:Nat) (S:List Nat) (j b i:Nat):List Nat:=mkM r c (fun p q=>if q = j∧j≤p∧p < i then (if p = j then b else 0) else elM c S p q)
theorem clJ_len (r c:Nat) (S:List Nat) (j b i:Nat):(clJ r c S j b i).length = r * c:=mkM_len _ _ _
theorem clJ_first (r c:Nat) (S:List Nat) {j:Nat} (b:Nat) (h:S.length = r * c) (hj:j < r) (hc:j < c):S.set (j * c+j) b = clJ r c S j b (j+1):=by
 have e:S = mkM r c (fun p q=>elM c S p q):=by
  conv=>lhs;rw [← mkM_of r c S h]
  rfl
 conv=>lhs;rw [e]
 rw [mkM_set r c _ _ hj hc]
 unfold clJ
 refine mkM_congr (fun p q _ _=>?_)
 by_cases g:p = j∧q = j
 ·rw [if_pos g,if_pos ⟨g.2,by omega,by omega⟩,if_pos g.1]
 ·rw [if_neg g,if_neg (fun g2=>g (by omega))]
theorem clJ_set (r c:Nat) (S:List Nat) {j i:Nat} (b:Nat) (hj:j < i) (hi:i < r) (hc:j < c):(clJ r c S j b i).set (i * c+j) 0 = clJ r c S j b (i+1):=by
 unfold clJ
 rw [mkM_set r c _ _ hi hc]
 refine mkM_congr (fun p q _ _=>?_)
 by_cases g:p = i∧q = j
 ·rw [if_pos g,if_pos ⟨g.2,by omega,by omega⟩,if_neg (by omega)]
 ·rw [if_neg g]
  by_cases g2:q = j∧j≤p∧p < i
  ·rw [if_pos g2,if_pos (show q = j∧j≤p∧p < i+1 by omega)]
  ·rw [if_neg g2,if_neg (show ¬ (q = j∧j≤p∧p < i+1) by omega)]
def clM (r c:Nat) (S:List Nat) (j b:Nat):List Nat:=clJ r c S j b r
theorem clM_len (r c:Nat) (S:List Nat) (j b:Nat):(clM r c S j b).length = r * c:=clJ_len _ _ _ _ _ _
def qxL (r c:Nat) (S:List Nat) (j:Nat):List Nat:=colL c S j (r - j) j
theorem qxL_len (r c:Nat) (S:List Nat) (j:Nat):(qxL r c S j).length = r - j:=colL_len _ _ _ _ _
def qrS (r c:Nat) (S:List Nat) (j:Nat):List Nat:=clM r c (apM r c S j j (mrV (qxL r c S j)) (mrT (qxL r c S j))) j (mrB (qxL r c S j))
theorem qrS_len (r c:Nat) (S:List Nat) (j:Nat):(qrS r c S j).length = r * c:=clM_len _ _ _ _ _
def finL (xs:List Nat):Bool:=fnK (mxL xs) xs.length
def qrO (r c:Nat) (S:List Nat) (j:Nat):Bool:=finL (qxL r c S j) && mrK (qxL r c S j)
def qrR (r c:Nat) (S:List Nat):Nat→List Nat
 | 0=>S
 | j+1=>qrS r c (qrR r c S j) j
def qrX (r c:Nat) (S:List Nat) (j:Nat):List Nat:=qxL r c (qrR r c S j) j
def qrK (r c:Nat) (S:List Nat):Nat→Bool
 | 0=>true
 | j+1=>qrK r c S j && qrO r c (qrR r c S j) j
theorem qrR_len (r c:Nat) (S:List Nat) (h:S.length = r * c):∀ j,(qrR r c S j).length = r * c
 | 0=>h
 | _+1=>qrS_len _ _ _ _
theorem qrX_len (r c:Nat) (S:List Nat) (j:Nat):(qrX r c S j).length = r - j:=qxL_len _ _ _ _
def qrN (r c:Nat):Nat:=min c (r - 1)
theorem qrN_lt (r c j:Nat):j < qrN r c ↔ (j:Int) < (c:Int)∧(j:Int) < (r:Int) - 1:=by
 unfold qrN
 omega
def qrQ (r c:Nat) (S:List Nat) (K:Nat):Nat→List Nat
 | 0=>eyM r
 | t+1=>apM r r (qrQ r c S K t) (K - 1 - t) 0 (mrV (qrX r c S (K - 1 - t))) (mrT (qrX r c S (K - 1 - t)))
theorem qrQ_len (r c:Nat) (S:List Nat) (K:Nat):∀ t,(qrQ r c S K t).length = r * r
 | 0=>show (eyM r).length = r * r from mkM_len r r _
 | _+1=>apM_len _ _ _ _ _ _ _
def facQ (r c:Nat) (S:List Nat):List Nat:=qrQ r c S (qrN r c) (qrN r c)
def facR (r c:Nat) (S:List Nat):List Nat:=qrR r c S (qrN r c)
def facK (r c:Nat) (S:List Nat):Bool:=qrK r c S (qrN r c) && (finL (facQ r c S) && finL (facR r c S))
end Go.Proofs.YtcbcmlaogehimaaGreatDoor
namespace Go.Proofs.YtcbcmlaogehimaaGreatDoor
open Go.RowKit
attribute [local go_sem ↓] Go.wp_at_zero Go.wp_at_succ
theorem grown_trans14 {a w w':World} {o:Option Nat} (h:a.grownBy w o) (k:w.grownBy w' o):a.grownBy w' o :=
 ⟨k.os.trans h.os,k.tape.trans h.tape,k.output.trans h.output,Nat.le_trans h.size k.size,fun i hi hr=>(k.block i (Nat.lt_of_lt_of_le hi h.size) hr).trans (h.block i hi hr)⟩
theorem grown_below14 {w w':World} (h:Below w.heap.size w w') (o:Option Nat):w.grownBy w' o:=⟨h.os,h.tape,h.output,h.size,fun k hk _=>h.block k hk⟩
theorem grown_set14 (w:World) (g j:Nat) (v:Value):w.grownBy (w.setCell ⟨g,j,none⟩ v) (some g):=by
 have h:=(Below.refl w.heap.size w)
 refine ⟨rfl,rfl,rfl,?_,fun k _ hr=>Below.heap_setCell w ⟨g,j,none⟩ v k (fun e=>hr (by rw [e]))⟩
 simp [World.setCell]
structure SeSt (w wr:World) (g r c n:Nat) (S:List Nat):Prop where
 bel:w.grownBy wr (some g)
 a:BoxM wr w.heap.size (.int .i64 r) (.int .i64 c) (.slice (some ⟨g,0,none⟩) n n)
 row:RowB wr g S
theorem SeSt.start {w:World} {g n:Nat} {S:List Nat} (h:RowB w g S) (r c:Nat):SeSt w (w.alloc (.cells #[.int .i64 r,.int .i64 c,.slice (some ⟨g,0,none⟩) n n] 24)) g r c n S:=by
 have b:=below_alloc9 w (.cells #[.int .i64 r,.int .i64 c,.slice (some ⟨g,0,none⟩) n n] 24)
 exact ⟨grown_below14 b _,BoxM.new w _ _ _,h.below b h.lt⟩
theorem SeSt.set {w wr:World} {g r c n:Nat} {S:List Nat} (h:SeSt w wr g r c n S) (hg:g < w.heap.size) (p x:Nat):SeSt w (wr.setCell ⟨g,p,none⟩ (.int .u64 (x:Int))) g r c n (S.set p x) :=
 ⟨grown_trans14 h.bel (grown_set14 wr g p _),h.a.other (p:=⟨g,p,none⟩) (by show w.heap.size ≠ g;omega) _,h.row.set p x⟩
theorem settle_of (r c n j beta g p0:Nat) (S:List Nat) (T:Nat→List Nat) (P:Nat→Nat) (w:World) (h36:n≤36) (hr:r≤6) (hj:j < r) (h:RowB w g S) (lS:S.length = n) (lT:∀ i,(T i).length = n)
  (h0:j * c+j = p0∧p0 < n∧S.set p0 beta = T (j+1)) (hP:∀ i,j < i→i < r→i * c+j = P i∧P i < n∧(T i).set (P i) 0 = T (i+1)) :
  Calls Tryz.prog 226 #[.agg #[.int .i64 r,.int .i64 c,.slice (some ⟨g,0,none⟩) n n],.int .i64 j,.int .u64 beta] w fun e w'=>e = .returned (.tuple #[])∧RowB w' g (T r)∧w.grownBy w' (some g):=by
 have HG:=hide h.lt
 have ST:=hide (SeSt.start (n:=n) h r c)
 obtain ⟨q0,hq0⟩:∃ q,j * c = q:=⟨_,rfl⟩
 obtain ⟨e0,l0,s0⟩:=h0
 rw [hq0] at e0
 have HP:=hide hP;have LT:=hide lT
 have e1:IntKind.i64.wrap ((j:Int) * (c:Int)) = (q0:Int):=by
  rw [cast_mul10 j c,hq0]
  exact wrap_in _ (by omega)
 have e2:IntKind.i64.wrap ((q0:Int)+(j:Int)) = (p0:Int):=(wrap_in _ (by omega)).trans (by omega)
 have e3:(j:Int) * (c:Int) = (q0:Int):=by rw [cast_mul10 j c,hq0]
 have e4:(q0:Int)+(j:Int) = (p0:Int):=by omega
 have w1:IntKind.i64.wrap (q0:Int) = (q0:Int):=wrap_in _ (by omega)
 have w2:IntKind.i64.wrap (p0:Int) = (p0:Int):=wrap_in _ (by omega)
 obtain ⟨j1,hj1⟩:∃ j1,j+1 = j1:=⟨_,rfl⟩
 have e5:IntKind.i64.wrap ((j:Int)+1) = (j1:Int):=(wrap_in _ (by omega)).trans (by omega)
 have e6:(j:Int)+1 = (j1:Int):=by omega
 have hpI:(p0:Int) < (n:Int):=by omega
 have y0:=(uH ST).a.c0;have y1:=(uH ST).a.c1;have y2:=(uH ST).a.c2
 have d1:=(uH ST).row.cell p0 (by rw [lS];exact l0)
 have f1:=(uH ST).row.free p0
 have S1:=hide ((uH ST).set (uH HG) p0 beta)
 rw [s0,hj1] at S1
 have HJ1:=hide hj1
 clear hP lT h lS s0 hq0 l0 ST hj1
 go_enter Tryz.func226,Tryz.ntmps226
 go_wp2_with fail
 clear y0 y1 y2 d1 f1 e1 e2 e3 e4 e5 e6 w1 w2 hpI
 go_loopw [6] (fun a wr=>∃ i:Nat,j < i∧i≤r∧a = .int .i64 i∧Hid (SeSt w wr g r c n (T i))) (fun a _=>r - (intOf a).toNat)
 case atStart=>exact ⟨j1,by have:=uH HJ1;omega,by have:=uH HJ1;omega,by first | rfl | go_num,S1⟩
 case round =>
  clear S1
  obtain ⟨i,hji,hir,rfl,hS⟩:=hrel
  have y0:=(uH hS).a.c0
  by_cases hlt:i < r
  ·have hiI:(i:Int) < (r:Int):=by omega
   obtain ⟨e0,l0,s0⟩:=uH HP i hji hlt
   have y1:=(uH hS).a.c1;have y2:=(uH hS).a.c2
   obtain ⟨q,hq⟩:∃ q,i * c = q:=⟨_,rfl⟩
   rw [hq] at e0
   have e1:IntKind.i64.wrap ((i:Int) * (c:Int)) = (q:Int):=by
    rw [cast_mul10 i c,hq]
    exact wrap_in _ (by omega)
   have e2:IntKind.i64.wrap ((q:Int)+(j:Int)) = (P i:Int):=(wrap_in _ (by omega)).trans (by omega)
   have e3:(i:Int) * (c:Int) = (q:Int):=by rw [cast_mul10 i c,hq]
   have e4:(q:Int)+(j:Int) = (P i:Int):=by omega
   have w1:IntKind.i64.wrap (q:Int) = (q:Int):=wrap_in _ (by omega)
   have w2:IntKind.i64.wrap (P i:Int) = (P i:Int):=wrap_in _ (by omega)
   have hpI:(P i:Int) < (n:Int):=by omega
   have d1:=(uH hS).row.cell (P i) (by rw [uH LT];exact l0)
   have f1:=(uH hS).row.free (P i)
   have S2:=hide ((uH hS).set (uH HG) (P i) 0)
   rw [s0] at S2
   generalize P i = p at *
   clear hS s0 hq l0
   go_wp2_with fail
   go_round
   case rel=>exact ⟨i+1,by omega,by omega,by go_num,S2⟩
   case measure=>simp [intOf];omega
  ·have hii:i = r:=by omega
   subst hii
   go_wp2
   first | go_end0 | refine bodyPost_ret (results_none rfl _ _ _) rfl ?_
   exact ⟨rfl,(uH hS).row,(uH hS).bel⟩
theorem settle_any (r c j beta g:Nat) (S:List Nat) (w:World) (hr:r≤6) (hc:c≤6) (hj:j < r) (hjc:j < c) (lS:S.length = r * c) (h:RowB w g S) :
  Calls Tryz.prog 226 #[.agg #[.int .i64 r,.int .i64 c,.slice (some ⟨g,0,none⟩) S.length S.length],.int .i64 j,.int .u64 beta] w fun e w'=>e = .returned (.tuple #[])∧RowB w' g (clM r c S j beta)∧w.grownBy w' (some g):=by
 have h36:S.length≤36:=by
  rw [lS]
  exact Nat.mul_le_mul hr hc
 refine settle_of r c S.length j beta g (j * c+j) S (clJ r c S j beta) (fun i=>i * c+j) w h36 hr hj h rfl (fun i=>by rw [clJ_len,lS]) ⟨rfl,by rw [lS];exact place_lt hj hjc,clJ_first r c S beta lS hj hjc⟩ (fun i hji hir=>⟨rfl,by rw [lS];exact place_lt hir hjc,clJ_set r c S beta hji hir hjc⟩)
end Go.Proofs.YtcbcmlaogehimaaGreatDoor
namespace Go.Proofs.YtcbcmlaogehimaaGreatDoor
open Go.RowKit
attribute [local go_sem ↓] Go.wp_at_zero Go.wp_at_succ
def OffB (g:Option Nat) (ao:Option Addr) (I:List Int):Prop:=I = [] ∨ ∃ b off,ao = some ⟨b,off,none⟩∧some b ≠ g
theorem OffB.new {H:Nat} {ao:Option Addr} {I:List Int} (h:NewB H ao I) {g:Option Nat} (hg:∀ k,g = some k→k < H):OffB g ao I:=by
 rcases h with e | ⟨b,off,e1,e2⟩
 ·exact .inl e
 ·exact .inr ⟨b,off,e1,fun e=>by have:=hg b e.symm;omega⟩
theorem OffB.old {w:World} {ao:Option Addr} {c:Nat} {I:List Int} (h:BitsAt w ao c I) {g:Option Nat} (hg:∀ k,g = some k→w.heap.size≤k):OffB g ao I:=by
 rcases h.2.2 with e | ⟨b,off,e1,e2,_⟩
 ·exact .inl e
 ·exact .inr ⟨b,off,e1,fun e=>by have:=hg b e.symm;omega⟩
theorem bits_grownOff {w w':World} {ao:Option Addr} {c:Nat} {I:List Int} {g:Option Nat} (h:BitsAt w ao c I) (ha:OffB g ao I) (hg:w.grownBy w' g):BitsAt w' ao c I:=by
 refine ⟨h.1,h.2.1,?_⟩
 rcases h.2.2 with e | ⟨b,off,e,hb,hc⟩
 ·exact .inl e
 ·rcases ha with e' | ⟨b',off',e',hne⟩
  ·exact .inl e'
  ·rw [e] at e'
   simp only [Option.some.injEq,Addr.mk.injEq] at e'
   obtain ⟨rfl,rfl,_⟩:=e'
   refine .inr ⟨b,off,e,Nat.lt_of_lt_of_le hb hg.size,fun i hi=>?_⟩
   rw [World.cell?_of_block (a:=⟨b,off+i,none⟩) (hg.block b hb hne)]
   exact hc i hi
end Go.Proofs.YtcbcmlaogehimaaGreatDoor
namespace Go.Proofs.YtcbcmlaogehimaaGreatDoor
open Go.RowKit
attribute [local go_sem ↓] Go.wp_at_zero Go.wp_at_succ
theorem BoxM.three14 {w:World} {b g:Nat} {x y z:Value} (h:BoxM w b x y z) (hg:b ≠ g) (u u' u'':Value):BoxM (((w.setCell ⟨g,0,none⟩ u).setCell ⟨g,1,none⟩ u').setCell ⟨g,2,none⟩ u'') b x y z :=
 ((h.other (p:=⟨g,0,none⟩) hg _).other (p:=⟨g,1,none⟩) hg _).other (p:=⟨g,2,none⟩) hg _
structure TrSt (w wr:World) (h r c n cap:Nat) (ao:Option Addr) (S:List Nat) (ro:Option Addr) (rc:Nat) (v:Value) (R:List Mr):Prop where
 bel:Below w.heap.size w wr
 hh:w.heap.size+1+1≤h
 a:BoxM wr w.heap.size (.int .i64 r) (.int .i64 c) (.slice ao n cap)
 res:BoxM wr (w.heap.size+1) (.int .i64 0) (.int .i64 0) (.slice none 0 0)
 rb:BoxM wr h (.int .i64 r) (.int .i64 c) (.slice ro n rc)
 bits:BitsAt wr ro rc (mxL S)
 new:NewB w.heap.size ro (mxL S)
 len:S.length = n
 l:OwnMt (w.heap.size+1+1) wr v R
 off:OffB v.ownBlock ro (mxL S)
theorem TrSt.all {w wr w':World} {h r c n cap:Nat} {ao:Option Addr} {S:List Nat} {ro:Option Addr} {rc:Nat} {v:Value} {R:List Mr} (t:TrSt w wr h r c n cap ao S ro rc v R) (hb:Below wr.heap.size wr w'):TrSt w w' h r c n cap ao S ro rc v R :=
 ⟨t.bel.trans (hb.mono t.bel.size),t.hh,t.a.all hb,t.res.all hb,t.rb.all hb,t.bits.below hb,t.new,t.len,t.l.below hb,t.off⟩
theorem TrSt.start {w w1:World} {r c n cap:Nat} {ao:Option Addr} {S:List Nat} {ro:Option Addr} {rc:Nat} (hB:Below w.heap.size w w1) (hA:BoxM w1 w.heap.size (.int .i64 r) (.int .i64 c) (.slice ao n cap)) (hR:BoxM w1 (w.heap.size+1) (.int .i64 0) (.int .i64 0) (.slice none 0 0)) (hS:BitsAt w1 ro rc (mxL S)) (hN:NewB w.heap.size ro (mxL S)) (hl:S.length = n) :
  TrSt w (w1.alloc (.cells #[.int .i64 r,.int .i64 c,.slice ro n rc] 24)) w1.heap.size r c n cap ao S ro rc (.slice none 0 0) []:=by
 have b:=below_alloc9 w1 (.cells #[.int .i64 r,.int .i64 c,.slice ro n rc] 24)
 exact ⟨hB.trans (b.mono hB.size),hR.lt,hA.all b,hR.all b,BoxM.new w1 _ _ _,hS.below b,hN,hl,OwnMt.start _ _,OffB.old hS (fun k hk=>by simp [Value.ownBlock] at hk)⟩
theorem mrAt_snoc2 (R:List Mr) (x:Mr):∀ k,k < R.length+1→mrAt (R ++ [x]) k = if k < R.length then mrAt R k else x:=by
 intro k hk
 unfold mrAt
 by_cases g:k < R.length
 ·rw [if_pos g,List.getElem?_append_left g]
 ·rw [if_neg g,show k = R.length by omega,List.getElem?_append_right (Nat.le_refl _)]
  simp
def RowIf (K n:Nat) (w:World) (ro:Option Addr) (rc:Nat) (S:List Nat):Prop:=0 < K→∃ g,ro = some ⟨g,0,none⟩∧rc = n∧RowB w g S
theorem RowIf.all {K n:Nat} {w w':World} {ro:Option Addr} {rc:Nat} {S:List Nat} (h:RowIf K n w ro rc S) (hb:Below w.heap.size w w'):RowIf K n w' ro rc S:=fun hk=>by
 obtain ⟨g,e,e2,q⟩:=h hk
 exact ⟨g,e,e2,q.below hb q.lt⟩
theorem RowIf.putM {K n:Nat} {w:World} {ro:Option Addr} {rc:Nat} {S:List Nat} (h:RowIf K n w ro rc S) {b:Nat} {x y z:Value} (hx:BoxM w b x y z) (u u' u'':Value):RowIf K n (((w.setCell ⟨b,0,none⟩ u).setCell ⟨b,1,none⟩ u').setCell ⟨b,2,none⟩ u'') ro rc S:=fun hk=>by
 obtain ⟨g,e,e2,q⟩:=h hk
 exact ⟨g,e,e2,q.three (rowB_neM q hx) _ _ _⟩
def TriAns (w w':World) (ok:Bool) (r c n K:Nat) (S:List Nat) (V:Nat→List Nat) (tau:Nat→Nat) (e:Ending):Prop :=
 (ok = true∧∃ ro rc v R,e = .returned (.tuple #[.agg #[.int .i64 r,.int .i64 c,.slice ro n rc],v,.int .i64 0])∧NewB w.heap.size ro (mxL S)∧BitsAt w' ro rc (mxL S)∧OwnMt (w.heap.size+1+1) w' v R∧R.length = K∧(∀ k,k < K→(mrAt R k).V = V k∧(mrAt R k).tau = tau k)∧RowIf K n w' ro rc S) ∨
 (ok = false∧e = .returned (.tuple #[.agg #[.int .i64 0,.int .i64 0,.slice none 0 0],.slice none 0 0,.int .i64 2]))
end Go.Proofs.YtcbcmlaogehimaaGreatDoor
namespace Go.Proofs.YtcbcmlaogehimaaGreatDoor
open Go.RowKit
attribute [local go_sem ↓] Go.wp_at_zero Go.wp_at_succ
structure UrSt (w wr:World) (h r nq:Nat) (S:List Nat) (qo:Option Addr) (qc:Nat) (v:Value) (R:List Mr):Prop where
 bel:Below w.heap.size w wr
 hh:w.heap.size+1≤h
 res:BoxM wr w.heap.size (.int .i64 0) (.int .i64 0) (.slice none 0 0)
 qb:BoxM wr h (.int .i64 r) (.int .i64 r) (.slice qo nq qc)
 bits:BitsAt wr qo qc (mxL S)
 new:NewB w.heap.size qo (mxL S)
 len:S.length = nq
 l:OwnMt 0 wr v R
theorem UrSt.all {w wr w':World} {h r nq:Nat} {S:List Nat} {qo:Option Addr} {qc:Nat} {v:Value} {R:List Mr} (t:UrSt w wr h r nq S qo qc v R) (hb:Below wr.heap.size wr w'):UrSt w w' h r nq S qo qc v R :=
 ⟨t.bel.trans (hb.mono t.bel.size),t.hh,t.res.all hb,t.qb.all hb,t.bits.below hb,t.new,t.len,t.l.below hb⟩
theorem UrSt.put {w wr:World} {h r nq:Nat} {S U:List Nat} {qo po:Option Addr} {qc pc:Nat} {v:Value} {R:List Mr} (t:UrSt w wr h r nq S qo qc v R) (hU:BitsAt wr po pc (mxL U)) (hn:NewB w.heap.size po (mxL U)) (hl:U.length = nq) :
  UrSt w (((wr.setCell ⟨h,0,none⟩ (.int .i64 r)).setCell ⟨h,1,none⟩ (.int .i64 r)).setCell ⟨h,2,none⟩ (.slice po nq pc)) h r nq U po pc v R:=by
 have hh:=t.hh
 have n0:w.heap.size ≠ h:=by omega
 exact ⟨below_putM t.bel (by omega) _ _ _,hh,t.res.three14 n0 _ _ _,t.qb.put _ _ _,hU.putM t.qb _ _ _,hn,hl,t.l.putQ t.qb _ _ _⟩
theorem UrSt.start {w w1:World} {r nq:Nat} {S:List Nat} {qo:Option Addr} {qc:Nat} {v:Value} {R:List Mr} (hB:Below (w.heap.size+1) (w.alloc (.cells #[.int .i64 0,.int .i64 0,.slice none 0 0] 24)) w1) (hS:BitsAt w1 qo qc (mxL S)) (hN:NewB w.heap.size qo (mxL S)) (hl:S.length = nq) (hL:OwnMt 0 w v R) :
  UrSt w (w1.alloc (.cells #[.int .i64 r,.int .i64 r,.slice qo nq qc] 24)) w1.heap.size r nq S qo qc v R:=by
 have b0:=below_alloc9 w (.cells #[.int .i64 0,.int .i64 0,.slice none 0 0] 24)
 have s0:=size_alloc9 w (.cells #[.int .i64 0,.int .i64 0,.slice none 0 0] 24)
 have x0:=BoxM.new w (.int .i64 0) (.int .i64 0) (.slice none 0 0)
 rw [← s0] at hB
 have b:=below_alloc9 w1 (.cells #[.int .i64 r,.int .i64 r,.slice qo nq qc] 24)
 have b1:=b0.trans (hB.mono b0.size)
 have hs:=hB.size
 rw [s0] at hs
 exact ⟨b1.trans (b.mono b1.size),hs,(x0.all hB).all b,BoxM.new w1 _ _ _,hS.below b,hN,hl,((hL.below b0).below hB).below b⟩
theorem OwnMt.apart {base:Nat} {w:World} {b n0 c0:Nat} {R:List Mr} (h:OwnMt base w (.slice (some ⟨b,0,none⟩) n0 c0) R) {g:Nat} {x y z:Value} (hx:BoxM w g x y z):b ≠ g:=by
 rcases h.1.2 with ⟨e,_⟩ | ⟨k,cap,cur,hv,hk,hh,rest⟩
 ·cases e
 ·simp only [Value.slice.injEq,Option.some.injEq,Addr.mk.injEq] at hv
  obtain ⟨⟨rfl,_⟩,_⟩:=hv
  rintro rfl
  have e:=hh.symm.trans hx
  simp at e
theorem upright_of (r nq K lc:Nat) (lo:Option Addr) (V QT:Nat→List Nat) (tau:Nat→Nat) (R:List Mr) (w:World) (h36:nq≤36) (hK6:K≤6) (hl:OwnMt 0 w (.slice lo K lc) R) (hRl:R.length = K) (hRm:∀ k,k < K→(mrAt R k).V = V k∧(mrAt R k).tau = tau k)
  (lQ:∀ t,(QT t).length = nq) (lV:∀ j,(V j).length = r - j)
  (C1:∀ w',Calls Tryz.prog 170 #[.int .i64 r] w' fun e w''=>∃ qo qc,e = .returned (.tuple #[.agg #[.int .i64 r,.int .i64 r,.slice qo nq qc],.int .i64 0])∧NewB w'.heap.size qo (mxL (QT 0))∧BitsAt w'' qo qc (mxL (QT 0))∧Below w'.heap.size w' w'')
  (C2:∀ w' t j po pc vo vc,t < K→j = K - 1 - t→Below w.heap.size w w'→BitsAt w' po pc (mxL (QT t))→BitsAt w' vo vc (mxL (V j))→Calls Tryz.prog 196 #[.agg #[.int .i64 r,.int .i64 r,.slice po nq pc],.int .i64 (j:Nat),.int .i64 0,.slice vo (r - j) vc,.int .u64 (tau j:Nat)] w' fun e w''=>∃ qo qc,e = .returned (.tuple #[.agg #[.int .i64 r,.int .i64 r,.slice qo nq qc],.int .i64 0])∧NewB w'.heap.size qo (mxL (QT (t+1)))∧BitsAt w'' qo qc (mxL (QT (t+1)))∧Below w'.heap.size w' w'')
  (C3:∀ w' x,x < 18446744073709551616→Calls Tryz.prog 118 #[.int .u64 (x:Nat)] w' fun e w''=>e = .returned (.bool (fFin x))∧Below w'.heap.size w' w'') :
  Calls Tryz.prog 152 #[.int .i64 r,.slice lo K lc] w fun e w'=>∃ t qo qc,t≤K∧(t = K ∨ fnK (mxL (QT t)) nq = false)∧e = .returned (.agg #[.int .i64 r,.int .i64 r,.slice qo nq qc])∧NewB w.heap.size qo (mxL (QT t))∧BitsAt w' qo qc (mxL (QT t))∧Below w.heap.size w w':=by
 have K1:=hide (C1 (w.alloc (.cells #[.int .i64 0,.int .i64 0,.slice none 0 0] 24)))
 simp only [size_alloc9] at K1
 have K2:=hide C2;have K3:=hide C3;have LQ:=hide lQ;have LV:=hide lV;have HL:=hide hl;have HRL:=hide hRl;have HRM:=hide hRm
 have hw2:IntKind.i64.wrap ((K:Int) - 1) = (K:Int) - 1:=wrap_in _ (by omega)
 clear C1 C2 C3 lQ lV hl hRl hRm
 go_enter Tryz.func152,Tryz.ntmps152
 go_wp2_with fail
 go_step3
 go_wp2_with fail
 refine (uH K1).mono ?_
 rintro e w1 ⟨qo,qc,rfl,hn,hq,hb⟩
 have ST:=hide (UrSt.start (r:=r) (v:=.slice lo K lc) (R:=R) hb hq (hn.least (by omega)) (uH LQ 0) (uH HL))
 clear hb hq hn K1 HL
 go_wp2_with fail
 go_step3
 go_wp2_with fail
 generalize w1.heap.size = h at *
 go_loopg [7] K (fun g a wr=>∃ (t:Nat) (qo:Option Addr) (qc:Nat),t+g = K∧a = .int .i64 ((K:Int) - 1 - (t:Int))∧Hid (UrSt w wr h r nq (QT t) qo qc (.slice lo K lc) R))
 case atStart=>exact ⟨0,qo,qc,by omega,by simp,ST⟩
 case round =>
  clear ST hw2
  obtain ⟨t,qo,qc,htg,rfl,hS⟩:=hrel
  cases gk with
  | zero =>
   have htt:t = K:=by omega
   subst htt
   have hz:(t:Int) - 1 - (t:Int) = -1:=by omega
   rw [hz]
   have S3:=uH hS
   have q0:=S3.qb.c0;have q1:=S3.qb.c1;have q2:=S3.qb.c2
   have s0:=S3.res.c0;have s1:=S3.res.c1;have s2:=S3.res.c2
   have f0:=S3.res.free 0;have f1:=S3.res.free 1;have f2:=S3.res.free 2
   have XP:=S3.res.put (.int .i64 r) (.int .i64 r) (.slice qo nq qc)
   have z0:=XP.c0;have z1:=XP.c1;have z2:=XP.c2
   have BP:=hide (below_putM S3.bel (b:=w.heap.size) (Nat.le_refl _) (.int .i64 r) (.int .i64 r) (.slice qo nq qc))
   have QB:=hide (S3.bits.putM S3.res (.int .i64 r) (.int .i64 r) (.slice qo nq qc))
   have HN:=hide S3.new
   clear XP S3 hS
   go_wp2_with fail
   try rw [Exit.noGoto_ret]
   exact bodyPost_ret (v:=.agg #[.int .i64 r,.int .i64 r,.slice qo nq qc]) (by simp [results,Tryz.results152,go_sem,z0,z1,z2]) rfl ⟨t,_,_,by omega,.inl rfl,rfl,uH HN,uH QB,uH BP⟩
  | succ g =>
   have hlt:t < K:=by omega
   obtain ⟨m,hm⟩:∃ m,K - 1 - t = m:=⟨_,rfl⟩
   have hmI:(K:Int) - 1 - (t:Int) = (m:Int):=by omega
   rw [hmI]
   have hmj:(m:Int) < (K:Int):=by omega
   obtain ⟨gl,cl,el,gl1,gl2,k0,k1,kb⟩:=(uH hS).l.at (k:=m) (by rw [uH HRL];omega)
   simp only [Value.slice.injEq] at el
   obtain ⟨rfl,hjR,rfl⟩:=el
   clear hjR gl1 gl2
   obtain ⟨ev,et⟩:=uH HRM m (by omega)
   rw [ev] at k0 kb
   rw [et] at k1
   rw [uH LV m] at k0
   have GQ:=hide (fun w' po pc vo vc hb hp hv=>uH K2 w' t m po pc vo vc hlt hm.symm hb hp hv)
   have KB:=hide kb
   have LN:=hide (uH LQ (t+1))
   generalize (mrAt R m).ao = vo at *
   generalize (mrAt R m).cap = vc at *
   generalize tau m = tm at *
   generalize V m = vm at *
   generalize hNT:QT (t+1) = nt at *
   clear kb ev et
   go_wp2_with fail
   refine at_world (fun W=>UrSt w W h r nq (QT t) qo qc (.slice (some ⟨gl,0,none⟩) K lc) R∧(W.cell? ⟨gl,m * 2,none⟩ = some (.slice vo (r - m) vc)∧W.cell? ⟨gl,m * 2+1,none⟩ = some (.int .u64 (tm:Nat)))∧BitsAt W vo vc (mxL vm)) ⟨uH hS,⟨k0,k1⟩,uH KB⟩ ?_
   clear hS k0 k1 KB
   rintro W ⟨st,⟨k0,k1⟩,kb⟩
   have hd:=(Below.refl W.heap.size W).drew
   have ST:=hide (st.all hd);have KB:=hide (kb.below hd)
   replace k0:=cell_keep k0 hd
   replace k1:=cell_keep k1 hd
   clear st kb hd
   have q0:=(uH ST).qb.c0;have q1:=(uH ST).qb.c1;have q2:=(uH ST).qb.c2
   refine wp_region_held_drew (S:=(fun w'=>w'.cell? ⟨gl,m * 2,none⟩ = some (.slice vo (r - m) vc)∧w'.cell? ⟨gl,m * 2+1,none⟩ = some (.int .u64 (tm:Nat)))) (by kernel_rfl) ?_ (fun hHeld=>?_)
   ·exact ⟨k0,k1⟩
   refine wpAnyH_take (i:=1) (oi:={ dst:=some 24,op:=Op.move (Operand.tmp 7),type:=3,pos := "mirrors.go:42",after:=#[],guard:=none }) (v:=(Value.int .i64 (m:Int))) rfl (by kernel_rfl) (by kernel_rfl) (by kernel_rfl) (fun _ _ _ h=>h) (Or.inl ⟨by rfl,?_⟩) (by assumption) ?_
   ·(intro w hSw;(try dsimp only at hSw);go_simp)
   simp only [Act.put,List.setIfInBounds_toArray,List.set_cons_zero,List.set_cons_succ]
   refine wpAnyH_take (i:=2) (oi:={ dst:=some 25,op:=Op.move (Operand.tmp 1),type:=147,pos := "mirrors.go:42",after:=#[],guard:=none }) (v:=(Value.slice (some ⟨gl,0,none⟩) K lc)) rfl (by kernel_rfl) (by kernel_rfl) (by kernel_rfl) (fun _ _ _ h=>h) (Or.inl ⟨by rfl,?_⟩) (by assumption) ?_
   ·(intro w hSw;(try dsimp only at hSw);go_simp)
   simp only [Act.put,List.setIfInBounds_toArray,List.set_cons_zero,List.set_cons_succ]
   refine wpAnyH_take (i:=3) (oi:={ dst:=some 26,op:=Op.move (Operand.tmp 7),type:=3,pos := "mirrors.go:42",after:=#[],guard:=none }) (v:=(Value.int .i64 (m:Int))) rfl (by kernel_rfl) (by kernel_rfl) (by kernel_rfl) (fun _ _ _ h=>h) (Or.inl ⟨by rfl,?_⟩) (by assumption) ?_
   ·(intro w hSw;(try dsimp only at hSw);go_simp)
   simp only [Act.put,List.setIfInBounds_toArray,List.set_cons_zero,List.set_cons_succ]
   refine wpAnyH_take (i:=4) (oi:={ dst:=some 27,op:=Op.indexAddr 147 (Operand.tmp 25) (Operand.tmp 26),type:=0,pos := "mirrors.go:42",after:=#[{ on:=2,ground:=Ground.data },{ on:=3,ground:=Ground.data }],guard:=none }) (v:=(Value.pointer (some ⟨gl,m * 2,none⟩))) rfl (by kernel_rfl) (by kernel_rfl) (by kernel_rfl) (fun _ _ _ h=>h) (Or.inl ⟨by rfl,?_⟩) (by assumption) ?_
   ·(intro w hSw;(try dsimp only at hSw);go_simp)
   simp only [Act.put,List.setIfInBounds_toArray,List.set_cons_zero,List.set_cons_succ]
   refine wpAnyH_take (i:=5) (oi:={ dst:=some 28,op:=Op.fieldAddr 176 (Operand.tmp 27) 0,type:=0,pos := "mirrors.go:42",after:=#[{ on:=4,ground:=Ground.data }],guard:=none }) (v:=(Value.pointer (some ⟨gl,m * 2,none⟩))) rfl (by kernel_rfl) (by kernel_rfl) (by kernel_rfl) (fun _ _ _ h=>h) (Or.inl ⟨by rfl,?_⟩) (by assumption) ?_
   ·(intro w hSw;(try dsimp only at hSw);go_simp)
   simp only [Act.put,List.setIfInBounds_toArray,List.set_cons_zero,List.set_cons_succ]
   refine wpAnyH_take (i:=6) (oi:={ dst:=some 29,op:=Op.load 22 (Operand.tmp 28),type:=22,pos := "mirrors.go:42",after:=#[{ on:=5,ground:=Ground.data }],guard:=none }) (v:=(Value.slice vo (r - m) vc)) rfl (by kernel_rfl) (by kernel_rfl) (by kernel_rfl) (fun _ _ _ h=>h) (Or.inl ⟨by rfl,?_⟩) (by assumption) ?_
   ·(intro w hSw;(try dsimp only at hSw);go_simp)
   simp only [Act.put,List.setIfInBounds_toArray,List.set_cons_zero,List.set_cons_succ]
   refine wpAnyH_take (i:=7) (oi:={ dst:=some 30,op:=Op.move (Operand.tmp 1),type:=147,pos := "mirrors.go:42",after:=#[],guard:=none }) (v:=(Value.slice (some ⟨gl,0,none⟩) K lc)) rfl (by kernel_rfl) (by kernel_rfl) (by kernel_rfl) (fun _ _ _ h=>h) (Or.inl ⟨by rfl,?_⟩) (by assumption) ?_
   ·(intro w hSw;(try dsimp only at hSw);go_simp)
   simp only [Act.put,List.setIfInBounds_toArray,List.set_cons_zero,List.set_cons_succ]
   refine wpAnyH_take (i:=8) (oi:={ dst:=some 31,op:=Op.move (Operand.tmp 7),type:=3,pos := "mirrors.go:42",after:=#[],guard:=none }) (v:=(Value.int .i64 (m:Int))) rfl (by kernel_rfl) (by kernel_rfl) (by kernel_rfl) (fun _ _ _ h=>h) (Or.inl ⟨by rfl,?_⟩) (by assumption) ?_
   ·(intro w hSw;(try dsimp only at hSw);go_simp)
   simp only [Act.put,List.setIfInBounds_toArray,List.set_cons_zero,List.set_cons_succ]
   refine wpAnyH_take (i:=9) (oi:={ dst:=some 32,op:=Op.indexAddr 147 (Operand.tmp 30) (Operand.tmp 31),type:=0,pos := "mirrors.go:42",after:=#[{ on:=7,ground:=Ground.data },{ on:=8,ground:=Ground.data }],guard:=none }) (v:=(Value.pointer (some ⟨gl,m * 2,none⟩))) rfl (by kernel_rfl) (by kernel_rfl) (by kernel_rfl) (fun _ _ _ h=>h) (Or.inl ⟨by rfl,?_⟩) (by assumption) ?_
   ·(intro w hSw;(try dsimp only at hSw);go_simp)
   simp only [Act.put,List.setIfInBounds_toArray,List.set_cons_zero,List.set_cons_succ]
   refine wpAnyH_take (i:=10) (oi:={ dst:=some 33,op:=Op.fieldAddr 176 (Operand.tmp 32) 1,type:=0,pos := "mirrors.go:42",after:=#[{ on:=9,ground:=Ground.data }],guard:=none }) (v:=(Value.pointer (some ⟨gl,m * 2+1,none⟩))) rfl (by kernel_rfl) (by kernel_rfl) (by kernel_rfl) (fun _ _ _ h=>h) (Or.inl ⟨by rfl,?_⟩) (by assumption) ?_
   ·(intro w hSw;(try dsimp only at hSw);go_simp)
   simp only [Act.put,List.setIfInBounds_toArray,List.set_cons_zero,List.set_cons_succ]
   refine wpAnyH_take (i:=11) (oi:={ dst:=some 34,op:=Op.load 69 (Operand.tmp 33),type:=69,pos := "mirrors.go:42",after:=#[{ on:=10,ground:=Ground.data }],guard:=none }) (v:=(Value.int .u64 (tm:Int))) rfl (by kernel_rfl) (by kernel_rfl) (by kernel_rfl) (fun _ _ _ h=>h) (Or.inl ⟨by rfl,?_⟩) (by assumption) ?_
   ·(intro w hSw;(try dsimp only at hSw);go_simp)
   simp only [Act.put,List.setIfInBounds_toArray,List.set_cons_zero,List.set_cons_succ]
   refine wpAnyH_ready (rs:=[0]) (by kernel_rfl) (by simp) ?_
   refine AllReadyH.cons (o:={ dst:=some 23,op:=Op.load 24 (Operand.tmp 5),type:=24,pos := "mirrors.go:42",after:=#[],guard:=none }) rfl (fun KK hK=>?_) AllReadyH.nil
   go_simp
   refine hK.out _ _ ?_ (fun hHeld=>?_)
   ·exact ⟨k0,k1⟩
   clear hK KK
   refine wpAnyH_ready (rs:=[12]) (by kernel_rfl) (by simp) ?_
   refine AllReadyH.cons (o:={ dst:=some 35,op:=Op.call { callee:=Callee.value (Operand.func 196),args:=#[Operand.tmp 23,Operand.tmp 24,Operand.const (Value.int IntKind.i64 0),Operand.tmp 29,Operand.tmp 34],argTypes:=#[24,3,3,22,69] },type:=28,pos := "mirrors.go:42",after:=#[{ on:=0,ground:=Ground.data },{ on:=1,ground:=Ground.data },{ on:=6,ground:=Ground.data },{ on:=11,ground:=Ground.data }],guard:=none }) rfl (fun KK hK=>?_) AllReadyH.nil
   go_simp
   refine (uH GQ _ _ _ _ _ (uH ST).bel (uH ST).bits (uH KB)).mono ?_
   rintro e w5 ⟨qo5,qc5,rfl,hn5,hq5,hb⟩
   clear q0 q1 q2
   have S5:=(uH ST).all hb
   replace k0:=cell_keep k0 hb
   replace k1:=cell_keep k1 hb
   have HS5:=hide (And.intro k0 k1)
   have ha:=S5.l.apart S5.qb
   have HS6:=hide (And.intro (show (((w5.setCell ⟨h,0,none⟩ (.int .i64 r)).setCell ⟨h,1,none⟩ (.int .i64 r)).setCell ⟨h,2,none⟩ (.slice qo5 nq qc5)).cell? ⟨gl,m * 2,none⟩ = some (.slice vo (r - m) vc) by rw [cell_setCell_other _ _ _ _ ha,cell_setCell_other _ _ _ _ ha,cell_setCell_other _ _ _ _ ha];exact k0) (show (((w5.setCell ⟨h,0,none⟩ (.int .i64 r)).setCell ⟨h,1,none⟩ (.int .i64 r)).setCell ⟨h,2,none⟩ (.slice qo5 nq qc5)).cell? ⟨gl,m * 2+1,none⟩ = some (.int .u64 (tm:Nat)) by rw [cell_setCell_other _ _ _ _ ha,cell_setCell_other _ _ _ _ ha,cell_setCell_other _ _ _ _ ha];exact k1))
   have q0:=S5.qb.c0;have q1:=S5.qb.c1;have q2:=S5.qb.c2
   have f0:=S5.qb.free 0;have f1:=S5.qb.free 1;have f2:=S5.qb.free 2
   have P5:=hide (S5.put hq5 (hn5.least (uH ST).bel.size) (uH LN))
   clear hb hq5 hn5 S5 GQ ST KB ha k0 k1
   go_wp2_with fail
   refine hK.out _ _ ?_ (fun hHeld=>?_)
   ·exact uH HS5
   clear hK KK
   refine wpAnyH_take (i:=13) (oi:={ dst:=some 22,op:=Op.move (Operand.tmp 35),type:=28,pos := "mirrors.go:42",after:=#[{ on:=12,ground:=Ground.data }],guard:=none }) (v:=(Value.tuple #[(Value.agg #[.int .i64 (r:Int),.int .i64 (r:Int),.slice qo5 nq qc5]),.int .i64 0])) rfl (by kernel_rfl) (by kernel_rfl) (by kernel_rfl) (fun _ _ _ h=>h) (Or.inl ⟨by rfl,?_⟩) (by assumption) ?_
   ·(intro w hSw;(try dsimp only at hSw);go_simp)
   simp only [Act.put,List.setIfInBounds_toArray,List.set_cons_zero,List.set_cons_succ]
   refine wpAnyH_take (i:=14) (oi:={ dst:=some 36,op:=Op.extract (Operand.tmp 22) 0,type:=24,pos := "mirrors.go:42",after:=#[{ on:=13,ground:=Ground.data }],guard:=none }) (v:=(Value.agg #[.int .i64 (r:Int),.int .i64 (r:Int),.slice qo5 nq qc5])) rfl (by kernel_rfl) (by kernel_rfl) (by kernel_rfl) (fun _ _ _ h=>h) (Or.inl ⟨by rfl,?_⟩) (by assumption) ?_
   ·(intro w hSw;(try dsimp only at hSw);go_simp)
   simp only [Act.put,List.setIfInBounds_toArray,List.set_cons_zero,List.set_cons_succ]
   refine wpAnyH_take (i:=15) (oi:={ dst:=some 37,op:=Op.extract (Operand.tmp 22) 1,type:=27,pos := "mirrors.go:42",after:=#[{ on:=13,ground:=Ground.data },{ on:=16,ground:=Ground.gcOnly Departure.lateStores }],guard:=none }) (v:=(Value.int .i64 0)) rfl (by kernel_rfl) (by kernel_rfl) (by kernel_rfl) (fun _ _ _ h=>h) (Or.inl ⟨by rfl,?_⟩) (by assumption) ?_
   ·(intro w hSw;(try dsimp only at hSw);go_simp)
   simp only [Act.put,List.setIfInBounds_toArray,List.set_cons_zero,List.set_cons_succ]
   refine wpAnyH_ready (rs:=[16]) (by kernel_rfl) (by simp) ?_
   refine AllReadyH.cons (o:={ dst:=none,op:=Op.store 24 (Operand.tmp 5) (Operand.tmp 36),type:=0,pos := "mirrors.go:42",after:=#[{ on:=14,ground:=Ground.data },{ on:=12,ground:=Ground.chain },{ on:=0,ground:=Ground.phase },{ on:=1,ground:=Ground.phase },{ on:=2,ground:=Ground.phase },{ on:=3,ground:=Ground.phase },{ on:=4,ground:=Ground.phase },{ on:=5,ground:=Ground.phase },{ on:=6,ground:=Ground.phase },{ on:=7,ground:=Ground.phase },{ on:=8,ground:=Ground.phase },{ on:=9,ground:=Ground.phase },{ on:=10,ground:=Ground.phase },{ on:=11,ground:=Ground.phase },{ on:=12,ground:=Ground.phase },{ on:=13,ground:=Ground.phase },{ on:=14,ground:=Ground.phase },{ on:=15,ground:=Ground.textOnly Departure.lateStores }],guard:=none }) rfl (fun KK hK=>?_) AllReadyH.nil
   go_simp
   refine hK.out _ _ ?_ (fun hHeld=>?_)
   ·exact uH HS6
   clear hK KK
   refine wpAnyH_done (by kernel_rfl) ?_ _
   clear q0 q1 q2 f0 f1 f2 HS5 HS6
   have z2:=(uH P5).qb.c2
   go_wp2_with fail
   clear z2
   go_loopg [41] nq (fun g2 a wr=>∃ i:Nat,i+g2 = nq∧a = .int .i64 i∧Hid (∀ k,k < i→fFin (atB (mxL nt) k) = true)∧Hid (UrSt w wr h r nq nt qo5 qc5 (.slice (some ⟨gl,0,none⟩) K lc) R))
   case atStart=>exact ⟨0,by omega,rfl,fun k hk=>absurd hk (Nat.not_lt_zero k),by first | exact P5 | exact hide (uH P5)⟩
   case round =>
    clear P5
    obtain ⟨i,hig,rfl,hF,hS⟩:=hrel
    cases gk with
    | zero =>
     have hii:¬ ((i:Int) < (nq:Int)):=by omega
     have hw3:IntKind.i64.wrap ((m:Int) - 1) = (m:Int) - 1:=wrap_in _ (by omega)
     go_wp2_with fail
     go_roundg g
     case measure=>omega
     case rel=>exact ⟨t+1,qo5,qc5,by omega,by rw [show (m:Int) - 1 = (K:Int) - 1 - ((t+1:Nat):Int) by omega],by rw [hNT];exact hS⟩
    | succ g2 =>
     have hiI:(i:Int) < (nq:Int):=by omega
     obtain ⟨b5,o5,rfl,_,hc5⟩:=(uH hS).bits.ne (by rw [mxL_len,(uH hS).len];omega)
     have c5:=hc5 i (by rw [mxL_len,(uH hS).len];omega)
     have hx:=(uH hS).bits.lt i
     have ec:(mxL nt)[i]?.getD 0 = (atB (mxL nt) i:Int):=((uH hS).bits.wf i).1
     have HFI:=hide (fun (e:fFin (atB (mxL nt) i) = true)=>(show ∀ k,k < i+1→fFin (atB (mxL nt) k) = true from fun k hk=>by
      rcases Nat.lt_or_ge k i with g | g
      ·exact uH hF k g
      ·rw [show k = i by omega];exact e))
     have HNO:=hide (fun (e:fFin (atB (mxL nt) i) = false)=>fnK_no (mxL nt) nq i (by omega) e)
     have KX:=hide (fun w'=>uH K3 w' _ hx)
     generalize atB (mxL nt) i = x at *
     clear hx hc5 ec
     go_wp2_with fail
     clear c5
     refine (uH KX _).mono ?_
     rintro e w6 ⟨rfl,hb⟩
     have S6:=hide ((uH hS).all hb)
     clear hb hS KX
     cases hfx:fFin x with
     | true =>
      go_wp2_with fail
      go_roundg g2
      case measure=>omega
      case rel=>exact ⟨i+1,by omega,by go_num,hide (uH HFI hfx),S6⟩
     | false =>
      have S3:=uH S6
      have hno:=hide (uH HNO hfx)
      have q0:=S3.qb.c0;have q1:=S3.qb.c1;have q2:=S3.qb.c2
      have s0:=S3.res.c0;have s1:=S3.res.c1;have s2:=S3.res.c2
      have f0:=S3.res.free 0;have f1:=S3.res.free 1;have f2:=S3.res.free 2
      have XP:=S3.res.put (.int .i64 r) (.int .i64 r) (.slice (some ⟨b5,o5,none⟩) nq qc5)
      have z0:=XP.c0;have z1:=XP.c1;have z2:=XP.c2
      have BP:=hide (below_putM S3.bel (b:=w.heap.size) (Nat.le_refl _) (.int .i64 r) (.int .i64 r) (.slice (some ⟨b5,o5,none⟩) nq qc5))
      have QB:=hide (S3.bits.putM S3.res (.int .i64 r) (.int .i64 r) (.slice (some ⟨b5,o5,none⟩) nq qc5))
      have HN:=hide S3.new
      clear XP S3 S6
      go_wp2_with fail
      try rw [Exit.noGoto_ret]
      exact bodyPost_ret (v:=.agg #[.int .i64 r,.int .i64 r,.slice (some ⟨b5,o5,none⟩) nq qc5]) (by simp [results,Tryz.results152,go_sem,z0,z1,z2]) rfl ⟨t+1,_,_,by omega,.inr (by rw [hNT];exact uH hno),rfl,by rw [hNT];exact uH HN,by rw [hNT];exact uH QB,uH BP⟩
end Go.Proofs.YtcbcmlaogehimaaGreatDoor
