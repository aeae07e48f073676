/- Part 32 of the texts. -/
import Derived.Test.YtlnphkioddknfaaGreatDoorPartz31
import Derived.Test.YtlnphkioddknfaaGreatDoorPartz29
import Derived.Deep.RegionWith
import Derived.Deep.RegionLaw
import Derived.Test.YtlnphkioddknfaaGreatDoorPartz22
import Derived.Deep.RegionHeld3
import Derived.Test.YtlnphkioddknfaaGreatDoorPartz24
import Derived.Test.YtlnphkioddknfaaGreatDoorPartz30
import Derived.Test.YtlnphkioddknfaaGreatDoorPartz27
import Derived.Test.YtlnphkioddknfaaGreatDoorPartz25
set_option maxHeartbeats 4000000
set_option maxRecDepth 20000
namespace Go.Proofs.YtlnphkioddknfaaGreatDoor
open Go.RowKit
attribute [local go_sem ↓] Go.wp_at_zero Go.wp_at_succ
theorem toN_getD (I:List Int) (j:Nat) (hj:j < I.length):(toN I).getD j 0 = atB I j:=by
 rw [List.getD_eq_getElem?_getD,toN_at I j hj]
 rfl
theorem ldS_drop (L:List Nat) {j:Nat} (h:j < L.length):ldS (L.drop j) = if fK (L.getD j 0) = 0 then ldS (L.drop (j+1)) else fS (L.getD j 0):=by
 rw [List.drop_eq_getElem_cons h,List.getD_eq_getElem?_getD,List.getElem?_eq_getElem h]
 rfl
end Go.Proofs.YtlnphkioddknfaaGreatDoor
namespace Go.Proofs.YtlnphkioddknfaaGreatDoor
def apJ (r c:Nat) (S:List Nat) (i k:Nat) (vs:List Nat) (tau d j:Nat):List Nat:=mkM r c (fun p q=>if (k≤q∧i≤p∧p < i+vs.length)∧(q < d ∨ (q = d∧p < i+j)) then (apL c S i q vs tau).getD (p - i) 0 else elM c S p q)
theorem apJ_len (r c:Nat) (S:List Nat) (i k:Nat) (vs:List Nat) (tau d j:Nat):(apJ r c S i k vs tau d j).length = r * c:=mkM_len _ _ _
theorem apJ_0 (r c:Nat) (S:List Nat) (i k:Nat) (vs:List Nat) (tau:Nat) (h:S.length = r * c):apJ r c S i k vs tau k 0 = S:=by
 unfold apJ
 rw [← mkM_of r c S h]
 refine mkM_congr (fun p q _ _=>?_)
 rw [mkM_of r c S h,if_neg (fun g=>by omega)]
 rfl
theorem apJ_next (r c:Nat) (S:List Nat) (i k:Nat) (vs:List Nat) (tau d:Nat):apJ r c S i k vs tau d vs.length = apJ r c S i k vs tau (d+1) 0:=by
 unfold apJ
 refine mkM_congr (fun p q _ _=>?_)
 by_cases g:(k≤q∧i≤p∧p < i+vs.length)∧(q < d ∨ (q = d∧p < i+vs.length))
 ·rw [if_pos g,if_pos ⟨g.1,by omega⟩]
 ·rw [if_neg g,if_neg (fun g2=>g ⟨g2.1,by omega⟩)]
theorem apJ_all (r c:Nat) (S:List Nat) (i k:Nat) (vs:List Nat) (tau d:Nat) (hd:c≤d):apJ r c S i k vs tau d 0 = apM r c S i k vs tau:=by
 unfold apJ apM
 refine mkM_congr (fun p q _ hq=>?_)
 by_cases g:k≤q∧i≤p∧p < i+vs.length
 ·rw [if_pos g,if_pos ⟨g,by omega⟩]
 ·rw [if_neg g,if_neg (fun g2=>g g2.1)]
theorem apJ_set (r c:Nat) (S:List Nat) {i k:Nat} {vs:List Nat} {tau d j:Nat} (hi:i+vs.length≤r) (hd:d < c) (hk:k≤d) (hj:j < vs.length) :
  (apJ r c S i k vs tau d j).set ((i+j) * c+d) ((apL c S i d vs tau).getD j 0) = apJ r c S i k vs tau d (j+1):=by
 unfold apJ
 rw [mkM_set r c _ _ (show i+j < r by omega) hd]
 refine mkM_congr (fun p q _ _=>?_)
 by_cases e:p = i+j∧q = d
 ·obtain ⟨rfl,rfl⟩:=e
  rw [if_pos ⟨rfl,rfl⟩,if_pos ⟨⟨hk,by omega,by omega⟩,.inr ⟨rfl,by omega⟩⟩,show i+j - i = j by omega]
 ·rw [if_neg e]
  by_cases g:(k≤q∧i≤p∧p < i+vs.length)∧(q < d ∨ (q = d∧p < i+j))
  ·rw [if_pos g,if_pos ⟨g.1,by omega⟩]
  ·rw [if_neg g,if_neg (fun g2=>g ⟨g2.1,by omega⟩)]
theorem apL_at (c:Nat) (S:List Nat) (i q:Nat) (vs:List Nat) (tau:Nat) {j:Nat} (hj:j < vs.length) :
  (apL c S i q vs tau).getD j 0 = aV (elM c S (i+j) q) (fN (mV (mV tau (dtV 0 vs (colL c S i vs.length q))) (vs.getD j 0))):=by
 unfold apL
 rw [apV_at _ vs _ j (colL_len _ _ _ _ _).symm hj,colL_at c S i vs.length q hj]
theorem apL_lt (c:Nat) (S:List Nat) (i q:Nat) (vs:List Nat) (tau:Nat) {j:Nat} (hj:j < vs.length) (hS:∀ p q,elM c S p q < 18446744073709551616):(apL c S i q vs tau).getD j 0 < 18446744073709551616:=by
 rw [apL_at c S i q vs tau hj]
 exact aV_lt _ _ (hS _ _) (fN_lt _ (mV_lt _ _))
theorem dtV_snoc (x y:Nat):∀ (xs ys:List Nat) (s:Nat),xs.length = ys.length→dtV s (xs ++ [x]) (ys ++ [y]) = aV (dtV s xs ys) (mV x y):=by
 intro xs
 induction xs with
 | nil =>
  intro ys s h
  match ys with
  | []=>rfl
  | y' :: ys=>cases h
 | cons x' xs ih =>
  intro ys s h
  match ys with
  | []=>cases h
  | y' :: ys=>exact ih ys _ (by simpa using h)
theorem dtK_dtV (I J:List Int):∀ j,j≤I.length→j≤J.length→dtK I J j = dtV 0 ((toN I).take j) ((toN J).take j):=by
 intro j
 induction j with
 | zero=>intro _ _;rfl
 | succ j ih =>
  intro h1 h2
  rw [toN_take I j h1,toN_take J j h2,dtV_snoc _ _ _ _ _ (by simp [toN_len];omega),← ih (by omega) (by omega)]
  rfl
end Go.Proofs.YtlnphkioddknfaaGreatDoor
namespace Go.Proofs.YtlnphkioddknfaaGreatDoor
def clJ (r c:Nat) (S:List Nat) (j b i:Nat):List Nat:=mkM r c (fun p q=>if q = j∧j≤p∧p < i then (if p = j then b else 0) else elM c S p q)
theorem clJ_len (r c:Nat) (S:List Nat) (j b i:Nat):(clJ r c S j b i).length = r * c:=mkM_len _ _ _
theorem clJ_first (r c:Nat) (S:List Nat) {j:Nat} (b:Nat) (h:S.length = r * c) (hj:j < r) (hc:j < c):S.set (j * c+j) b = clJ r c S j b (j+1):=by
 have e:S = mkM r c (fun p q=>elM c S p q):=by
  conv=>lhs;rw [← mkM_of r c S h]
  rfl
 conv=>lhs;rw [e]
 rw [mkM_set r c _ _ hj hc]
 unfold clJ
 refine mkM_congr (fun p q _ _=>?_)
 by_cases g:p = j∧q = j
 ·rw [if_pos g,if_pos ⟨g.2,by omega,by omega⟩,if_pos g.1]
 ·rw [if_neg g,if_neg (fun g2=>g (by omega))]
theorem clJ_set (r c:Nat) (S:List Nat) {j i:Nat} (b:Nat) (hj:j < i) (hi:i < r) (hc:j < c):(clJ r c S j b i).set (i * c+j) 0 = clJ r c S j b (i+1):=by
 unfold clJ
 rw [mkM_set r c _ _ hi hc]
 refine mkM_congr (fun p q _ _=>?_)
 by_cases g:p = i∧q = j
 ·rw [if_pos g,if_pos ⟨g.2,by omega,by omega⟩,if_neg (by omega)]
 ·rw [if_neg g]
  by_cases g2:q = j∧j≤p∧p < i
  ·rw [if_pos g2,if_pos (show q = j∧j≤p∧p < i+1 by omega)]
  ·rw [if_neg g2,if_neg (show ¬ (q = j∧j≤p∧p < i+1) by omega)]
def clM (r c:Nat) (S:List Nat) (j b:Nat):List Nat:=clJ r c S j b r
theorem clM_len (r c:Nat) (S:List Nat) (j b:Nat):(clM r c S j b).length = r * c:=clJ_len _ _ _ _ _ _
def qxL (r c:Nat) (S:List Nat) (j:Nat):List Nat:=colL c S j (r - j) j
theorem qxL_len (r c:Nat) (S:List Nat) (j:Nat):(qxL r c S j).length = r - j:=colL_len _ _ _ _ _
def qrS (r c:Nat) (S:List Nat) (j:Nat):List Nat:=clM r c (apM r c S j j (mrV (qxL r c S j)) (mrT (qxL r c S j))) j (mrB (qxL r c S j))
theorem qrS_len (r c:Nat) (S:List Nat) (j:Nat):(qrS r c S j).length = r * c:=clM_len _ _ _ _ _
def finL (xs:List Nat):Bool:=fnK (mxL xs) xs.length
def qrO (r c:Nat) (S:List Nat) (j:Nat):Bool:=finL (qxL r c S j) && mrK (qxL r c S j)
def qrR (r c:Nat) (S:List Nat):Nat→List Nat
 | 0=>S
 | j+1=>qrS r c (qrR r c S j) j
def qrX (r c:Nat) (S:List Nat) (j:Nat):List Nat:=qxL r c (qrR r c S j) j
def qrK (r c:Nat) (S:List Nat):Nat→Bool
 | 0=>true
 | j+1=>qrK r c S j && qrO r c (qrR r c S j) j
theorem qrR_len (r c:Nat) (S:List Nat) (h:S.length = r * c):∀ j,(qrR r c S j).length = r * c
 | 0=>h
 | _+1=>qrS_len _ _ _ _
theorem qrX_len (r c:Nat) (S:List Nat) (j:Nat):(qrX r c S j).length = r - j:=qxL_len _ _ _ _
def qrN (r c:Nat):Nat:=min c (r - 1)
theorem qrN_lt (r c j:Nat):j < qrN r c ↔ (j:Int) < (c:Int)∧(j:Int) < (r:Int) - 1:=by
 unfold qrN
 omega
def qrQ (r c:Nat) (S:List Nat) (K:Nat):Nat→List Nat
 | 0=>eyM r
 | t+1=>apM r r (qrQ r c S K t) (K - 1 - t) 0 (mrV (qrX r c S (K - 1 - t))) (mrT (qrX r c S (K - 1 - t)))
theorem qrQ_len (r c:Nat) (S:List Nat) (K:Nat):∀ t,(qrQ r c S K t).length = r * r
 | 0=>show (eyM r).length = r * r from mkM_len r r _
 | _+1=>apM_len _ _ _ _ _ _ _
def facQ (r c:Nat) (S:List Nat):List Nat:=qrQ r c S (qrN r c) (qrN r c)
def facR (r c:Nat) (S:List Nat):List Nat:=qrR r c S (qrN r c)
def facK (r c:Nat) (S:List Nat):Bool:=qrK r c S (qrN r c) && (finL (facQ r c S) && finL (facR r c S))
end Go.Proofs.YtlnphkioddknfaaGreatDoor
namespace Go.Proofs.YtlnphkioddknfaaGreatDoor
open Go.RowKit
attribute [local go_sem ↓] Go.wp_at_zero Go.wp_at_succ
theorem grown_trans14 {a w w':World} {o:Option Nat} (h:a.grownBy w o) (k:w.grownBy w' o):a.grownBy w' o :=
 ⟨k.os.trans h.os,k.tape.trans h.tape,k.output.trans h.output,Nat.le_trans h.size k.size,fun i hi hr=>(k.block i (Nat.lt_of_lt_of_le hi h.size) hr).trans (h.block i hi hr)⟩
theorem grown_below14 {w w':World} (h:Below w.heap.size w w') (o:Option Nat):w.grownBy w' o:=⟨h.os,h.tape,h.output,h.size,fun k hk _=>h.block k hk⟩
theorem grown_set14 (w:World) (g j:Nat) (v:Value):w.grownBy (w.setCell ⟨g,j,none⟩ v) (some g):=by
 have h:=(Below.refl w.heap.size w)
 refine ⟨rfl,rfl,rfl,?_,fun k _ hr=>Below.heap_setCell w ⟨g,j,none⟩ v k (fun e=>hr (by rw [e]))⟩
 simp [World.setCell]
structure SeSt (w wr:World) (g r c n:Nat) (S:List Nat):Prop where
 bel:w.grownBy wr (some g)
 a:BoxM wr w.heap.size (.int .i64 r) (.int .i64 c) (.slice (some ⟨g,0,none⟩) n n)
 row:RowB wr g S
theorem SeSt.start {w:World} {g n:Nat} {S:List Nat} (h:RowB w g S) (r c:Nat):SeSt w (w.alloc (.cells #[.int .i64 r,.int .i64 c,.slice (some ⟨g,0,none⟩) n n] 24)) g r c n S:=by
 have b:=below_alloc9 w (.cells #[.int .i64 r,.int .i64 c,.slice (some ⟨g,0,none⟩) n n] 24)
 exact ⟨grown_below14 b _,BoxM.new w _ _ _,h.below b h.lt⟩
theorem SeSt.set {w wr:World} {g r c n:Nat} {S:List Nat} (h:SeSt w wr g r c n S) (hg:g < w.heap.size) (p x:Nat):SeSt w (wr.setCell ⟨g,p,none⟩ (.int .u64 (x:Int))) g r c n (S.set p x) :=
 ⟨grown_trans14 h.bel (grown_set14 wr g p _),h.a.other (p:=⟨g,p,none⟩) (by show w.heap.size ≠ g;omega) _,h.row.set p x⟩
theorem settle_of (r c n j beta g p0:Nat) (S:List Nat) (T:Nat→List Nat) (P:Nat→Nat) (w:World) (h36:n≤36) (hr:r≤6) (hj:j < r) (h:RowB w g S) (lS:S.length = n) (lT:∀ i,(T i).length = n)
  (h0:j * c+j = p0∧p0 < n∧S.set p0 beta = T (j+1)) (hP:∀ i,j < i→i < r→i * c+j = P i∧P i < n∧(T i).set (P i) 0 = T (i+1)) :
  Calls Tryz.prog 236 #[.agg #[.int .i64 r,.int .i64 c,.slice (some ⟨g,0,none⟩) n n],.int .i64 j,.int .u64 beta] w fun e w'=>e = .returned (.tuple #[])∧RowB w' g (T r)∧w.grownBy w' (some g):=by
 have HG:=hide h.lt
 have ST:=hide (SeSt.start (n:=n) h r c)
 obtain ⟨q0,hq0⟩:∃ q,j * c = q:=⟨_,rfl⟩
 obtain ⟨e0,l0,s0⟩:=h0
 rw [hq0] at e0
 have HP:=hide hP;have LT:=hide lT
 have e1:IntKind.i64.wrap ((j:Int) * (c:Int)) = (q0:Int):=by
  rw [cast_mul10 j c,hq0]
  exact wrap_in _ (by omega)
 have e2:IntKind.i64.wrap ((q0:Int)+(j:Int)) = (p0:Int):=(wrap_in _ (by omega)).trans (by omega)
 have e3:(j:Int) * (c:Int) = (q0:Int):=by rw [cast_mul10 j c,hq0]
 have e4:(q0:Int)+(j:Int) = (p0:Int):=by omega
 have w1:IntKind.i64.wrap (q0:Int) = (q0:Int):=wrap_in _ (by omega)
 have w2:IntKind.i64.wrap (p0:Int) = (p0:Int):=wrap_in _ (by omega)
 obtain ⟨j1,hj1⟩:∃ j1,j+1 = j1:=⟨_,rfl⟩
 have e5:IntKind.i64.wrap ((j:Int)+1) = (j1:Int):=(wrap_in _ (by omega)).trans (by omega)
 have e6:(j:Int)+1 = (j1:Int):=by omega
 have hpI:(p0:Int) < (n:Int):=by omega
 have y0:=(uH ST).a.c0;have y1:=(uH ST).a.c1;have y2:=(uH ST).a.c2
 have d1:=(uH ST).row.cell p0 (by rw [lS];exact l0)
 have f1:=(uH ST).row.free p0
 have S1:=hide ((uH ST).set (uH HG) p0 beta)
 rw [s0,hj1] at S1
 have HJ1:=hide hj1
 clear hP lT h lS s0 hq0 l0 ST hj1
 go_enter Tryz.func236,Tryz.ntmps236
 go_wp2_with fail
 clear y0 y1 y2 d1 f1 e1 e2 e3 e4 e5 e6 w1 w2 hpI
 go_loopw [6] (fun a wr=>∃ i:Nat,j < i∧i≤r∧a = .int .i64 i∧Hid (SeSt w wr g r c n (T i))) (fun a _=>r - (intOf a).toNat)
 case atStart=>exact ⟨j1,by have:=uH HJ1;omega,by have:=uH HJ1;omega,by first | rfl | go_num,S1⟩
 case round =>
  clear S1
  obtain ⟨i,hji,hir,rfl,hS⟩:=hrel
  have y0:=(uH hS).a.c0
  by_cases hlt:i < r
  ·have hiI:(i:Int) < (r:Int):=by omega
   obtain ⟨e0,l0,s0⟩:=uH HP i hji hlt
   have y1:=(uH hS).a.c1;have y2:=(uH hS).a.c2
   obtain ⟨q,hq⟩:∃ q,i * c = q:=⟨_,rfl⟩
   rw [hq] at e0
   have e1:IntKind.i64.wrap ((i:Int) * (c:Int)) = (q:Int):=by
    rw [cast_mul10 i c,hq]
    exact wrap_in _ (by omega)
   have e2:IntKind.i64.wrap ((q:Int)+(j:Int)) = (P i:Int):=(wrap_in _ (by omega)).trans (by omega)
   have e3:(i:Int) * (c:Int) = (q:Int):=by rw [cast_mul10 i c,hq]
   have e4:(q:Int)+(j:Int) = (P i:Int):=by omega
   have w1:IntKind.i64.wrap (q:Int) = (q:Int):=wrap_in _ (by omega)
   have w2:IntKind.i64.wrap (P i:Int) = (P i:Int):=wrap_in _ (by omega)
   have hpI:(P i:Int) < (n:Int):=by omega
   have d1:=(uH hS).row.cell (P i) (by rw [uH LT];exact l0)
   have f1:=(uH hS).row.free (P i)
   have S2:=hide ((uH hS).set (uH HG) (P i) 0)
   rw [s0] at S2
   generalize P i = p at *
   clear hS s0 hq l0
   go_wp2_with fail
   go_round
   case rel=>exact ⟨i+1,by omega,by omega,by go_num,S2⟩
   case measure=>simp [intOf];omega
  ·have hii:i = r:=by omega
   subst hii
   go_wp2
   first | go_end0 | refine bodyPost_ret (results_none rfl _ _ _) rfl ?_
   exact ⟨rfl,(uH hS).row,(uH hS).bel⟩
theorem settle_any (r c j beta g:Nat) (S:List Nat) (w:World) (hr:r≤6) (hc:c≤6) (hj:j < r) (hjc:j < c) (lS:S.length = r * c) (h:RowB w g S) :
  Calls Tryz.prog 236 #[.agg #[.int .i64 r,.int .i64 c,.slice (some ⟨g,0,none⟩) S.length S.length],.int .i64 j,.int .u64 beta] w fun e w'=>e = .returned (.tuple #[])∧RowB w' g (clM r c S j beta)∧w.grownBy w' (some g):=by
 have h36:S.length≤36:=by
  rw [lS]
  exact Nat.mul_le_mul hr hc
 refine settle_of r c S.length j beta g (j * c+j) S (clJ r c S j beta) (fun i=>i * c+j) w h36 hr hj h rfl (fun i=>by rw [clJ_len,lS]) ⟨rfl,by rw [lS];exact place_lt hj hjc,clJ_first r c S beta lS hj hjc⟩ (fun i hji hir=>⟨rfl,by rw [lS];exact place_lt hir hjc,clJ_set r c S beta hji hir hjc⟩)
end Go.Proofs.YtlnphkioddknfaaGreatDoor
namespace Go.Proofs.YtlnphkioddknfaaGreatDoor
open Go.RowKit
attribute [local go_sem ↓] Go.wp_at_zero Go.wp_at_succ
def OffB (g:Option Nat) (ao:Option Addr) (I:List Int):Prop:=I = [] ∨ ∃ b off,ao = some ⟨b,off,none⟩∧some b ≠ g
theorem OffB.new {H:Nat} {ao:Option Addr} {I:List Int} (h:NewB H ao I) {g:Option Nat} (hg:∀ k,g = some k→k < H):OffB g ao I:=by
 rcases h with e | ⟨b,off,e1,e2⟩
 ·exact .inl e
 ·exact .inr ⟨b,off,e1,fun e=>by have:=hg b e.symm;omega⟩
theorem OffB.old {w:World} {ao:Option Addr} {c:Nat} {I:List Int} (h:BitsAt w ao c I) {g:Option Nat} (hg:∀ k,g = some k→w.heap.size≤k):OffB g ao I:=by
 rcases h.2.2 with e | ⟨b,off,e1,e2,_⟩
 ·exact .inl e
 ·exact .inr ⟨b,off,e1,fun e=>by have:=hg b e.symm;omega⟩
theorem bits_grownOff {w w':World} {ao:Option Addr} {c:Nat} {I:List Int} {g:Option Nat} (h:BitsAt w ao c I) (ha:OffB g ao I) (hg:w.grownBy w' g):BitsAt w' ao c I:=by
 refine ⟨h.1,h.2.1,?_⟩
 rcases h.2.2 with e | ⟨b,off,e,hb,hc⟩
 ·exact .inl e
 ·rcases ha with e' | ⟨b',off',e',hne⟩
  ·exact .inl e'
  ·rw [e] at e'
   simp only [Option.some.injEq,Addr.mk.injEq] at e'
   obtain ⟨rfl,rfl,_⟩:=e'
   refine .inr ⟨b,off,e,Nat.lt_of_lt_of_le hb hg.size,fun i hi=>?_⟩
   rw [World.cell?_of_block (a:=⟨b,off+i,none⟩) (hg.block b hb hne)]
   exact hc i hi
end Go.Proofs.YtlnphkioddknfaaGreatDoor
