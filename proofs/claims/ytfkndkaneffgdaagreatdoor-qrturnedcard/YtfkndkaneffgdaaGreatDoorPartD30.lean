/- Part 30 of the texts. -/
import Derived.Test.YtfkndkaneffgdaaGreatDoorPartD23
import Derived.Deep.RegionHeld3
import Derived.Test.YtfkndkaneffgdaaGreatDoorPartD29
import Derived.Deep.RegionLaw
import Derived.Test.YtfkndkaneffgdaaGreatDoorPartD22
import Derived.Test.YtfkndkaneffgdaaGreatDoorPartD21
import Derived.Test.YtfkndkaneffgdaaGreatDoorPartD20
import Derived.Test.YtfkndkaneffgdaaGreatDoorPartD17
import Derived.Test.YtfkndkaneffgdaaGreatDoorPartD26
import Derived.Test.YtfkndkaneffgdaaGreatDoorPartD24
import Derived.Test.YtfkndkaneffgdaaGreatDoorPartD28
import Derived.Test.YtfkndkaneffgdaaGreatDoorPartD13
import Derived.Test.YtfkndkaneffgdaaGreatDoorPartD14
import Derived.Test.YtfkndkaneffgdaaGreatDoorPartD12
import Derived.Test.YtfkndkaneffgdaaGreatDoorPartD11
import Derived.Deep.Cut
import Derived.BigQuiet
import Derived.Test.YtfkndkaneffgdaaGreatDoorPartD05
import Derived.Test.YtfkndkaneffgdaaGreatDoorPartD02
import Derived.Maps.AppendAt
import Derived.Test.YtfkndkaneffgdaaGreatDoorPartD08
import Derived.Lib.BitFns
import Derived.Test.YtfkndkaneffgdaaGreatDoorPartD07
import Derived.Test.YtfkndkaneffgdaaGreatDoorPartD06
import Derived.Test.YtfkndkaneffgdaaGreatDoorPartD01
import Derived.Maps.Own
import Derived.Maps.OwnOps
import Derived.Maps.OwnSet
import Derived.DeepKeys4
import Derived.Test.YtfkndkaneffgdaaGreatDoorPartD09
import Derived.WalkSmall
import Derived.OwnWalk
import Derived.Deep.AppendLies
namespace Go.Proofs.YtfkndkaneffgdaaGreatDoor
open Go.RowKit
attribute [local go_sem ↓] Go.wp_at_zero Go.wp_at_succ
set_option maxRecDepth 20000 in
set_option maxHeartbeats 4000000 in
theorem r9dot_any (ao bo:Option Addr) (c d:Nat) (I J:List Int) (w:World) (hI:BitsAt w ao c I) (hJ:BitsAt w bo d J) (hl:I.length = J.length) (hn:I.length≤35184372088830) :
  Calls Tryz.prog 38 #[.slice ao I.length c,.slice bo J.length d] w fun e w'=>e = .returned (.int .u64 (dtK I J I.length:Nat))∧Below w.heap.size w w':=by
 have HI:=hide hI;have HJ:=hide hJ
 obtain ⟨n,hnn⟩:∃ n,I.length = n:=⟨_,rfl⟩
 rw [← hl,hnn]
 rw [hnn] at hn hl
 have HN:=hide hnn;have HM:=hide hl.symm
 clear hI hJ hnn hl
 go_enter Tryz.func38,Tryz.ntmps38
 go_wp2_with fail
 go_loopw [5,6] (fun t i wr=>∃ k:Nat,k≤n∧i = .int .i64 k∧t = .int .u64 (dtK I J k:Nat)∧Hid (Below w.heap.size w wr)) (fun _ i _=>n - (intOf i).toNat)
 case atStart=>exact ⟨0,Nat.zero_le _,rfl,rfl,Below.refl _ _⟩
 case round =>
  obtain ⟨k,hk,rfl,rfl,hB⟩:=hrel
  by_cases hlt:k < n
  ·have hkI:(k:Int) < (n:Int):=by omega
   obtain ⟨b1,o1,hao,hb1,hc1⟩:=((uH HI).below hB.out).ne (by rw [uH HN];omega)
   obtain ⟨b2,o2,hbo,hb2,hc2⟩:=((uH HJ).below hB.out).ne (by rw [uH HM];omega)
   have cx:=hc1 k (by rw [uH HN];exact hlt)
   have cy:=hc2 k (by rw [uH HM];exact hlt)
   have C1:=hide (fun w'=>r9mul_any (atB I k) (atB J k) w' ((uH HI).lt k) ((uH HJ).lt k))
   have C2:=hide (fun w'=>r9add_any (dtK I J k) (mV (atB I k) (atB J k)) w' (dtK_lt I J k) (mV_lt _ _))
   have eV:Hid (dtK I J (k+1) = aV (dtK I J k) (mV (atB I k) (atB J k))):=rfl
   subst hao
   subst hbo
   clear hc1 hc2
   generalize aV (dtK I J k) (mV (atB I k) (atB J k)) = o at *
   generalize mV (atB I k) (atB J k) = p at *
   generalize atB I k = x at *
   generalize atB J k = y at *
   generalize dtK I J k = s at *
   have HK:=hide (fun w' (h:Below wr.heap.size wr w')=>(show Below wr.heap.size wr w'∧w'.cell? ⟨b1,o1+k,none⟩ = some (.int .u64 (x:Nat))∧w'.cell? ⟨b2,o2+k,none⟩ = some (.int .u64 (y:Nat)) from ⟨h,cell_keep cx h,cell_keep cy h⟩))
   clear cx cy
   go_wp2_with fail
   go_region_held3 (fun w'=>Below wr.heap.size wr w'∧w'.cell? ⟨b1,o1+k,none⟩ = some (.int .u64 (x:Nat))∧w'.cell? ⟨b2,o2+k,none⟩ = some (.int .u64 (y:Nat)))
    (first | exact uH HK _ (Below.refl _ _).drew | exact uH HK _ (by assumption) | fail "KK")
    (first | (go_at_call 56;refine (uH C1 _).mono ?_;rintro e w1 ⟨rfl,hb3⟩;have hB1:Below wr.heap.size wr w1:=Below.trans (And.left (by assumption)) (hb3.mono (Below.size (And.left (by assumption))));clear hb3) | (go_at_call 66;refine (uH C2 _).mono ?_;rintro e w2 ⟨rfl,hb4⟩;have hB2:Below wr.heap.size wr w2:=Below.trans (And.left (by assumption)) (hb4.mono (Below.size (And.left (by assumption))));clear hb4) | fail "NO ARM")
   have B2:Hid (Below w.heap.size w _):=hB.out.trans (Below.mono (And.left (by assumption)) hB.out.size)
   go_wp2_with fail
   go_round
   case rel=>exact ⟨k+1,by omega,by go_num,by rw [eV.out],B2⟩
   case measure=>simp [intOf];omega
  ·have hkk:k = n:=by omega
   subst hkk
   go_wp2_with fail
   exact bodyPost_ret (v:=.int .u64 (dtK I J k:Nat)) (by simp [results,Tryz.results38,go_sem]) rfl ⟨rfl,hB.out⟩
end Go.Proofs.YtfkndkaneffgdaaGreatDoor
namespace Go.Proofs.YtfkndkaneffgdaaGreatDoor
open Go.RowKit
attribute [local go_sem ↓] Go.wp_at_zero Go.wp_at_succ
def clL (r c:Nat) (S:List Nat) (k:Nat):List Nat:=fsL (fun i=>elM c S i k) r
set_option maxRecDepth 20000 in
set_option maxHeartbeats 4000000 in
theorem rcol_any (r c cap k:Nat) (ao:Option Addr) (S:List Nat) (w:World) (h:Mx w ao cap r c S) (hk:k < c) :
  Calls Tryz.prog 26 #[.agg #[.int .i64 r,.int .i64 c,.slice ao S.length cap],.int .i64 k,.int .i64 0] w fun e w'=>∃ bo d,e = .returned (.slice bo r d)∧BitsAt w' bo d (mxL (clL r c S k))∧Below w.heap.size w w':=by
 have HH:=hide h
 have r6:=h.2.2.1
 have s0:=size_alloc9 w (.cells #[.int .i64 r,.int .i64 c,.slice ao S.length cap] 24)
 have b0:=below_alloc9 w (.cells #[.int .i64 r,.int .i64 c,.slice ao S.length cap] 24)
 have X0:=BoxM.new w (.int .i64 r) (.int .i64 c) (.slice ao S.length cap)
 have b1:=below_alloc9 (w.alloc (.cells #[.int .i64 r,.int .i64 c,.slice ao S.length cap] 24)) (.cells #[] 30)
 have O0:=OwnB.nil (w.alloc (.cells #[.int .i64 r,.int .i64 c,.slice ao S.length cap] 24)) (w.heap.size+1) (by rw [s0];omega)
 rw [s0] at O0
 have HO:=hide O0;have HX:=hide (X0.all b1);have HB:=hide (b0.trans (b1.mono b0.size))
 obtain ⟨l,hl⟩:∃ l,S.length = l:=⟨_,rfl⟩
 rw [hl] at HX HB HO
 rw [hl]
 have HLL:=hide hl
 clear h s0 b0 X0 b1 O0 hl
 go_enter Tryz.func26,Tryz.ntmps26
 go_wp2_with fail
 go_loopw [7,8] (fun v i wr=>∃ j:Nat,j≤r∧i = .int .i64 j∧Hid (OwnB (w.heap.size+1) wr v (fsL (fun i=>elM c S i k) j))∧Hid (BoxM wr w.heap.size (.int .i64 r) (.int .i64 c) (.slice ao l cap))∧Hid (Below w.heap.size w wr)) (fun _ i _=>r - (intOf i).toNat)
 case atStart=>exact ⟨0,Nat.zero_le _,rfl,HO,HX,HB⟩
 case round =>
  clear HO HX HB
  obtain ⟨j,hj,rfl,hO,hX,hB⟩:=hrel
  have t0:=(uH hX).c0;have t1:=(uH hX).c1;have t2:=(uH hX).c2
  by_cases hlt:j < r
  ·have hjI:(j:Int) < (r:Int):=by omega
   have C:=hide (fun w' (m:Mx w' ao cap r c S)=>rat_any r c cap j k ao S w' m hlt hk)
   rw [uH HLL] at C
   have HM:=hide ((uH HH).below hB.out)
   have ho:=hide ((uH HH).el_lt j k)
   have hlen:=hide (show (fsL (fun i=>elM c S i k) j).length≤1000000 from by rw [fsL_len];omega)
   have eS:=hide (fsL_succ (fun i=>elM c S i k) j)
   generalize elM c S j k = o at *
   go_wp2_with fail
   refine (uH C _ (uH HM)).mono ?_
   rintro e w2 ⟨rfl,hb2⟩
   have own2:=(uH hO).below hb2
   have box2:=(uH hX).all hb2
   have B2:=hB.out.trans (hb2.mono hB.out.size)
   obtain ⟨v3,w3,run3,own3,bel3,_,_⟩:=own2.push o (uH ho) (uH hlen) (by have:=box2.lt;omega) 22
   have RUN:=hide run3
   have O3:=hide (show OwnB (w.heap.size+1) w3 v3 (fsL (fun i=>elM c S i k) (j+1)) from by rw [uH eS];exact own3)
   have X3:=hide (box2.below bel3 (by omega))
   have B3:=hide (B2.trans (bel3.mono (by omega)))
   clear hb2 C hO hX hB own2 box2 B2 run3 own3 bel3 ho hlen eS HM t0 t1 t2
   go_wp2_with (at_builtin;refine wpList_append_ran _ rfl _ _ 22 rfl _ _ _ _ rfl rfl (uH RUN) ?_;clear RUN)
   go_round
   case rel=>exact ⟨j+1,by omega,by go_num,O3,X3,B3⟩
   case measure=>simp [intOf];omega
  ·have hjj:r = j:=by omega
   subst hjj
   obtain ⟨b1,d1,e1,q1⟩:=(uH hO).bits
   rw [fsL_len] at e1
   subst e1
   have Q1:=hide q1
   clear q1 hO
   go_wp2_with fail
   go_ret
   exact ⟨b1,d1,rfl,uH Q1,hB.out⟩
end Go.Proofs.YtfkndkaneffgdaaGreatDoor
namespace Go.Proofs.YtfkndkaneffgdaaGreatDoor
open Go.RowKit
attribute [local go_sem ↓] Go.wp_at_zero Go.wp_at_succ
theorem toN_getD (I:List Int) (j:Nat) (hj:j < I.length):(toN I).getD j 0 = atB I j:=by
 rw [List.getD_eq_getElem?_getD,toN_at I j hj]
 rfl
theorem ldS_drop (L:List Nat) {j:Nat} (h:j < L.length):ldS (L.drop j) = if fK (L.getD j 0) = 0 then ldS (L.drop (j+1)) else fS (L.getD j 0):=by
 rw [List.drop_eq_getElem_cons h,List.getD_eq_getElem?_getD,List.getElem?_eq_getElem h]
 rfl
end Go.Proofs.YtfkndkaneffgdaaGreatDoor
namespace Go.Proofs.YtfkndkaneffgdaaGreatDoor
def apJ (r c:Nat) (S:List Nat) (i k:Nat) (vs:List Nat) (tau d j:Nat):List Nat:=mkM r c (fun p q=>if (k≤q∧i≤p∧p < i+vs.length)∧(q < d ∨ (q = d∧p < i+j)) then (apL c S i q vs tau).getD (p - i) 0 else elM c S p q)
theorem apJ_len (r c:Nat) (S:List Nat) (i k:Nat) (vs:List Nat) (tau d j:Nat):(apJ r c S i k vs tau d j).length = r * c:=mkM_len _ _ _
theorem apJ_0 (r c:Nat) (S:List Nat) (i k:Nat) (vs:List Nat) (tau:Nat) (h:S.length = r * c):apJ r c S i k vs tau k 0 = S:=by
 unfold apJ
 rw [← mkM_of r c S h]
 refine mkM_congr (fun p q _ _=>?_)
 rw [mkM_of r c S h,if_neg (fun g=>by omega)]
 rfl
theorem apJ_next (r c:Nat) (S:List Nat) (i k:Nat) (vs:List Nat) (tau d:Nat):apJ r c S i k vs tau d vs.length = apJ r c S i k vs tau (d+1) 0:=by
 unfold apJ
 refine mkM_congr (fun p q _ _=>?_)
 by_cases g:(k≤q∧i≤p∧p < i+vs.length)∧(q < d ∨ (q = d∧p < i+vs.length))
 ·rw [if_pos g,if_pos ⟨g.1,by omega⟩]
 ·rw [if_neg g,if_neg (fun g2=>g ⟨g2.1,by omega⟩)]
theorem apJ_all (r c:Nat) (S:List Nat) (i k:Nat) (vs:List Nat) (tau d:Nat) (hd:c≤d):apJ r c S i k vs tau d 0 = apM r c S i k vs tau:=by
 unfold apJ apM
 refine mkM_congr (fun p q _ hq=>?_)
 by_cases g:k≤q∧i≤p∧p < i+vs.length
 ·rw [if_pos g,if_pos ⟨g,by omega⟩]
 ·rw [if_neg g,if_neg (fun g2=>g g2.1)]
theorem apJ_set (r c:Nat) (S:List Nat) {i k:Nat} {vs:List Nat} {tau d j:Nat} (hi:i+vs.length≤r) (hd:d < c) (hk:k≤d) (hj:j < vs.length) :
  (apJ r c S i k vs tau d j).set ((i+j) * c+d) ((apL c S i d vs tau).getD j 0) = apJ r c S i k vs tau d (j+1):=by
 unfold apJ
 rw [mkM_set r c _ _ (show i+j < r by omega) hd]
 refine mkM_congr (fun p q _ _=>?_)
 by_cases e:p = i+j∧q = d
 ·obtain ⟨rfl,rfl⟩:=e
  rw [if_pos ⟨rfl,rfl⟩,if_pos ⟨⟨hk,by omega,by omega⟩,.inr ⟨rfl,by omega⟩⟩,show i+j - i = j by omega]
 ·rw [if_neg e]
  by_cases g:(k≤q∧i≤p∧p < i+vs.length)∧(q < d ∨ (q = d∧p < i+j))
  ·rw [if_pos g,if_pos ⟨g.1,by omega⟩]
  ·rw [if_neg g,if_neg (fun g2=>g ⟨g2.1,by omega⟩)]
theorem apL_at (c:Nat) (S:List Nat) (i q:Nat) (vs:List Nat) (tau:Nat) {j:Nat} (hj:j < vs.length) :
  (apL c S i q vs tau).getD j 0 = aV (elM c S (i+j) q) (fN (mV (mV tau (dtV 0 vs (colL c S i vs.length q))) (vs.getD j 0))):=by
 unfold apL
 rw [apV_at _ vs _ j (colL_len _ _ _ _ _).symm hj,colL_at c S i vs.length q hj]
theorem apL_lt (c:Nat) (S:List Nat) (i q:Nat) (vs:List Nat) (tau:Nat) {j:Nat} (hj:j < vs.length) (hS:∀ p q,elM c S p q < 18446744073709551616):(apL c S i q vs tau).getD j 0 < 18446744073709551616:=by
 rw [apL_at c S i q vs tau hj]
 exact aV_lt _ _ (hS _ _) (fN_lt _ (mV_lt _ _))
theorem dtV_snoc (x y:Nat):∀ (xs ys:List Nat) (s:Nat),xs.length = ys.length→dtV s (xs ++ [x]) (ys ++ [y]) = aV (dtV s xs ys) (mV x y):=by
 intro xs
 induction xs with
 | nil =>
  intro ys s h
  match ys with
  | []=>rfl
  | y' :: ys=>cases h
 | cons x' xs ih =>
  intro ys s h
  match ys with
  | []=>cases h
  | y' :: ys=>exact ih ys _ (by simpa using h)
theorem dtK_dtV (I J:List Int):∀ j,j≤I.length→j≤J.length→dtK I J j = dtV 0 ((toN I).take j) ((toN J).take j):=by
 intro j
 induction j with
 | zero=>intro _ _;rfl
 | succ j ih =>
  intro h1 h2
  rw [toN_take I j h1,toN_take J j h2,dtV_snoc _ _ _ _ _ (by simp [toN_len];omega),← ih (by omega) (by omega)]
  rfl
end Go.Proofs.YtfkndkaneffgdaaGreatDoor
namespace Go.Proofs.YtfkndkaneffgdaaGreatDoor
def clJ (r c:Nat) (S:List Nat) (j b i:Nat):List Nat:=mkM r c (fun p q=>if q = j∧j≤p∧p < i then (if p = j then b else 0) else elM c S p q)
theorem clJ_len (r c:Nat) (S:List Nat) (j b i:Nat):(clJ r c S j b i).length = r * c:=mkM_len _ _ _
theorem clJ_first (r c:Nat) (S:List Nat) {j:Nat} (b:Nat) (h:S.length = r * c) (hj:j < r) (hc:j < c):S.set (j * c+j) b = clJ r c S j b (j+1):=by
 have e:S = mkM r c (fun p q=>elM c S p q):=by
  conv=>lhs;rw [← mkM_of r c S h]
  rfl
 conv=>lhs;rw [e]
 rw [mkM_set r c _ _ hj hc]
 unfold clJ
 refine mkM_congr (fun p q _ _=>?_)
 by_cases g:p = j∧q = j
 ·rw [if_pos g,if_pos ⟨g.2,by omega,by omega⟩,if_pos g.1]
 ·rw [if_neg g,if_neg (fun g2=>g (by omega))]
theorem clJ_set (r c:Nat) (S:List Nat) {j i:Nat} (b:Nat) (hj:j < i) (hi:i < r) (hc:j < c):(clJ r c S j b i).set (i * c+j) 0 = clJ r c S j b (i+1):=by
 unfold clJ
 rw [mkM_set r c _ _ hi hc]
 refine mkM_congr (fun p q _ _=>?_)
 by_cases g:p = i∧q = j
 ·rw [if_pos g,if_pos ⟨g.2,by omega,by omega⟩,if_neg (by omega)]
 ·rw [if_neg g]
  by_cases g2:q = j∧j≤p∧p < i
  ·rw [if_pos g2,if_pos (show q = j∧j≤p∧p < i+1 by omega)]
  ·rw [if_neg g2,if_neg (show ¬ (q = j∧j≤p∧p < i+1) by omega)]
def clM (r c:Nat) (S:List Nat) (j b:Nat):List Nat:=clJ r c S j b r
theorem clM_len (r c:Nat) (S:List Nat) (j b:Nat):(clM r c S j b).length = r * c:=clJ_len _ _ _ _ _ _
def qxL (r c:Nat) (S:List Nat) (j:Nat):List Nat:=colL c S j (r - j) j
theorem qxL_len (r c:Nat) (S:List Nat) (j:Nat):(qxL r c S j).length = r - j:=colL_len _ _ _ _ _
def qrS (r c:Nat) (S:List Nat) (j:Nat):List Nat:=clM r c (apM r c S j j (mrV (qxL r c S j)) (mrT (qxL r c S j))) j (mrB (qxL r c S j))
theorem qrS_len (r c:Nat) (S:List Nat) (j:Nat):(qrS r c S j).length = r * c:=clM_len _ _ _ _ _
def finL (xs:List Nat):Bool:=fnK (mxL xs) xs.length
def qrO (r c:Nat) (S:List Nat) (j:Nat):Bool:=finL (qxL r c S j) && mrK (qxL r c S j)
def qrR (r c:Nat) (S:List Nat):Nat→List Nat
 | 0=>S
 | j+1=>qrS r c (qrR r c S j) j
def qrX (r c:Nat) (S:List Nat) (j:Nat):List Nat:=qxL r c (qrR r c S j) j
def qrK (r c:Nat) (S:List Nat):Nat→Bool
 | 0=>true
 | j+1=>qrK r c S j && qrO r c (qrR r c S j) j
theorem qrR_len (r c:Nat) (S:List Nat) (h:S.length = r * c):∀ j,(qrR r c S j).length = r * c
 | 0=>h
 | _+1=>qrS_len _ _ _ _
theorem qrX_len (r c:Nat) (S:List Nat) (j:Nat):(qrX r c S j).length = r - j:=qxL_len _ _ _ _
def qrN (r c:Nat):Nat:=min c (r - 1)
theorem qrN_lt (r c j:Nat):j < qrN r c ↔ (j:Int) < (c:Int)∧(j:Int) < (r:Int) - 1:=by
 unfold qrN
 omega
def qrQ (r c:Nat) (S:List Nat) (K:Nat):Nat→List Nat
 | 0=>eyM r
 | t+1=>apM r r (qrQ r c S K t) (K - 1 - t) 0 (mrV (qrX r c S (K - 1 - t))) (mrT (qrX r c S (K - 1 - t)))
theorem qrQ_len (r c:Nat) (S:List Nat) (K:Nat):∀ t,(qrQ r c S K t).length = r * r
 | 0=>show (eyM r).length = r * r from mkM_len r r _
 | _+1=>apM_len _ _ _ _ _ _ _
def facQ (r c:Nat) (S:List Nat):List Nat:=qrQ r c S (qrN r c) (qrN r c)
def facR (r c:Nat) (S:List Nat):List Nat:=qrR r c S (qrN r c)
def facK (r c:Nat) (S:List Nat):Bool:=qrK r c S (qrN r c) && (finL (facQ r c S) && finL (facR r c S))
end Go.Proofs.YtfkndkaneffgdaaGreatDoor
