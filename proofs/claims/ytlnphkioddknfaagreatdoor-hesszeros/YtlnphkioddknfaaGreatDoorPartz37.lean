/- Part 37 of the texts. -/
import Derived.Test.YtlnphkioddknfaaGreatDoorPartz30
import Derived.Test.YtlnphkioddknfaaGreatDoorPartz36
import Derived.Test.YtlnphkioddknfaaGreatDoorPartz32
import Derived.Test.YtlnphkioddknfaaGreatDoorPartz26
import Derived.Test.YtlnphkioddknfaaGreatDoorPartz29
import Derived.Deep.RegionWith
import Derived.Deep.RegionLaw
import Derived.Test.YtlnphkioddknfaaGreatDoorPartz25
import Derived.Test.YtlnphkioddknfaaGreatDoorPartz28
set_option maxHeartbeats 16000000
set_option maxRecDepth 20000
namespace Go.Proofs.YtlnphkioddknfaaGreatDoor
open Go.RowKit
structure Hs where
 H:List Nat
 T:List Nat
 Q:List Nat
 Z:List Nat
def HsOk (n:Nat) (s:Hs):Prop:=(s.H.length = n * n∧s.T.length = n * n∧s.Q.length = n * n∧s.Z.length = n * n)∧(∀ x ∈ s.H,x < 18446744073709551616)∧(∀ x ∈ s.T,x < 18446744073709551616)∧(∀ x ∈ s.Q,x < 18446744073709551616)∧∀ x ∈ s.Z,x < 18446744073709551616
def hsR (n j p f g:Nat) (s:Hs):Hs:=⟨((roM n n s.H p (p+1) (gvC f g) (gvS f g)).set (p * n+j) (gvR f g)).set ((p+1) * n+j) 0,roM n n s.T p (p+1) (gvC f g) (gvS f g),coM n n s.Q p (p+1) (gvC f g) (gvS f g),s.Z⟩
def hsL (n p f g:Nat) (s:Hs):Hs:=⟨coM n n s.H (p+1) p (gvC f g) (gvS f g),((coM n n s.T (p+1) p (gvC f g) (gvS f g)).set ((p+1) * n+(p+1)) (gvR f g)).set ((p+1) * n+p) 0,s.Q,coM n n s.Z (p+1) p (gvC f g) (gvS f g)⟩
def hsRk (n j p:Nat) (s:Hs):Bool:=fFin (elM n s.H p j) && fFin (elM n s.H (p+1) j)
def hsRr (n j p:Nat) (s:Hs):Hs:=hsR n j p (elM n s.H p j) (elM n s.H (p+1) j) s
def hsLk (n p:Nat) (s:Hs):Bool:=fFin (elM n s.T (p+1) (p+1)) && fFin (elM n s.T (p+1) p)
def hsLl (n p:Nat) (s:Hs):Hs:=hsL n p (elM n s.T (p+1) (p+1)) (elM n s.T (p+1) p) s
def hsS (n j p:Nat) (s:Hs):Hs:=hsLl n p (hsRr n j p s)
def hsSk (n j p:Nat) (s:Hs):Bool:=hsRk n j p s && hsLk n p (hsRr n j p s)
def hsI (n j:Nat) (s:Hs):Nat→Hs
 | 0=>s
 | t+1=>hsS n j (n - 2 - t) (hsI n j s t)
def hsIk (n j:Nat) (s:Hs):Nat→Bool
 | 0=>true
 | t+1=>hsIk n j s t && hsSk n j (n - 2 - t) (hsI n j s t)
def hsO (n:Nat) (s:Hs):Nat→Hs
 | 0=>s
 | j+1=>hsI n j (hsO n s j) (n - 2 - j)
def hsOk (n:Nat) (s:Hs):Nat→Bool
 | 0=>true
 | j+1=>hsOk n s j && hsIk n j (hsO n s j) (n - 2 - j)
def hsE (n b:Nat) (S:List Nat):List Nat:=mkM n n (fun i k=>if k+b < i then 0 else elM n S i k)
def hsB (n:Nat) (A B:List Nat):Hs:=⟨muM n n n (tuM n n (facQ n n B)) A,facR n n B,facQ n n B,eyM n⟩
def hsW (n:Nat) (A B:List Nat):Hs:=hsO n (hsB n A B) (n - 2)
def hsF (n:Nat) (A B:List Nat):Hs:=⟨hsE n 1 (hsW n A B).H,hsE n 0 (hsW n A B).T,(hsW n A B).Q,(hsW n A B).Z⟩
def hsN (s:Hs):Bool:=finL s.H && (finL s.T && (finL s.Q && finL s.Z))
def hsK (n:Nat) (A B:List Nat):Bool:=facK n n B && (hsOk n (hsB n A B) (n - 2) && hsN (hsF n A B))
theorem set_lt18 {S:List Nat} (h:∀ x ∈ S,x < 18446744073709551616) (p:Nat) {v:Nat} (hv:v < 18446744073709551616):∀ x ∈ S.set p v,x < 18446744073709551616:=by
 intro x hx
 rcases List.mem_or_eq_of_mem_set hx with e | e
 ·exact h x e
 ·rw [e];exact hv
theorem el_lt18 {S:List Nat} (h:∀ x ∈ S,x < 18446744073709551616) (c i k:Nat):elM c S i k < 18446744073709551616:=by
 unfold elM
 rw [List.getD_eq_getElem?_getD]
 cases e:S[i * c+k]? with
 | none=>decide
 | some v=>exact h v (List.mem_of_getElem? e)
theorem mk_lt18 {r c:Nat} {f:Nat→Nat→Nat} (h:∀ i k,f i k < 18446744073709551616):∀ x ∈ mkM r c f,x < 18446744073709551616:=by
 intro x hx
 unfold mkM at hx
 obtain ⟨p,_,rfl⟩:=List.mem_map.1 hx
 exact h _ _
theorem ro_lt18 {S:List Nat} (h:∀ x ∈ S,x < 18446744073709551616) (r c i k C s:Nat):∀ x ∈ roM r c S i k C s,x < 18446744073709551616:=by
 unfold roM
 refine mk_lt18 (fun p q=>?_)
 split
 ·exact aV_lt _ _ (mV_lt _ _) (mV_lt _ _)
 ·split
  ·exact aV_lt _ _ (mV_lt _ _) (fN_lt _ (mV_lt _ _))
  ·exact el_lt18 h _ _ _
theorem tu_lt18 {S:List Nat} (h:∀ x ∈ S,x < 18446744073709551616) (r c:Nat):∀ x ∈ tuM r c S,x < 18446744073709551616:=mk_lt18 (fun _ _=>el_lt18 h _ _ _)
theorem co_lt18 {S:List Nat} (h:∀ x ∈ S,x < 18446744073709551616) (r c i k C s:Nat):∀ x ∈ coM r c S i k C s,x < 18446744073709551616:=tu_lt18 (ro_lt18 (tu_lt18 h _ _) _ _ _ _ _ _) _ _
theorem gv_lt18 {f g:Nat} (hf:f < 18446744073709551616) (hg:g < 18446744073709551616):gvC f g < 18446744073709551616∧gvS f g < 18446744073709551616∧gvR f g < 18446744073709551616:=by
 unfold gvC gvS gvR
 by_cases g0:fK g = 0
 ·rw [if_pos g0,if_pos g0,if_pos g0];exact ⟨by decide,by decide,hf⟩
 ·rw [if_neg g0,if_neg g0,if_neg g0]
  by_cases f0:fK f = 0
  ·rw [if_pos f0,if_pos f0,if_pos f0];exact ⟨by decide,by decide,hg⟩
  ·rw [if_neg f0,if_neg f0,if_neg f0];exact ⟨dV_lt _ _,dV_lt _ _,xV_lt _ _ (sV_lt _ (aV_lt _ _ (mV_lt _ _) (mV_lt _ _)))⟩
theorem HsOk.R {n:Nat} {s:Hs} (h:HsOk n s) (j p:Nat) {f g:Nat} (hf:f < 18446744073709551616) (hg:g < 18446744073709551616):HsOk n (hsR n j p f g s):=by
 obtain ⟨⟨l1,l2,l3,l4⟩,h1,h2,h3,h4⟩:=h
 refine ⟨⟨?_,roM_len _ _ _ _ _ _ _,coM_len _ _ _ _ _ _ _,l4⟩,set_lt18 (set_lt18 (ro_lt18 h1 _ _ _ _ _ _) _ (gv_lt18 hf hg).2.2) _ (by decide),ro_lt18 h2 _ _ _ _ _ _,co_lt18 h3 _ _ _ _ _ _,h4⟩
 show ((List.set _ _ _).set _ _).length = _
 rw [List.length_set,List.length_set,roM_len]
theorem HsOk.L {n:Nat} {s:Hs} (h:HsOk n s) (p:Nat) {f g:Nat} (hf:f < 18446744073709551616) (hg:g < 18446744073709551616):HsOk n (hsL n p f g s):=by
 obtain ⟨⟨l1,l2,l3,l4⟩,h1,h2,h3,h4⟩:=h
 refine ⟨⟨coM_len _ _ _ _ _ _ _,?_,l3,coM_len _ _ _ _ _ _ _⟩,co_lt18 h1 _ _ _ _ _ _,set_lt18 (set_lt18 (co_lt18 h2 _ _ _ _ _ _) _ (gv_lt18 hf hg).2.2) _ (by decide),h3,co_lt18 h4 _ _ _ _ _ _⟩
 show ((List.set _ _ _).set _ _).length = _
 rw [List.length_set,List.length_set,coM_len]
theorem HsOk.Rr {n:Nat} {s:Hs} (h:HsOk n s) (j p:Nat):HsOk n (hsRr n j p s):=h.R j p (el_lt18 h.2.1 _ _ _) (el_lt18 h.2.1 _ _ _)
theorem HsOk.Ll {n:Nat} {s:Hs} (h:HsOk n s) (p:Nat):HsOk n (hsLl n p s):=h.L p (el_lt18 h.2.2.1 _ _ _) (el_lt18 h.2.2.1 _ _ _)
theorem HsOk.S {n:Nat} {s:Hs} (h:HsOk n s) (j p:Nat):HsOk n (hsS n j p s):=(h.Rr j p).Ll p
theorem HsOk.I {n:Nat} {s:Hs} (h:HsOk n s) (j:Nat):∀ t,HsOk n (hsI n j s t)
 | 0=>h
 | t+1=>(HsOk.I h j t).S j _
theorem HsOk.O {n:Nat} {s:Hs} (h:HsOk n s):∀ j,HsOk n (hsO n s j)
 | 0=>h
 | j+1=>(HsOk.O h j).I j _
theorem hsE_len (n b:Nat) (S:List Nat):(hsE n b S).length = n * n:=mkM_len _ _ _
theorem hsE_lt {S:List Nat} (h:∀ x ∈ S,x < 18446744073709551616) (n b:Nat):∀ x ∈ hsE n b S,x < 18446744073709551616:=by
 unfold hsE
 refine mk_lt18 (fun p q=>?_)
 split
 ·decide
 ·exact el_lt18 h _ _ _
theorem el_hsE {n b:Nat} {S:List Nat} {i k:Nat} (hi:i < n) (hk:k < n) (h:k+b < i):elM n (hsE n b S) i k = 0:=by
 unfold hsE
 rw [el_mk n n _ hi hk,if_pos h]
def hsC (n b:Nat) (S:List Nat) (i k:Nat):List Nat:=mkM n n (fun x y=>if (x < i ∨ (x = i∧y < k))∧y+b < x then 0 else elM n S x y)
theorem hsC_len (n b:Nat) (S:List Nat) (i k:Nat):(hsC n b S i k).length = n * n:=mkM_len _ _ _
theorem hsC_start (n b:Nat) (S:List Nat) (h:S.length = n * n):hsC n b S 0 0 = S:=by
 refine mkM_ext (hsC_len _ _ _ _ _) h (fun i k hi hk=>?_)
 show elM n (hsC n b S 0 0) i k = elM n S i k
 unfold hsC
 rw [el_mk n n _ hi hk,if_neg (by omega)]
theorem hsC_row (n b:Nat) (S:List Nat) (i k:Nat) (hk:i≤k+b):hsC n b S i k = hsC n b S (i+1) 0:=by
 unfold hsC
 refine mkM_congr (fun x y hx hy=>?_)
 by_cases h:(x < i ∨ (x = i∧y < k))∧y+b < x
 ·rw [if_pos h,if_pos (by omega)]
 ·rw [if_neg h,if_neg (by omega)]
theorem hsC_set (n b:Nat) (S:List Nat) (i k:Nat) (hi:i < n) (hk:k+b < i):(hsC n b S i k).set (i * n+k) 0 = hsC n b S i (k+1):=by
 unfold hsC
 rw [mkM_set n n _ 0 hi (show k < n by omega)]
 refine mkM_congr (fun x y hx hy=>?_)
 by_cases e:x = i∧y = k
 ·rw [if_pos e,if_pos (by omega)]
 ·rw [if_neg e]
  by_cases h:(x < i ∨ (x = i∧y < k))∧y+b < x
  ·rw [if_pos h,if_pos (by omega)]
  ·rw [if_neg h,if_neg (by omega)]
theorem hsC_end (n b:Nat) (S:List Nat):hsC n b S n 0 = hsE n b S:=by
 unfold hsC hsE
 refine mkM_congr (fun x y hx hy=>?_)
 by_cases h:y+b < x
 ·rw [if_pos h,if_pos (by omega)]
 ·rw [if_neg h,if_neg (by omega)]
theorem hsE_self (n b:Nat) (S:List Nat) (h:S.length = n * n) (hb:n≤b+1):hsE n b S = S:=by
 refine mkM_ext (hsE_len _ _ _) h (fun i k hi hk=>?_)
 show elM n (hsE n b S) i k = elM n S i k
 unfold hsE
 rw [el_mk n n _ hi hk,if_neg (by omega)]
end Go.Proofs.YtlnphkioddknfaaGreatDoor
namespace Go.Proofs.YtlnphkioddknfaaGreatDoor
open Go.RowKit
def BoxL (ty:TypeId) (w:World) (b:Nat) (xs:List Value):Prop:=w.heap[b]? = some (.cells xs.toArray ty (0,0))
theorem BoxL.c {ty:TypeId} {w:World} {b:Nat} {xs:List Value} (h:BoxL ty w b xs) (i:Nat) {v:Value} (hv:xs[i]? = some v):w.cell? ⟨b,i,none⟩ = some v:=by
 rw [cell_of_row w b i _ _ _ h]
 simpa using hv
theorem BoxL.free {ty:TypeId} {w:World} {b:Nat} {xs:List Value} (h:BoxL ty w b xs) (j:Nat):w.frozen? ⟨b,j,none⟩ = false:=frozen_of_row w b j _ _ h
theorem BoxL.lt {ty:TypeId} {w:World} {b:Nat} {xs:List Value} (h:BoxL ty w b xs):b < w.heap.size:=(Array.getElem?_eq_some_iff.1 h).1
theorem BoxL.below {ty:TypeId} {w w':World} {b:Nat} {xs:List Value} (h:BoxL ty w b xs) {B:Nat} (hb:Below B w w') (hlt:b < B):BoxL ty w' b xs:=(hb.block b hlt).trans h
theorem BoxL.all {ty:TypeId} {w w':World} {b:Nat} {xs:List Value} (h:BoxL ty w b xs) (hb:Below w.heap.size w w'):BoxL ty w' b xs:=h.below hb h.lt
theorem BoxL.other {ty:TypeId} {w:World} {b:Nat} {xs:List Value} (h:BoxL ty w b xs) {p:Addr} (hp:b ≠ p.block) (u:Value):BoxL ty (w.setCell p u) b xs:=(Below.heap_setCell w p u b hp).trans h
theorem BoxL.set {ty:TypeId} {w:World} {b:Nat} {xs:List Value} (h:BoxL ty w b xs) (j:Nat) (u:Value):BoxL ty (w.setCell ⟨b,j,none⟩ u) b (xs.set j u):=by
 unfold BoxL
 rw [heap_setCell_same w b j _ _ _ h]
 simp
theorem BoxL.new (ty:TypeId) (w:World) (xs:List Value):BoxL ty (w.alloc (.cells xs.toArray ty)) w.heap.size xs:=heap_alloc_new w _
theorem BoxL.grown {ty:TypeId} {w w':World} {b:Nat} {xs:List Value} (h:BoxL ty w b xs) {o:Option Nat} (hg:w.grownBy w' o) (ho:o ≠ some b):BoxL ty w' b xs:=(hg.block b h.lt ho.symm).trans h
def putL (w:World) (b:Nat):Nat→List Value→World
 | _,[]=>w
 | i,v :: vs=>putL (w.setCell ⟨b,i,none⟩ v) b (i+1) vs
theorem below_putL {B b:Nat} (hB:B≤b):∀ (vs:List Value) (i:Nat) {w w':World},Below B w w'→Below B w (putL w' b i vs)
 | [],_,_,_,h=>h
 | _ :: vs,i,_,_,h=>below_putL hB vs (i+1) (h.setCell hB _)
theorem heap_putL {b k:Nat} (hk:k ≠ b):∀ (vs:List Value) (i:Nat) (w:World),(putL w b i vs).heap[k]? = w.heap[k]?
 | [],_,_=>rfl
 | v :: vs,i,w=>(heap_putL hk vs (i+1) _).trans (Below.heap_setCell w ⟨b,i,none⟩ v k hk)
theorem BoxL.putL {ty:TypeId} {b:Nat}:∀ (vs:List Value) (i:Nat) (xs:List Value) (w:World),BoxL ty w b xs→BoxL ty (Go.Proofs.YtlnphkioddknfaaGreatDoor.putL w b i vs) b ((xs.take i) ++ vs ++ xs.drop (i+vs.length)) ∨ xs.length < i+vs.length
 | [],i,xs,w,h=>.inl (by show BoxL ty w b _;simpa using h)
 | v :: vs,i,xs,w,h=>by
  by_cases hl:xs.length < i+(v :: vs).length
  ·exact .inr hl
  ·left
   have hi:i < xs.length:=by simp at hl;omega
   rcases BoxL.putL vs (i+1) (xs.set i v) _ (h.set i v) with h2 | h2
   ·show BoxL ty (Go.Proofs.YtlnphkioddknfaaGreatDoor.putL (w.setCell ⟨b,i,none⟩ v) b (i+1) vs) b _
    have e:(xs.set i v).take (i+1) ++ vs ++ (xs.set i v).drop (i+1+vs.length) = xs.take i ++ (v :: vs) ++ xs.drop (i+(v :: vs).length):=by
     have e1:(xs.set i v).take (i+1) = xs.take i ++ [v]:=by
      rw [List.take_add_one,List.take_set_of_le (Nat.le_refl i)]
      simp [hi]
     have e2:(xs.set i v).drop (i+1+vs.length) = xs.drop (i+(v :: vs).length):=by
      rw [List.drop_set_of_lt (by omega)]
      congr 1
      simp;omega
     rw [e1,e2]
     simp
    rw [← e]
    exact h2
   ·rw [List.length_set] at h2
    simp at hl
    omega
theorem BoxL.full {ty:TypeId} {w:World} {b:Nat} {xs:List Value} (h:BoxL ty w b xs) (vs:List Value) (hl:vs.length = xs.length):BoxL ty (Go.Proofs.YtlnphkioddknfaaGreatDoor.putL w b 0 vs) b vs:=by
 rcases BoxL.putL vs 0 xs w h with g | g
 ·have e:xs.take 0 ++ vs ++ xs.drop (0+vs.length) = vs:=by simp [hl]
  rwa [e] at g
 ·omega
theorem bits_putL {b:Nat} {ao:Option Addr} {c:Nat} {I:List Int} (hp:OffB (some b) ao I):∀ (vs:List Value) (i:Nat) {w:World},BitsAt w ao c I→BitsAt (putL w b i vs) ao c I
 | [],_,_,h=>h
 | v :: vs,i,w,h=>bits_putL hp vs (i+1) (h.other (p:=⟨b,i,none⟩) (by
   rcases hp with e | ⟨k,off,e1,e2⟩
   ·exact .inl e
   ·exact .inr ⟨k,off,e1,fun e=>e2 (congrArg some e)⟩) v)
theorem RowB.oth {w:World} {g:Nat} {L:List Nat} (h:RowB w g L) {p:Addr} (hp:g ≠ p.block) (u:Value):RowB (w.setCell p u) g L:=(Below.heap_setCell w p u g hp).trans h
theorem RowB.putL {w:World} {g b:Nat} {S:List Nat} (h:RowB w g S) (hg:g ≠ b) (i:Nat) (vs:List Value):RowB (Go.Proofs.YtlnphkioddknfaaGreatDoor.putL w b i vs) g S:=(heap_putL hg vs i w).trans h
theorem BoxL.putO {ty:TypeId} {w:World} {g b:Nat} {xs:List Value} (h:BoxL ty w g xs) (hg:g ≠ b) (i:Nat) (vs:List Value):BoxL ty (Go.Proofs.YtlnphkioddknfaaGreatDoor.putL w b i vs) g xs:=(heap_putL hg vs i w).trans h
theorem BoxL.off {ty:TypeId} {w:World} {b:Nat} {xs:List Value} (h:BoxL ty w b xs) (hx:∀ v ∈ xs,∀ z,v ≠ .int .u64 z) {ao:Option Addr} {c:Nat} {I:List Int} (hb:BitsAt w ao c I):OffB (some b) ao I:=by
 rcases hb.2.2 with e | ⟨k,off,e1,e2,e3⟩
 ·exact .inl e
 ·rcases Nat.eq_zero_or_pos I.length with e | e
  ·exact .inl (List.eq_nil_of_length_eq_zero e)
  ·refine .inr ⟨k,off,e1,fun e4=>?_⟩
   have e5:k = b:=by simpa using e4
   subst e5
   have:=e3 0 e
   rw [cell_of_row w k _ _ _ _ h] at this
   have q:(xs.toArray[off+0]? = some (.int .u64 (I[0]?.getD 0))):=this
   rw [List.getElem?_toArray] at q
   exact hx _ (List.mem_of_getElem? q) _ rfl
theorem BoxL.row {ty:TypeId} {w:World} {b g:Nat} {xs:List Value} {S:List Nat} (h:BoxL ty w b xs) (hty:ty ≠ 37) (hr:RowB w g S):g ≠ b:=by
 rintro rfl
 unfold BoxL at h
 unfold RowB at hr
 rw [hr] at h
 simp only [Option.some.injEq,Obj.cells.injEq] at h
 exact hty h.2.1.symm
end Go.Proofs.YtlnphkioddknfaaGreatDoor
namespace Go.Proofs.YtlnphkioddknfaaGreatDoor
open Go.RowKit
attribute [local go_sem ↓] Go.wp_at_zero Go.wp_at_succ
theorem bits_cell {w:World} {po:Option Addr} {pc:Nat} {xs:List Nat} (h:BitsAt w po pc (mxL xs)) {k:Nat} (hk:k < xs.length):∃ b off,po = some ⟨b,off,none⟩∧b < w.heap.size∧w.cell? ⟨b,off+k,none⟩ = some (.int .u64 (xs.getD k 0:Nat)):=by
 obtain ⟨b,off,e1,e2,e3⟩:=h.ne (by rw [mxL_len];omega)
 refine ⟨b,off,e1,e2,?_⟩
 rw [e3 k (by rw [mxL_len];exact hk),mxL_at]
def ck2 (r c:Int) (I:List Int) (p q:Int) (J:List Int):Int:=if ckE r c I = 0 then ckE p q J else ckE r c I
theorem ckE_cases (r c:Int) (I:List Int):ckE r c I = 0 ∨ ckE r c I = 1 ∨ ckE r c I = 4:=by
 unfold ckE
 repeat' split
 all_goals simp
end Go.Proofs.YtlnphkioddknfaaGreatDoor
namespace Go.Proofs.YtlnphkioddknfaaGreatDoor
open Go.RowKit
attribute [local go_sem ↓] Go.wp_at_zero Go.wp_at_succ
theorem hplace_any (r:Int) (c i k p:Nat) (ao:Option Addr) (n cap:Nat) (w:World) (hp:i * c+k = p) (h36:p≤1000) :
  Calls Tryz.prog 104 #[.agg #[.int .i64 r,.int .i64 c,.slice ao n cap],.int .i64 i,.int .i64 k] w fun e w'=>e = .returned (.int .i64 (p:Nat))∧Below w.heap.size w w':=by
 obtain ⟨q,hq⟩:∃ q,i * c = q:=⟨_,rfl⟩
 rw [hq] at hp
 have e1:IntKind.i64.wrap ((i:Int) * (c:Int)) = (q:Int):=by
  rw [cast_mul10 i c,hq]
  exact wrap_in _ (by omega)
 have e2:IntKind.i64.wrap ((q:Int)+(k:Int)) = (p:Int):=(wrap_in _ (by omega)).trans (by omega)
 have e3:(i:Int) * (c:Int) = (q:Int):=by rw [cast_mul10 i c,hq]
 have e4:(q:Int)+(k:Int) = (p:Int):=by omega
 have w1:IntKind.i64.wrap (q:Int) = (q:Int):=wrap_in _ (by omega)
 have w2:IntKind.i64.wrap (p:Int) = (p:Int):=wrap_in _ (by omega)
 have b0:=below_alloc9 w (.cells #[.int .i64 r,.int .i64 c,.slice ao n cap] 24)
 have x0:=BoxM.new w (.int .i64 r) (.int .i64 c) (.slice ao n cap)
 have y1:=x0.c1
 have HB:=hide b0
 clear b0 x0 hq hp h36
 go_enter Tryz.func104,Tryz.ntmps104
 go_wp2_with fail
 go_ret
 exact ⟨rfl,uH HB⟩
theorem hsquare_any (r c:Int) (ao:Option Addr) (n cap:Nat) (w:World) :
  Calls Tryz.prog 95 #[.agg #[.int .i64 r,.int .i64 c,.slice ao n cap]] w fun e w'=>e = .returned (.bool (r == c))∧Below w.heap.size w w':=by
 have b0:=below_alloc9 w (.cells #[.int .i64 r,.int .i64 c,.slice ao n cap] 24)
 have x0:=BoxM.new w (.int .i64 r) (.int .i64 c) (.slice ao n cap)
 have y0:=x0.c0;have y1:=x0.c1
 have HB:=hide b0
 clear b0 x0
 go_enter Tryz.func95,Tryz.ntmps95
 go_wp2_with fail
 go_ret
 exact ⟨rfl,uH HB⟩
theorem hchecked_of (r c p q:Int) (ao bo:Option Addr) (n cap m d:Nat) (e1 e2 o:Int) (w:World) (he:(e1 = 0∧o = e2) ∨ (e1 ≠ 0∧o = e1))
  (C1:∀ w',Below w.heap.size w w'→Calls Tryz.prog 56 #[.agg #[.int .i64 r,.int .i64 c,.slice ao n cap]] w' fun e w''=>e = .returned (.int .i64 e1)∧Below w'.heap.size w' w'')
  (C2:∀ w',Below w.heap.size w w'→Calls Tryz.prog 56 #[.agg #[.int .i64 p,.int .i64 q,.slice bo m d]] w' fun e w''=>e = .returned (.int .i64 e2)∧Below w'.heap.size w' w'') :
  Calls Tryz.prog 94 #[.agg #[.int .i64 r,.int .i64 c,.slice ao n cap],.agg #[.int .i64 p,.int .i64 q,.slice bo m d]] w fun e w'=>e = .returned (.int .i64 o)∧Below w.heap.size w w':=by
 have KB:=hide (boxes2 w (.int .i64 r) (.int .i64 c) (.slice ao n cap) (.int .i64 p) (.int .i64 q) (.slice bo m d))
 obtain ⟨b0,x0,x1⟩:=uH KB ((w.alloc (.cells #[.int .i64 r,.int .i64 c,.slice ao n cap] 24)).alloc (.cells #[.int .i64 p,.int .i64 q,.slice bo m d] 24)) (by have:=Below.refl ((w.alloc (.cells #[.int .i64 r,.int .i64 c,.slice ao n cap] 24)).alloc (.cells #[.int .i64 p,.int .i64 q,.slice bo m d] 24)).heap.size ((w.alloc (.cells #[.int .i64 r,.int .i64 c,.slice ao n cap] 24)).alloc (.cells #[.int .i64 p,.int .i64 q,.slice bo m d] 24));simpa only [size_alloc9] using this)
 have K1:=hide (C1 _ b0)
 have HB:=hide b0;have HX:=hide x1
 have K2:=hide C2
 have y0:=x0.c0;have y1:=x0.c1;have y2:=x0.c2
 clear C1 C2 KB b0 x0 x1
 rcases he with ⟨rfl,rfl⟩ | ⟨hne,rfl⟩
 ·go_enter Tryz.func94,Tryz.ntmps94
  go_wp2_with fail
  clear y0 y1 y2
  refine (uH K1).mono ?_
  rintro e w1 ⟨rfl,hb⟩
  replace HX:=hide ((uH HX).all hb)
  replace HB:=hide ((uH HB).trans (hb.mono (uH HB).size))
  clear hb K1
  have y0:=(uH HX).c0;have y1:=(uH HX).c1;have y2:=(uH HX).c2
  go_wp2_with fail
  clear y0 y1 y2
  refine (uH K2 _ (uH HB)).mono ?_
  rintro e w2 ⟨rfl,hb⟩
  replace HB:=hide ((uH HB).trans (hb.mono (uH HB).size))
  clear hb K2 HX
  go_wp2
  go_ret
  exact ⟨rfl,uH HB⟩
 ·go_enter Tryz.func94,Tryz.ntmps94
  go_wp2_with fail
  clear y0 y1 y2
  refine (uH K1).mono ?_
  rintro e w1 ⟨rfl,hb⟩
  replace HB:=hide ((uH HB).trans (hb.mono (uH HB).size))
  clear hb K1 HX K2
  go_wp2
  go_ret
  exact ⟨rfl,uH HB⟩
theorem hchecked_any (r c p q:Int) (ao bo:Option Addr) (cap d:Nat) (I J:List Int) (w:World) (hI:BitsAt w ao cap I) (hJ:BitsAt w bo d J) (hi:I.length≤35184372088830) (hj:J.length≤35184372088830) :
  Calls Tryz.prog 94 #[.agg #[.int .i64 r,.int .i64 c,.slice ao I.length cap],.agg #[.int .i64 p,.int .i64 q,.slice bo J.length d]] w fun e w'=>e = .returned (.int .i64 (ck2 r c I p q J))∧Below w.heap.size w w':=by
 refine hchecked_of r c p q ao bo I.length cap J.length d (ckE r c I) (ckE p q J) (ck2 r c I p q J) w ?_ (fun w' hb=>ccheck_any r c ao cap I w' (hI.below hb) hi) (fun w' hb=>ccheck_any p q bo d J w' (hJ.below hb) hj)
 unfold ck2
 by_cases h:ckE r c I = 0
 ·rw [if_pos h];exact .inl ⟨h,rfl⟩
 ·rw [if_neg h];exact .inr ⟨h,rfl⟩
theorem clean_none (n:Nat) (c:Int) (b:Nat) (ao:Option Addr) (N cap:Nat) (w:World) (h6:n≤6) (hb:n≤b+1) (hb6:b≤6) :
  Calls Tryz.prog 152 #[.agg #[.int .i64 n,.int .i64 c,.slice ao N cap],.int .i64 b] w fun e w'=>e = .returned (.tuple #[])∧Below w.heap.size w w':=by
 have b0:=below_alloc9 w (.cells #[.int .i64 n,.int .i64 c,.slice ao N cap] 24)
 have HX:=hide (BoxM.new w (.int .i64 n) (.int .i64 c) (.slice ao N cap))
 have HB:=hide b0
 have y0:=(uH HX).c0
 clear b0
 go_enter Tryz.func152,Tryz.ntmps152
 go_wp2_with fail
 clear y0
 go_loopw [8] (fun a wr=>∃ i:Nat,i≤n∧a = .int .i64 i∧Hid (Below w.heap.size w wr)) (fun a _=>n - (intOf a).toNat)
 case atStart=>exact ⟨0,Nat.zero_le _,rfl,HB⟩
 case round =>
  clear HB HX
  obtain ⟨i,hi,rfl,hB⟩:=hrel
  by_cases hlt:i < n
  ·have hiI:(i:Int) < (n:Int):=by omega
   have e1:IntKind.i64.wrap ((i:Int) - (b:Int)) = (i:Int) - (b:Int):=wrap_in _ (by omega)
   have e2:¬ ((0:Int) < (i:Int) - (b:Int)):=by omega
   go_wp2_with fail
   go_loopw [14] (fun a wr=>a = .int .i64 0∧Hid (Below w.heap.size w wr)) (fun _ _=>0)
   case atStart=>exact ⟨rfl,hB⟩
   case round =>
    clear hB
    obtain ⟨rfl,hB⟩:=hrel
    go_wp2_with fail
    go_round
    case rel=>exact ⟨i+1,by omega,by go_num,hB⟩
    case measure=>simp [intOf];omega
  ·have hii:i = n:=by omega
   subst hii
   go_wp2
   first | go_end0 | refine bodyPost_ret (results_none rfl _ _ _) rfl ?_
   exact ⟨rfl,uH hB⟩
theorem SeSt.all {w wr w':World} {g r c n:Nat} {S:List Nat} (h:SeSt w wr g r c n S) (hb:Below wr.heap.size wr w'):SeSt w w' g r c n S:=⟨grown_trans14 h.bel (grown_below14 hb (some g)),h.a.all hb,h.row.below hb h.row.lt⟩
theorem clean_row (n b g N:Nat) (S:List Nat) (w:World) (h6:n≤6) (hb6:b≤6) (hN:n * n = N) (h:RowB w g S) (lS:S.length = N) :
  Calls Tryz.prog 152 #[.agg #[.int .i64 n,.int .i64 n,.slice (some ⟨g,0,none⟩) N N],.int .i64 b] w fun e w'=>e = .returned (.tuple #[])∧RowB w' g (hsE n b S)∧w.grownBy w' (some g):=by
 have HG:=hide h.lt
 have ST:=hide (SeSt.start (n:=N) h n n)
 have h36:N≤36:=by rw [← hN];exact Nat.mul_le_mul h6 h6
 have LC:=hide (show ∀ i k,(hsC n b S i k).length = N from fun i k=>(hsC_len n b S i k).trans hN)
 have ES:=hide (fun i k (hi:i < n) (hk:k+b < i)=>hsC_set n b S i k hi hk)
 have ER:=hide (fun i k (hk:i≤k+b)=>hsC_row n b S i k hk)
 have EE:=hide (hsC_end n b S)
 rw [← hsC_start n b S (lS.trans hN.symm)] at ST
 generalize hsC n b S = TC at *
 generalize hsE n b S = TE at *
 have HN:=hide hN
 have y0:=(uH ST).a.c0
 clear h lS hN
 go_enter Tryz.func152,Tryz.ntmps152
 go_wp2_with fail
 clear y0
 go_loopw [8] (fun a wr=>∃ i:Nat,i≤n∧a = .int .i64 i∧Hid (SeSt w wr g n n N (TC i 0))) (fun a _=>n - (intOf a).toNat)
 case atStart=>exact ⟨0,Nat.zero_le _,rfl,ST⟩
 case round =>
  clear ST
  obtain ⟨i,hi,rfl,hS⟩:=hrel
  by_cases hlt:i < n
  ·have hiI:(i:Int) < (n:Int):=by omega
   have e1:IntKind.i64.wrap ((i:Int) - (b:Int)) = (i:Int) - (b:Int):=wrap_in _ (by omega)
   go_wp2_with fail
   clear e1
   go_loopw [14] (fun a wr=>∃ k:Nat,k≤i - b∧a = .int .i64 k∧Hid (SeSt w wr g n n N (TC i k))) (fun a _=>(i - b) - (intOf a).toNat)
   case atStart=>exact ⟨0,Nat.zero_le _,rfl,hS⟩
   case round =>
    clear hS
    obtain ⟨k,hk,rfl,hS⟩:=hrel
    by_cases hkl:k < i - b
    ·have hkI:(k:Int) < (i:Int) - (b:Int):=by omega
     obtain ⟨p,hp⟩:∃ p,i * n+k = p:=⟨_,rfl⟩
     have hpN:p < N:=by rw [← hp,← uH HN];exact place_lt hlt (by omega)
     have hpI:(p:Int) < (N:Int):=by omega
     have KP:=hide (fun w'=>hplace_any n n i k p (some ⟨g,0,none⟩) N N w' hp (by omega))
     have E1:=hide (uH ES i k hlt (by omega))
     rw [hp] at E1
     have LL:=hide (uH LC i k)
     generalize hTT:TC i k = TT at *
     generalize hTN:TC i (k+1) = TN at *
     clear hp
     go_wp2_with fail
     refine at_world (fun W=>SeSt w W g n n N TT) (uH hS) ?_
     clear hS
     rintro W0 st
     have ST:=hide (st.all ((Below.refl W0.heap.size W0).drew))
     clear st
     have a0:=(uH ST).a.c0;have a1:=(uH ST).a.c1;have a2:=(uH ST).a.c2
     go_region_with (first
      | (go_at_call 104;refine (uH KP _).mono ?_;rintro e w4 ⟨rfl,hb⟩;clear a0 a1 a2;have S4:=(uH ST).all hb;have a0:=S4.a.c0;have a1:=S4.a.c1;have a2:=S4.a.c2;have d1:=S4.row.cell p (by rw [uH LL];exact hpN);have f1:=S4.row.free p;have S5:=hide (S4.set (uH HG) p 0);clear S4 hb ST KP)
      | fail "NO ARM")
     all_goals
      clear a0 a1 a2 d1 f1
      go_wp2_with fail
      go_round
      case rel=>exact ⟨k+1,by omega,by go_num,by rw [hTN,← uH E1];exact S5⟩
      case measure=>simp [intOf];omega
    ·have hkk:k = i - b:=by omega
     have hkI:¬ ((k:Int) < (i:Int) - (b:Int)):=by omega
     have hE:=hide (uH ER i k (by omega))
     go_wp2_with fail
     go_round
     case rel=>exact ⟨i+1,by omega,by go_num,by rw [← uH hE];exact hS⟩
     case measure=>simp [intOf];omega
  ·have hii:i = n:=by omega
   subst hii
   go_wp2
   first | go_end0 | refine bodyPost_ret (results_none rfl _ _ _) rfl ?_
   exact ⟨rfl,by rw [← uH EE];exact (uH hS).row,(uH hS).bel⟩
end Go.Proofs.YtlnphkioddknfaaGreatDoor
namespace Go.Proofs.YtlnphkioddknfaaGreatDoor
open Go.RowKit
attribute [local go_sem ↓] Go.wp_at_zero Go.wp_at_succ
theorem boxesF (w:World) (xs ys:List Value) (w1:World) (h:Below (w.heap.size+1+1) ((w.alloc (.cells xs.toArray 57)).alloc (.cells ys.toArray 57)) w1) :
  Below w.heap.size w w1∧BoxL 57 w1 w.heap.size xs∧BoxL 57 w1 (w.heap.size+1) ys:=by
 have b0:=below_alloc9 w (.cells xs.toArray 57)
 have s0:=size_alloc9 w (.cells xs.toArray 57)
 have x0:=BoxL.new 57 w xs
 generalize w.alloc (.cells xs.toArray 57) = wa at *
 have b1:=below_alloc9 wa (.cells ys.toArray 57)
 have s1:=size_alloc9 wa (.cells ys.toArray 57)
 have x1:=BoxL.new 57 wa ys
 have x01:=x0.all b1
 generalize wa.alloc (.cells ys.toArray 57) = wb at *
 rw [s0] at s1 x1
 rw [← s1] at h
 have b3:=b0.trans (b1.mono b0.size)
 exact ⟨b3.trans (h.mono b3.size),x01.all h,x1.all h⟩
structure R8St (w W:World) (a b c:Nat) (xs:List Value) (A B C:List Nat):Prop where
 bel:Below w.heap.size w W
 box:BoxL 57 W w.heap.size xs
 res:BoxL 57 W (w.heap.size+1) [.int .i64 0,.int .i64 0,.slice none 0 0,.int .i64 0,.int .i64 0,.slice none 0 0,.int .i64 0,.int .i64 0,.slice none 0 0,.int .i64 0,.int .i64 0,.slice none 0 0]
 ra:RowB W a A
 rb:RowB W b B
 rc:RowB W c C
 ha:w.heap.size+1 < a
 hb:a < b
 hc:b < c
theorem R8St.all {w W W':World} {a b c:Nat} {xs:List Value} {A B C:List Nat} (h:R8St w W a b c xs A B C) (hb:Below W.heap.size W W'):R8St w W' a b c xs A B C :=
 ⟨h.bel.trans (hb.mono h.bel.size),h.box.all hb,h.res.all hb,h.ra.below hb h.ra.lt,h.rb.below hb h.rb.lt,h.rc.below hb h.rc.lt,h.ha,h.hb,h.hc⟩
theorem R8St.set {w W:World} {a b c:Nat} {xs:List Value} {A B C:List Nat} (h:R8St w W a b c xs A B C) (p x:Nat):R8St w (W.setCell ⟨a,p,none⟩ (.int .u64 (x:Int))) a b c xs (A.set p x) B C:=by
 have h1:=h.ha;have h2:=h.hb;have h3:=h.hc
 exact ⟨h.bel.setCell (p:=⟨a,p,none⟩) (by show w.heap.size≤a;omega) _,h.box.other (p:=⟨a,p,none⟩) (by show w.heap.size ≠ a;omega) _,h.res.other (p:=⟨a,p,none⟩) (by show w.heap.size+1 ≠ a;omega) _,h.ra.set p x,h.rb.oth (p:=⟨a,p,none⟩) (by show b ≠ a;omega) _,h.rc.oth (p:=⟨a,p,none⟩) (by show c ≠ a;omega) _,h1,h2,h3⟩
def TrAns (w w':World) (ok:Bool) (v:Nat→Nat→Nat→Value) (A B D:List Nat) (e:Ending):Prop :=
 (ok = true∧∃ ga gb gc:Nat,e = .returned (.tuple #[v ga gb gc,.bool true])∧(w.heap.size+1 < ga∧ga < gb∧gb < gc)∧RowB w' ga A∧RowB w' gb B∧RowB w' gc D) ∨ (ok = false∧e = .returned (.tuple #[.agg #[.int .i64 0,.int .i64 0,.slice none 0 0,.int .i64 0,.int .i64 0,.slice none 0 0,.int .i64 0,.int .i64 0,.slice none 0 0,.int .i64 0,.int .i64 0,.slice none 0 0],.bool false]))
theorem R8St.out {w W:World} {a b c:Nat} {xs:List Value} {A B C:List Nat} (h:R8St w W a b c xs A B C) (vs:List Value) (hl:vs.length = 12):Below w.heap.size w (putL W (w.heap.size+1) 0 vs)∧BoxL 57 (putL W (w.heap.size+1) 0 vs) (w.heap.size+1) vs∧RowB (putL W (w.heap.size+1) 0 vs) a A∧RowB (putL W (w.heap.size+1) 0 vs) b B∧RowB (putL W (w.heap.size+1) 0 vs) c C:=by
 have h1:=h.ha;have h2:=h.hb;have h3:=h.hc
 exact ⟨below_putL (by omega) _ _ h.bel,h.res.full vs hl,h.ra.putL (by omega) _ _,h.rb.putL (by omega) _ _,h.rc.putL (by omega) _ _⟩
theorem rowsTurned_of (n N i j p x1 x2 f g C s r:Nat) (ho uo qo zo:Option Addr) (hc tc qc zc:Nat) (S:List Nat) (w:World) (h6:n≤6) (hi:p+1 = i) (hin:i < n) (hj:j < n) (hN:n * n = N) (h1:p * n+j = x1) (h2:i * n+j = x2) (hS:BitsAt w ho hc (mxL S)) (lS:S.length = N) (hf:S.getD x1 0 = f) (hg:S.getD x2 0 = g) (A B D:List Nat) (ok:Bool) (er:Int) (lA:A.length = N) (hok:(ok = true∧er = 0) ∨ (ok = false∧er = 4))
  (CT:∀ w',Below w.heap.size w w'→Calls Tryz.prog 190 #[.int .u64 f,.int .u64 g] w' fun e w''=>e = .returned (.tuple #[.int .u64 (C:Nat),.int .u64 (s:Nat),.int .u64 (r:Nat),.int .i64 er])∧Below w'.heap.size w' w'')
  (D1:∀ w',ok = true→Below w.heap.size w w'→Calls Tryz.prog 191 #[.agg #[.int .i64 n,.int .i64 n,.slice ho N hc],.int .i64 p,.int .i64 i,.int .u64 C,.int .u64 s] w' fun e w''=>∃ g,e = .returned (.tuple #[.agg #[.int .i64 n,.int .i64 n,.slice (some ⟨g,0,none⟩) N N],.int .i64 0])∧w'.heap.size≤g∧RowB w'' g A∧Below w'.heap.size w' w'')
  (D2:∀ w',ok = true→Below w.heap.size w w'→Calls Tryz.prog 191 #[.agg #[.int .i64 n,.int .i64 n,.slice uo N tc],.int .i64 p,.int .i64 i,.int .u64 C,.int .u64 s] w' fun e w''=>∃ g,e = .returned (.tuple #[.agg #[.int .i64 n,.int .i64 n,.slice (some ⟨g,0,none⟩) N N],.int .i64 0])∧w'.heap.size≤g∧RowB w'' g B∧Below w'.heap.size w' w'')
  (D3:∀ w',ok = true→Below w.heap.size w w'→Calls Tryz.prog 192 #[.agg #[.int .i64 n,.int .i64 n,.slice qo N qc],.int .i64 p,.int .i64 i,.int .u64 C,.int .u64 s] w' fun e w''=>∃ g,e = .returned (.tuple #[.agg #[.int .i64 n,.int .i64 n,.slice (some ⟨g,0,none⟩) N N],.int .i64 0])∧w'.heap.size≤g∧RowB w'' g D∧Below w'.heap.size w' w'') :
  Calls Tryz.prog 150 #[.agg #[.int .i64 n,.int .i64 n,.slice ho N hc,.int .i64 n,.int .i64 n,.slice uo N tc,.int .i64 n,.int .i64 n,.slice qo N qc,.int .i64 n,.int .i64 n,.slice zo N zc],.int .i64 i,.int .i64 j] w fun e w'=>TrAns w w' ok (fun ga gb gc=>.agg #[.int .i64 n,.int .i64 n,.slice (some ⟨ga,0,none⟩) N N,.int .i64 n,.int .i64 n,.slice (some ⟨gb,0,none⟩) N N,.int .i64 n,.int .i64 n,.slice (some ⟨gc,0,none⟩) N N,.int .i64 n,.int .i64 n,.slice zo N zc]) ((A.set x1 r).set x2 0) B D e∧Below w.heap.size w w':=by
 have x1N:x1 < N:=by rw [← h1,← hN];exact place_lt (by omega) (by omega)
 have x2N:x2 < N:=by rw [← h2,← hN];exact place_lt (by omega) (by omega)
 have h36:N≤36:=by rw [← hN];exact Nat.mul_le_mul h6 h6
 have x1I:(x1:Int) < (N:Int):=by omega
 have x2I:(x2:Int) < (N:Int):=by omega
 have e1:IntKind.i64.wrap ((i:Int) - 1) = (p:Int):=(wrap_in _ (by omega)).trans (by omega)
 have e2:(i:Int) - 1 = (p:Int):=by omega
 have e3:IntKind.i64.wrap (p:Int) = (p:Int):=wrap_in _ (by omega)
 have KP:=hide (fun w'=>hplace_any n n p j x1 ho N hc w' h1 (by omega))
 have KQ:=hide (fun w'=>hplace_any n n i j x2 ho N hc w' h2 (by omega))
 obtain ⟨sb,so,hso,hsl,hcx⟩:=bits_cell hS (k:=x1) (by omega)
 obtain ⟨sb2,so2,hso2,_,hcy⟩:=bits_cell hS (k:=x2) (by omega)
 rw [hso] at hso2
 simp only [Option.some.injEq,Addr.mk.injEq] at hso2
 obtain ⟨rfl,rfl,_⟩:=hso2
 rw [hf] at hcx
 rw [hg] at hcy
 subst hso
 obtain ⟨b0,z0,z1⟩:=boxesF w [.int .i64 n,.int .i64 n,.slice (some ⟨sb,so,none⟩) N hc,.int .i64 n,.int .i64 n,.slice uo N tc,.int .i64 n,.int .i64 n,.slice qo N qc,.int .i64 n,.int .i64 n,.slice zo N zc] [.int .i64 0,.int .i64 0,.slice none 0 0,.int .i64 0,.int .i64 0,.slice none 0 0,.int .i64 0,.int .i64 0,.slice none 0 0,.int .i64 0,.int .i64 0,.slice none 0 0] ((w.alloc (.cells #[.int .i64 n,.int .i64 n,.slice (some ⟨sb,so,none⟩) N hc,.int .i64 n,.int .i64 n,.slice uo N tc,.int .i64 n,.int .i64 n,.slice qo N qc,.int .i64 n,.int .i64 n,.slice zo N zc] 57)).alloc (.cells #[.int .i64 0,.int .i64 0,.slice none 0 0,.int .i64 0,.int .i64 0,.slice none 0 0,.int .i64 0,.int .i64 0,.slice none 0 0,.int .i64 0,.int .i64 0,.slice none 0 0] 57)) (by have:=Below.refl ((w.alloc (.cells #[.int .i64 n,.int .i64 n,.slice (some ⟨sb,so,none⟩) N hc,.int .i64 n,.int .i64 n,.slice uo N tc,.int .i64 n,.int .i64 n,.slice qo N qc,.int .i64 n,.int .i64 n,.slice zo N zc] 57)).alloc (.cells #[.int .i64 0,.int .i64 0,.slice none 0 0,.int .i64 0,.int .i64 0,.slice none 0 0,.int .i64 0,.int .i64 0,.slice none 0 0,.int .i64 0,.int .i64 0,.slice none 0 0] 57)).heap.size ((w.alloc (.cells #[.int .i64 n,.int .i64 n,.slice (some ⟨sb,so,none⟩) N hc,.int .i64 n,.int .i64 n,.slice uo N tc,.int .i64 n,.int .i64 n,.slice qo N qc,.int .i64 n,.int .i64 n,.slice zo N zc] 57)).alloc (.cells #[.int .i64 0,.int .i64 0,.slice none 0 0,.int .i64 0,.int .i64 0,.slice none 0 0,.int .i64 0,.int .i64 0,.slice none 0 0,.int .i64 0,.int .i64 0,.slice none 0 0] 57));simpa only [size_alloc9] using this)
 have HB:=hide b0;have HX:=hide z0;have HR:=hide z1
 have HC1:=hide hcx;have HC2:=hide hcy
 clear b0 z0 z1 hcx hcy hS hf hg h1 h2
 have K1:=hide D1;have K2:=hide D2;have K3:=hide D3;have LA:=hide lA;have HCT:=hide CT;have HOK:=hide hok
 clear D1 D2 D3 lA CT hok hN
 go_enter Tryz.func150,Tryz.ntmps150
 go_wp2_with fail
 refine at_world (fun W=>Below w.heap.size w W∧BoxL 57 W w.heap.size [.int .i64 n,.int .i64 n,.slice (some ⟨sb,so,none⟩) N hc,.int .i64 n,.int .i64 n,.slice uo N tc,.int .i64 n,.int .i64 n,.slice qo N qc,.int .i64 n,.int .i64 n,.slice zo N zc]∧BoxL 57 W (w.heap.size+1) [.int .i64 0,.int .i64 0,.slice none 0 0,.int .i64 0,.int .i64 0,.slice none 0 0,.int .i64 0,.int .i64 0,.slice none 0 0,.int .i64 0,.int .i64 0,.slice none 0 0]) ⟨uH HB,uH HX,uH HR⟩ ?_
 clear HB HX HR
 rintro W ⟨hB,hX,hR⟩
 have HB:=hide hB;have HX:=hide hX;have HR:=hide hR
 have HK:=hide (fun w' (h:Below W.heap.size W w')=>(show Below W.heap.size W w'∧(w'.cell? ⟨w.heap.size,0,none⟩ = some (.int .i64 n)∧w'.cell? ⟨w.heap.size,1,none⟩ = some (.int .i64 n)∧w'.cell? ⟨w.heap.size,2,none⟩ = some (.slice (some ⟨sb,so,none⟩) N hc)) from ⟨h,(hX.all h).c 0 rfl,(hX.all h).c 1 rfl,(hX.all h).c 2 rfl⟩))
 clear hB hX hR
 go_region_held3 (fun w'=>Below W.heap.size W w'∧(w'.cell? ⟨w.heap.size,0,none⟩ = some (.int .i64 n)∧w'.cell? ⟨w.heap.size,1,none⟩ = some (.int .i64 n)∧w'.cell? ⟨w.heap.size,2,none⟩ = some (.slice (some ⟨sb,so,none⟩) N hc)))
  (first | exact uH HK _ (Below.refl _ _).drew | exact uH HK _ (by assumption) | fail "KK")
  (first | (go_at_call 104;with_reducible refine Calls.mono (uH KP _) ?_;rintro e w6 ⟨rfl,hb5⟩;have hB5:Below W.heap.size W w6:=Below.trans (And.left (by assumption)) (hb5.mono (Below.size (And.left (by assumption))));clear hb5 KP) | (go_at_call 104;with_reducible refine Calls.mono (uH KQ _) ?_;rintro e w7 ⟨rfl,hb5⟩;have hB5:Below W.heap.size W w7:=Below.trans (And.left (by assumption)) (hb5.mono (Below.size (And.left (by assumption))));clear hb5 KQ) | fail "NO ARM")
 all_goals
  have BB:=And.left (by assumption:Below W.heap.size W _∧_)
  have HB2:=hide ((uH HB).trans (BB.mono (uH HB).size));have HX2:=hide ((uH HX).all BB);have HR2:=hide ((uH HR).all BB)
  clear HB HX HR HK BB
  go_wp2_with fail
  refine at_world (fun W=>Below w.heap.size w W∧BoxL 57 W w.heap.size [.int .i64 n,.int .i64 n,.slice (some ⟨sb,so,none⟩) N hc,.int .i64 n,.int .i64 n,.slice uo N tc,.int .i64 n,.int .i64 n,.slice qo N qc,.int .i64 n,.int .i64 n,.slice zo N zc]∧BoxL 57 W (w.heap.size+1) [.int .i64 0,.int .i64 0,.slice none 0 0,.int .i64 0,.int .i64 0,.slice none 0 0,.int .i64 0,.int .i64 0,.slice none 0 0,.int .i64 0,.int .i64 0,.slice none 0 0]) ⟨uH HB2,uH HX2,uH HR2⟩ ?_
  clear HB2 HX2 HR2
  rintro V ⟨hB,hX,hR⟩
  have HB:=hide hB;have HX:=hide hX;have HR:=hide hR
  have HK:=hide (fun w' (h:Below V.heap.size V w')=>(show Below V.heap.size V w'∧w'.cell? ⟨w.heap.size,2,none⟩ = some (.slice (some ⟨sb,so,none⟩) N hc)∧w'.cell? ⟨sb,so+x1,none⟩ = some (.int .u64 (f:Nat))∧w'.cell? ⟨sb,so+x2,none⟩ = some (.int .u64 (g:Nat)) from
   have q:=hB.trans (h.mono hB.size)
   ⟨h,(hX.all h).c 2 rfl,cell_keep (uH HC1) q,cell_keep (uH HC2) q⟩))
  have KT:=hide (fun w' (h:Below V.heap.size V w')=>uH HCT w' (hB.trans (h.mono hB.size)))
  clear hB hX hR
  go_region_held3 (fun w'=>Below V.heap.size V w'∧w'.cell? ⟨w.heap.size,2,none⟩ = some (.slice (some ⟨sb,so,none⟩) N hc)∧w'.cell? ⟨sb,so+x1,none⟩ = some (.int .u64 (f:Nat))∧w'.cell? ⟨sb,so+x2,none⟩ = some (.int .u64 (g:Nat)))
   (first | exact uH HK _ (Below.refl _ _).drew | exact uH HK _ (by assumption) | fail "KK")
   (first | (go_at_call 190;refine (uH KT _ (And.left (by assumption))).mono ?_;rintro e w8 ⟨rfl,hb5⟩;have hB5:Below V.heap.size V w8:=Below.trans (And.left (by assumption)) (hb5.mono (Below.size (And.left (by assumption))));clear hb5) | fail "NO ARM")
  all_goals
   have BB:=And.left (by assumption:Below V.heap.size V _∧_)
   have HB2:=hide ((uH HB).trans (BB.mono (uH HB).size));have HX2:=hide ((uH HX).all BB);have HR2:=hide ((uH HR).all BB)
   clear HB HX HR HK KT BB
   first | refine at_then (fun W=>Below w.heap.size w W∧BoxL 57 W w.heap.size [.int .i64 n,.int .i64 n,.slice (some ⟨sb,so,none⟩) N hc,.int .i64 n,.int .i64 n,.slice uo N tc,.int .i64 n,.int .i64 n,.slice qo N qc,.int .i64 n,.int .i64 n,.slice zo N zc]∧BoxL 57 W (w.heap.size+1) [.int .i64 0,.int .i64 0,.slice none 0 0,.int .i64 0,.int .i64 0,.slice none 0 0,.int .i64 0,.int .i64 0,.slice none 0 0,.int .i64 0,.int .i64 0,.slice none 0 0]) ⟨uH HB2,uH HX2,uH HR2⟩ ?_ | refine at_world (fun W=>Below w.heap.size w W∧BoxL 57 W w.heap.size [.int .i64 n,.int .i64 n,.slice (some ⟨sb,so,none⟩) N hc,.int .i64 n,.int .i64 n,.slice uo N tc,.int .i64 n,.int .i64 n,.slice qo N qc,.int .i64 n,.int .i64 n,.slice zo N zc]∧BoxL 57 W (w.heap.size+1) [.int .i64 0,.int .i64 0,.slice none 0 0,.int .i64 0,.int .i64 0,.slice none 0 0,.int .i64 0,.int .i64 0,.slice none 0 0,.int .i64 0,.int .i64 0,.slice none 0 0]) ⟨uH HB2,uH HX2,uH HR2⟩ ?_
   clear HB2 HX2 HR2
   rintro U ⟨hB,hX,hR⟩
   have HB:=hide hB;have HX:=hide hX;have HR:=hide hR
   clear hB hX hR HCT
   rcases uH HOK with ⟨rfl,rfl⟩ | ⟨rfl,rfl⟩
   ·clear HOK
    replace K1:=hide (fun w'=>uH K1 w' rfl);replace K2:=hide (fun w'=>uH K2 w' rfl);replace K3:=hide (fun w'=>uH K3 w' rfl)
    have y0:=(uH HX).c 0 rfl;have y1:=(uH HX).c 1 rfl;have y2:=(uH HX).c 2 rfl
    go_wp2_with fail
    clear y0 y1 y2
    refine (uH K1 _ (uH HB)).mono ?_
    rintro e w3 ⟨ga,rfl,hga,hrga,hb⟩
    have GGA:=hide (Nat.lt_of_lt_of_le (uH HR).lt hga)
    have X3:=(uH HX).all hb;have R3:=(uH HR).all hb
    have B3:=(uH HB).trans (hb.mono (uH HB).size)
    have s0:=X3.c 0 rfl;have s1:=X3.c 1 rfl;have s2:=X3.c 2 rfl
    have f0:=X3.free 0;have f1:=X3.free 1;have f2:=X3.free 2
    have X4:BoxL 57 (((w3.setCell ⟨w.heap.size,0,none⟩ (.int .i64 n)).setCell ⟨w.heap.size,1,none⟩ (.int .i64 n)).setCell ⟨w.heap.size,2,none⟩ (.slice (some ⟨ga,0,none⟩) N N)) w.heap.size [.int .i64 n,.int .i64 n,.slice (some ⟨ga,0,none⟩) N N,.int .i64 n,.int .i64 n,.slice uo N tc,.int .i64 n,.int .i64 n,.slice qo N qc,.int .i64 n,.int .i64 n,.slice zo N zc]:=((X3.set 0 (.int .i64 n)).set 1 (.int .i64 n)).set 2 (.slice (some ⟨ga,0,none⟩) N N)
    have B4:Below w.heap.size w (((w3.setCell ⟨w.heap.size,0,none⟩ (.int .i64 n)).setCell ⟨w.heap.size,1,none⟩ (.int .i64 n)).setCell ⟨w.heap.size,2,none⟩ (.slice (some ⟨ga,0,none⟩) N N)):=below_putL (b:=w.heap.size) (Nat.le_refl _) [.int .i64 n,.int .i64 n,.slice (some ⟨ga,0,none⟩) N N] 0 B3
    have R4:BoxL 57 (((w3.setCell ⟨w.heap.size,0,none⟩ (.int .i64 n)).setCell ⟨w.heap.size,1,none⟩ (.int .i64 n)).setCell ⟨w.heap.size,2,none⟩ (.slice (some ⟨ga,0,none⟩) N N)) (w.heap.size+1) [.int .i64 0,.int .i64 0,.slice none 0 0,.int .i64 0,.int .i64 0,.slice none 0 0,.int .i64 0,.int .i64 0,.slice none 0 0,.int .i64 0,.int .i64 0,.slice none 0 0]:=R3.putO (by omega) 0 [.int .i64 n,.int .i64 n,.slice (some ⟨ga,0,none⟩) N N]
    have tga:RowB (((w3.setCell ⟨w.heap.size,0,none⟩ (.int .i64 n)).setCell ⟨w.heap.size,1,none⟩ (.int .i64 n)).setCell ⟨w.heap.size,2,none⟩ (.slice (some ⟨ga,0,none⟩) N N)) ga A:=hrga.putL (by have:=uH GGA; omega) 0 [.int .i64 n,.int .i64 n,.slice (some ⟨ga,0,none⟩) N N]
    have y3:=X4.c 3 rfl;have y4:=X4.c 4 rfl;have y5:=X4.c 5 rfl
    replace HX:=hide X4;replace HR:=hide R4;replace HB:=hide B4
    have RGA:=hide tga
    clear hb hga hrga X3 R3 B3 X4 B4 R4 K1  tga
    go_wp2_with fail
    clear s0 s1 s2 f0 f1 f2 y3 y4 y5
    refine (uH K2 _ (uH HB)).mono ?_
    rintro e w4 ⟨gb,rfl,hgb,hrgb,hb⟩
    have GGB:=hide (Nat.lt_of_lt_of_le (uH RGA).lt hgb)
    have X3:=(uH HX).all hb;have R3:=(uH HR).all hb
    have B3:=(uH HB).trans (hb.mono (uH HB).size)
    have rga:=(uH RGA).below hb (uH RGA).lt
    have s3:=X3.c 3 rfl;have s4:=X3.c 4 rfl;have s5:=X3.c 5 rfl
    have f3:=X3.free 3;have f4:=X3.free 4;have f5:=X3.free 5
    have X4:BoxL 57 (((w4.setCell ⟨w.heap.size,3,none⟩ (.int .i64 n)).setCell ⟨w.heap.size,4,none⟩ (.int .i64 n)).setCell ⟨w.heap.size,5,none⟩ (.slice (some ⟨gb,0,none⟩) N N)) w.heap.size [.int .i64 n,.int .i64 n,.slice (some ⟨ga,0,none⟩) N N,.int .i64 n,.int .i64 n,.slice (some ⟨gb,0,none⟩) N N,.int .i64 n,.int .i64 n,.slice qo N qc,.int .i64 n,.int .i64 n,.slice zo N zc]:=((X3.set 3 (.int .i64 n)).set 4 (.int .i64 n)).set 5 (.slice (some ⟨gb,0,none⟩) N N)
    have B4:Below w.heap.size w (((w4.setCell ⟨w.heap.size,3,none⟩ (.int .i64 n)).setCell ⟨w.heap.size,4,none⟩ (.int .i64 n)).setCell ⟨w.heap.size,5,none⟩ (.slice (some ⟨gb,0,none⟩) N N)):=below_putL (b:=w.heap.size) (Nat.le_refl _) [.int .i64 n,.int .i64 n,.slice (some ⟨gb,0,none⟩) N N] 3 B3
    have R4:BoxL 57 (((w4.setCell ⟨w.heap.size,3,none⟩ (.int .i64 n)).setCell ⟨w.heap.size,4,none⟩ (.int .i64 n)).setCell ⟨w.heap.size,5,none⟩ (.slice (some ⟨gb,0,none⟩) N N)) (w.heap.size+1) [.int .i64 0,.int .i64 0,.slice none 0 0,.int .i64 0,.int .i64 0,.slice none 0 0,.int .i64 0,.int .i64 0,.slice none 0 0,.int .i64 0,.int .i64 0,.slice none 0 0]:=R3.putO (by omega) 3 [.int .i64 n,.int .i64 n,.slice (some ⟨gb,0,none⟩) N N]
    have tga:RowB (((w4.setCell ⟨w.heap.size,3,none⟩ (.int .i64 n)).setCell ⟨w.heap.size,4,none⟩ (.int .i64 n)).setCell ⟨w.heap.size,5,none⟩ (.slice (some ⟨gb,0,none⟩) N N)) ga A:=rga.putL (by have:=uH GGA; omega) 3 [.int .i64 n,.int .i64 n,.slice (some ⟨gb,0,none⟩) N N]
    have tgb:RowB (((w4.setCell ⟨w.heap.size,3,none⟩ (.int .i64 n)).setCell ⟨w.heap.size,4,none⟩ (.int .i64 n)).setCell ⟨w.heap.size,5,none⟩ (.slice (some ⟨gb,0,none⟩) N N)) gb B:=hrgb.putL (by have:=uH GGA;have:=uH GGB; omega) 3 [.int .i64 n,.int .i64 n,.slice (some ⟨gb,0,none⟩) N N]
    have y6:=X4.c 6 rfl;have y7:=X4.c 7 rfl;have y8:=X4.c 8 rfl
    replace HX:=hide X4;replace HR:=hide R4;replace HB:=hide B4
    replace RGA:=hide tga
    have RGB:=hide tgb
    clear hb hgb hrgb X3 R3 B3 X4 B4 R4 K2 rga tga tgb
    go_wp2_with fail
    clear s3 s4 s5 f3 f4 f5 y6 y7 y8
    refine (uH K3 _ (uH HB)).mono ?_
    rintro e w5 ⟨gc,rfl,hgc,hrgc,hb⟩
    have GGC:=hide (Nat.lt_of_lt_of_le (uH RGB).lt hgc)
    have X3:=(uH HX).all hb;have R3:=(uH HR).all hb
    have B3:=(uH HB).trans (hb.mono (uH HB).size)
    have rga:=(uH RGA).below hb (uH RGA).lt
    have rgb:=(uH RGB).below hb (uH RGB).lt
    have s6:=X3.c 6 rfl;have s7:=X3.c 7 rfl;have s8:=X3.c 8 rfl
    have f6:=X3.free 6;have f7:=X3.free 7;have f8:=X3.free 8
    have X4:BoxL 57 (((w5.setCell ⟨w.heap.size,6,none⟩ (.int .i64 n)).setCell ⟨w.heap.size,7,none⟩ (.int .i64 n)).setCell ⟨w.heap.size,8,none⟩ (.slice (some ⟨gc,0,none⟩) N N)) w.heap.size [.int .i64 n,.int .i64 n,.slice (some ⟨ga,0,none⟩) N N,.int .i64 n,.int .i64 n,.slice (some ⟨gb,0,none⟩) N N,.int .i64 n,.int .i64 n,.slice (some ⟨gc,0,none⟩) N N,.int .i64 n,.int .i64 n,.slice zo N zc]:=((X3.set 6 (.int .i64 n)).set 7 (.int .i64 n)).set 8 (.slice (some ⟨gc,0,none⟩) N N)
    have B4:Below w.heap.size w (((w5.setCell ⟨w.heap.size,6,none⟩ (.int .i64 n)).setCell ⟨w.heap.size,7,none⟩ (.int .i64 n)).setCell ⟨w.heap.size,8,none⟩ (.slice (some ⟨gc,0,none⟩) N N)):=below_putL (b:=w.heap.size) (Nat.le_refl _) [.int .i64 n,.int .i64 n,.slice (some ⟨gc,0,none⟩) N N] 6 B3
    have R4:BoxL 57 (((w5.setCell ⟨w.heap.size,6,none⟩ (.int .i64 n)).setCell ⟨w.heap.size,7,none⟩ (.int .i64 n)).setCell ⟨w.heap.size,8,none⟩ (.slice (some ⟨gc,0,none⟩) N N)) (w.heap.size+1) [.int .i64 0,.int .i64 0,.slice none 0 0,.int .i64 0,.int .i64 0,.slice none 0 0,.int .i64 0,.int .i64 0,.slice none 0 0,.int .i64 0,.int .i64 0,.slice none 0 0]:=R3.putO (by omega) 6 [.int .i64 n,.int .i64 n,.slice (some ⟨gc,0,none⟩) N N]
    have tga:RowB (((w5.setCell ⟨w.heap.size,6,none⟩ (.int .i64 n)).setCell ⟨w.heap.size,7,none⟩ (.int .i64 n)).setCell ⟨w.heap.size,8,none⟩ (.slice (some ⟨gc,0,none⟩) N N)) ga A:=rga.putL (by have:=uH GGA; omega) 6 [.int .i64 n,.int .i64 n,.slice (some ⟨gc,0,none⟩) N N]
    have tgb:RowB (((w5.setCell ⟨w.heap.size,6,none⟩ (.int .i64 n)).setCell ⟨w.heap.size,7,none⟩ (.int .i64 n)).setCell ⟨w.heap.size,8,none⟩ (.slice (some ⟨gc,0,none⟩) N N)) gb B:=rgb.putL (by have:=uH GGA;have:=uH GGB; omega) 6 [.int .i64 n,.int .i64 n,.slice (some ⟨gc,0,none⟩) N N]
    have tgc:RowB (((w5.setCell ⟨w.heap.size,6,none⟩ (.int .i64 n)).setCell ⟨w.heap.size,7,none⟩ (.int .i64 n)).setCell ⟨w.heap.size,8,none⟩ (.slice (some ⟨gc,0,none⟩) N N)) gc D:=hrgc.putL (by have:=uH GGA;have:=uH GGB;have:=uH GGC; omega) 6 [.int .i64 n,.int .i64 n,.slice (some ⟨gc,0,none⟩) N N]
    skip
    replace HX:=hide X4;replace HR:=hide R4;replace HB:=hide B4
    replace RGA:=hide tga
    replace RGB:=hide tgb
    have RGC:=hide tgc
    clear hb hgc hrgc X3 R3 B3 X4 B4 R4 K3 rga rgb tga tgb tgc
    go_wp2_with fail
    clear s6 s7 s8 f6 f7 f8
    refine at_world (fun W=>R8St w W ga gb gc [.int .i64 n,.int .i64 n,.slice (some ⟨ga,0,none⟩) N N,.int .i64 n,.int .i64 n,.slice (some ⟨gb,0,none⟩) N N,.int .i64 n,.int .i64 n,.slice (some ⟨gc,0,none⟩) N N,.int .i64 n,.int .i64 n,.slice zo N zc] A B D) ⟨uH HB,uH HX,uH HR,uH RGA,uH RGB,uH RGC,uH GGA,uH GGB,uH GGC⟩ ?_
    clear HB HX HR RGA RGB RGC GGA GGB GGC
    rintro V st
    have ST:=hide st
    clear st
    have a2:=(uH ST).box.c 2 rfl
    have d1:=(uH ST).ra.cell x1 (by rw [uH LA];exact x1N);have d2:=(uH ST).ra.cell x2 (by rw [uH LA];exact x2N)
    have f1:=(uH ST).ra.free x1;have f2:=(uH ST).ra.free x2
    have S9:=(uH ST).set x1 r
    have d3:=S9.ra.cell x2 (by rw [List.length_set,uH LA];exact x2N);have f3:=S9.ra.free x2;have a3:=S9.box.c 2 rfl
    have P9:=hide ((S9.set x2 0).all (Below.refl _ _).drew)
    have a4:=(S9.set x2 0).box.c 2 rfl
    clear S9 ST
    go_region_with (fail)
    all_goals
     clear a2 d1 d2 d3 f1 f2 f3 a3 a4
     first | refine at_then (fun W=>R8St w W ga gb gc [.int .i64 n,.int .i64 n,.slice (some ⟨ga,0,none⟩) N N,.int .i64 n,.int .i64 n,.slice (some ⟨gb,0,none⟩) N N,.int .i64 n,.int .i64 n,.slice (some ⟨gc,0,none⟩) N N,.int .i64 n,.int .i64 n,.slice zo N zc] ((A.set x1 r).set x2 0) B D) (uH P9) ?_ | refine at_world (fun W=>R8St w W ga gb gc [.int .i64 n,.int .i64 n,.slice (some ⟨ga,0,none⟩) N N,.int .i64 n,.int .i64 n,.slice (some ⟨gb,0,none⟩) N N,.int .i64 n,.int .i64 n,.slice (some ⟨gc,0,none⟩) N N,.int .i64 n,.int .i64 n,.slice zo N zc] ((A.set x1 r).set x2 0) B D) (uH P9) ?_
     clear P9
     rintro V9 st
     have X9:=st.box;have Q9:=st.res
     have y0:=X9.c 0 rfl;have y1:=X9.c 1 rfl;have y2:=X9.c 2 rfl;have y3:=X9.c 3 rfl;have y4:=X9.c 4 rfl;have y5:=X9.c 5 rfl;have y6:=X9.c 6 rfl;have y7:=X9.c 7 rfl;have y8:=X9.c 8 rfl;have y9:=X9.c 9 rfl;have y10:=X9.c 10 rfl;have y11:=X9.c 11 rfl
     have s0:=Q9.c 0 rfl;have s1:=Q9.c 1 rfl;have s2:=Q9.c 2 rfl;have s3:=Q9.c 3 rfl;have s4:=Q9.c 4 rfl;have s5:=Q9.c 5 rfl;have s6:=Q9.c 6 rfl;have s7:=Q9.c 7 rfl;have s8:=Q9.c 8 rfl;have s9:=Q9.c 9 rfl;have s10:=Q9.c 10 rfl;have s11:=Q9.c 11 rfl
     have f0:=Q9.free 0;have f1:=Q9.free 1;have f2:=Q9.free 2;have f3:=Q9.free 3;have f4:=Q9.free 4;have f5:=Q9.free 5;have f6:=Q9.free 6;have f7:=Q9.free 7;have f8:=Q9.free 8;have f9:=Q9.free 9;have f10:=Q9.free 10;have f11:=Q9.free 11
     have OUT:=st.out [.int .i64 n,.int .i64 n,.slice (some ⟨ga,0,none⟩) N N,.int .i64 n,.int .i64 n,.slice (some ⟨gb,0,none⟩) N N,.int .i64 n,.int .i64 n,.slice (some ⟨gc,0,none⟩) N N,.int .i64 n,.int .i64 n,.slice zo N zc] rfl
     have XP:BoxL 57 ((((((((((((V9.setCell ⟨w.heap.size+1,0,none⟩ (.int .i64 n)).setCell ⟨w.heap.size+1,1,none⟩ (.int .i64 n)).setCell ⟨w.heap.size+1,2,none⟩ (.slice (some ⟨ga,0,none⟩) N N)).setCell ⟨w.heap.size+1,3,none⟩ (.int .i64 n)).setCell ⟨w.heap.size+1,4,none⟩ (.int .i64 n)).setCell ⟨w.heap.size+1,5,none⟩ (.slice (some ⟨gb,0,none⟩) N N)).setCell ⟨w.heap.size+1,6,none⟩ (.int .i64 n)).setCell ⟨w.heap.size+1,7,none⟩ (.int .i64 n)).setCell ⟨w.heap.size+1,8,none⟩ (.slice (some ⟨gc,0,none⟩) N N)).setCell ⟨w.heap.size+1,9,none⟩ (.int .i64 n)).setCell ⟨w.heap.size+1,10,none⟩ (.int .i64 n)).setCell ⟨w.heap.size+1,11,none⟩ (.slice zo N zc)) (w.heap.size+1) [.int .i64 n,.int .i64 n,.slice (some ⟨ga,0,none⟩) N N,.int .i64 n,.int .i64 n,.slice (some ⟨gb,0,none⟩) N N,.int .i64 n,.int .i64 n,.slice (some ⟨gc,0,none⟩) N N,.int .i64 n,.int .i64 n,.slice zo N zc]:=OUT.2.1
     have z0:=XP.c 0 rfl;have z1:=XP.c 1 rfl;have z2:=XP.c 2 rfl;have z3:=XP.c 3 rfl;have z4:=XP.c 4 rfl;have z5:=XP.c 5 rfl;have z6:=XP.c 6 rfl;have z7:=XP.c 7 rfl;have z8:=XP.c 8 rfl;have z9:=XP.c 9 rfl;have z10:=XP.c 10 rfl;have z11:=XP.c 11 rfl
     have HO:Hid (Below w.heap.size w ((((((((((((V9.setCell ⟨w.heap.size+1,0,none⟩ (.int .i64 n)).setCell ⟨w.heap.size+1,1,none⟩ (.int .i64 n)).setCell ⟨w.heap.size+1,2,none⟩ (.slice (some ⟨ga,0,none⟩) N N)).setCell ⟨w.heap.size+1,3,none⟩ (.int .i64 n)).setCell ⟨w.heap.size+1,4,none⟩ (.int .i64 n)).setCell ⟨w.heap.size+1,5,none⟩ (.slice (some ⟨gb,0,none⟩) N N)).setCell ⟨w.heap.size+1,6,none⟩ (.int .i64 n)).setCell ⟨w.heap.size+1,7,none⟩ (.int .i64 n)).setCell ⟨w.heap.size+1,8,none⟩ (.slice (some ⟨gc,0,none⟩) N N)).setCell ⟨w.heap.size+1,9,none⟩ (.int .i64 n)).setCell ⟨w.heap.size+1,10,none⟩ (.int .i64 n)).setCell ⟨w.heap.size+1,11,none⟩ (.slice zo N zc))∧RowB ((((((((((((V9.setCell ⟨w.heap.size+1,0,none⟩ (.int .i64 n)).setCell ⟨w.heap.size+1,1,none⟩ (.int .i64 n)).setCell ⟨w.heap.size+1,2,none⟩ (.slice (some ⟨ga,0,none⟩) N N)).setCell ⟨w.heap.size+1,3,none⟩ (.int .i64 n)).setCell ⟨w.heap.size+1,4,none⟩ (.int .i64 n)).setCell ⟨w.heap.size+1,5,none⟩ (.slice (some ⟨gb,0,none⟩) N N)).setCell ⟨w.heap.size+1,6,none⟩ (.int .i64 n)).setCell ⟨w.heap.size+1,7,none⟩ (.int .i64 n)).setCell ⟨w.heap.size+1,8,none⟩ (.slice (some ⟨gc,0,none⟩) N N)).setCell ⟨w.heap.size+1,9,none⟩ (.int .i64 n)).setCell ⟨w.heap.size+1,10,none⟩ (.int .i64 n)).setCell ⟨w.heap.size+1,11,none⟩ (.slice zo N zc)) ga ((A.set x1 r).set x2 0)∧RowB ((((((((((((V9.setCell ⟨w.heap.size+1,0,none⟩ (.int .i64 n)).setCell ⟨w.heap.size+1,1,none⟩ (.int .i64 n)).setCell ⟨w.heap.size+1,2,none⟩ (.slice (some ⟨ga,0,none⟩) N N)).setCell ⟨w.heap.size+1,3,none⟩ (.int .i64 n)).setCell ⟨w.heap.size+1,4,none⟩ (.int .i64 n)).setCell ⟨w.heap.size+1,5,none⟩ (.slice (some ⟨gb,0,none⟩) N N)).setCell ⟨w.heap.size+1,6,none⟩ (.int .i64 n)).setCell ⟨w.heap.size+1,7,none⟩ (.int .i64 n)).setCell ⟨w.heap.size+1,8,none⟩ (.slice (some ⟨gc,0,none⟩) N N)).setCell ⟨w.heap.size+1,9,none⟩ (.int .i64 n)).setCell ⟨w.heap.size+1,10,none⟩ (.int .i64 n)).setCell ⟨w.heap.size+1,11,none⟩ (.slice zo N zc)) gb B∧RowB ((((((((((((V9.setCell ⟨w.heap.size+1,0,none⟩ (.int .i64 n)).setCell ⟨w.heap.size+1,1,none⟩ (.int .i64 n)).setCell ⟨w.heap.size+1,2,none⟩ (.slice (some ⟨ga,0,none⟩) N N)).setCell ⟨w.heap.size+1,3,none⟩ (.int .i64 n)).setCell ⟨w.heap.size+1,4,none⟩ (.int .i64 n)).setCell ⟨w.heap.size+1,5,none⟩ (.slice (some ⟨gb,0,none⟩) N N)).setCell ⟨w.heap.size+1,6,none⟩ (.int .i64 n)).setCell ⟨w.heap.size+1,7,none⟩ (.int .i64 n)).setCell ⟨w.heap.size+1,8,none⟩ (.slice (some ⟨gc,0,none⟩) N N)).setCell ⟨w.heap.size+1,9,none⟩ (.int .i64 n)).setCell ⟨w.heap.size+1,10,none⟩ (.int .i64 n)).setCell ⟨w.heap.size+1,11,none⟩ (.slice zo N zc)) gc D):=hide ⟨OUT.1,OUT.2.2.1,OUT.2.2.2.1,OUT.2.2.2.2⟩
     have HGG:=hide (And.intro st.ha (And.intro st.hb st.hc))
     clear st X9 Q9 OUT XP
     go_wp2_with fail
     exact bodyPost_ret (v:=.tuple #[.agg #[.int .i64 n,.int .i64 n,.slice (some ⟨ga,0,none⟩) N N,.int .i64 n,.int .i64 n,.slice (some ⟨gb,0,none⟩) N N,.int .i64 n,.int .i64 n,.slice (some ⟨gc,0,none⟩) N N,.int .i64 n,.int .i64 n,.slice zo N zc],.bool true]) (by simp [results,Tryz.results150,go_sem,z0,z1,z2,z3,z4,z5,z6,z7,z8,z9,z10,z11]) rfl ⟨.inl ⟨rfl,ga,gb,gc,rfl,uH HGG,(uH HO).2⟩,(uH HO).1⟩
   ·clear HOK
    have hR:=uH HR
    have s0:=hR.c 0 rfl;have s1:=hR.c 1 rfl;have s2:=hR.c 2 rfl;have s3:=hR.c 3 rfl;have s4:=hR.c 4 rfl;have s5:=hR.c 5 rfl;have s6:=hR.c 6 rfl;have s7:=hR.c 7 rfl;have s8:=hR.c 8 rfl;have s9:=hR.c 9 rfl;have s10:=hR.c 10 rfl;have s11:=hR.c 11 rfl
    have f0:=hR.free 0;have f1:=hR.free 1;have f2:=hR.free 2;have f3:=hR.free 3;have f4:=hR.free 4;have f5:=hR.free 5;have f6:=hR.free 6;have f7:=hR.free 7;have f8:=hR.free 8;have f9:=hR.free 9;have f10:=hR.free 10;have f11:=hR.free 11
    have BP:Below w.heap.size w ((((((((((((U.setCell ⟨w.heap.size+1,0,none⟩ (.int .i64 0)).setCell ⟨w.heap.size+1,1,none⟩ (.int .i64 0)).setCell ⟨w.heap.size+1,2,none⟩ (.slice none 0 0)).setCell ⟨w.heap.size+1,3,none⟩ (.int .i64 0)).setCell ⟨w.heap.size+1,4,none⟩ (.int .i64 0)).setCell ⟨w.heap.size+1,5,none⟩ (.slice none 0 0)).setCell ⟨w.heap.size+1,6,none⟩ (.int .i64 0)).setCell ⟨w.heap.size+1,7,none⟩ (.int .i64 0)).setCell ⟨w.heap.size+1,8,none⟩ (.slice none 0 0)).setCell ⟨w.heap.size+1,9,none⟩ (.int .i64 0)).setCell ⟨w.heap.size+1,10,none⟩ (.int .i64 0)).setCell ⟨w.heap.size+1,11,none⟩ (.slice none 0 0)):=below_putL (b:=w.heap.size+1) (Nat.le_succ _) [.int .i64 0,.int .i64 0,.slice none 0 0,.int .i64 0,.int .i64 0,.slice none 0 0,.int .i64 0,.int .i64 0,.slice none 0 0,.int .i64 0,.int .i64 0,.slice none 0 0] 0 (uH HB)
    have XP:BoxL 57 ((((((((((((U.setCell ⟨w.heap.size+1,0,none⟩ (.int .i64 0)).setCell ⟨w.heap.size+1,1,none⟩ (.int .i64 0)).setCell ⟨w.heap.size+1,2,none⟩ (.slice none 0 0)).setCell ⟨w.heap.size+1,3,none⟩ (.int .i64 0)).setCell ⟨w.heap.size+1,4,none⟩ (.int .i64 0)).setCell ⟨w.heap.size+1,5,none⟩ (.slice none 0 0)).setCell ⟨w.heap.size+1,6,none⟩ (.int .i64 0)).setCell ⟨w.heap.size+1,7,none⟩ (.int .i64 0)).setCell ⟨w.heap.size+1,8,none⟩ (.slice none 0 0)).setCell ⟨w.heap.size+1,9,none⟩ (.int .i64 0)).setCell ⟨w.heap.size+1,10,none⟩ (.int .i64 0)).setCell ⟨w.heap.size+1,11,none⟩ (.slice none 0 0)) (w.heap.size+1) [.int .i64 0,.int .i64 0,.slice none 0 0,.int .i64 0,.int .i64 0,.slice none 0 0,.int .i64 0,.int .i64 0,.slice none 0 0,.int .i64 0,.int .i64 0,.slice none 0 0]:=hR.full [.int .i64 0,.int .i64 0,.slice none 0 0,.int .i64 0,.int .i64 0,.slice none 0 0,.int .i64 0,.int .i64 0,.slice none 0 0,.int .i64 0,.int .i64 0,.slice none 0 0] rfl
    have z0:=XP.c 0 rfl;have z1:=XP.c 1 rfl;have z2:=XP.c 2 rfl;have z3:=XP.c 3 rfl;have z4:=XP.c 4 rfl;have z5:=XP.c 5 rfl;have z6:=XP.c 6 rfl;have z7:=XP.c 7 rfl;have z8:=XP.c 8 rfl;have z9:=XP.c 9 rfl;have z10:=XP.c 10 rfl;have z11:=XP.c 11 rfl
    replace BP:=hide BP
    clear XP hR HB HX HR HC1 HC2 K1 K2 K3
    go_wp2_with fail
    exact bodyPost_ret (v:=.tuple #[.agg #[.int .i64 0,.int .i64 0,.slice none 0 0,.int .i64 0,.int .i64 0,.slice none 0 0,.int .i64 0,.int .i64 0,.slice none 0 0,.int .i64 0,.int .i64 0,.slice none 0 0],.bool false]) (by simp [results,Tryz.results150,go_sem,z0,z1,z2,z3,z4,z5,z6,z7,z8,z9,z10,z11]) rfl ⟨.inr ⟨rfl,rfl⟩,uH BP⟩
theorem columnsTurned_of (n N i p x1 x2 f g C s r:Nat) (ho uo qo zo:Option Addr) (hc tc qc zc:Nat) (S:List Nat) (w:World) (h6:n≤6) (hi:p+1 = i) (hin:i < n) (hN:n * n = N) (h1:i * n+i = x1) (h2:i * n+p = x2) (hS:BitsAt w uo tc (mxL S)) (lS:S.length = N) (hf:S.getD x1 0 = f) (hg:S.getD x2 0 = g) (A B D:List Nat) (ok:Bool) (er:Int) (lA:A.length = N) (hok:(ok = true∧er = 0) ∨ (ok = false∧er = 4))
  (CT:∀ w',Below w.heap.size w w'→Calls Tryz.prog 190 #[.int .u64 f,.int .u64 g] w' fun e w''=>e = .returned (.tuple #[.int .u64 (C:Nat),.int .u64 (s:Nat),.int .u64 (r:Nat),.int .i64 er])∧Below w'.heap.size w' w'')
  (D1:∀ w',ok = true→Below w.heap.size w w'→Calls Tryz.prog 192 #[.agg #[.int .i64 n,.int .i64 n,.slice uo N tc],.int .i64 i,.int .i64 p,.int .u64 C,.int .u64 s] w' fun e w''=>∃ g,e = .returned (.tuple #[.agg #[.int .i64 n,.int .i64 n,.slice (some ⟨g,0,none⟩) N N],.int .i64 0])∧w'.heap.size≤g∧RowB w'' g A∧Below w'.heap.size w' w'')
  (D2:∀ w',ok = true→Below w.heap.size w w'→Calls Tryz.prog 192 #[.agg #[.int .i64 n,.int .i64 n,.slice ho N hc],.int .i64 i,.int .i64 p,.int .u64 C,.int .u64 s] w' fun e w''=>∃ g,e = .returned (.tuple #[.agg #[.int .i64 n,.int .i64 n,.slice (some ⟨g,0,none⟩) N N],.int .i64 0])∧w'.heap.size≤g∧RowB w'' g B∧Below w'.heap.size w' w'')
  (D3:∀ w',ok = true→Below w.heap.size w w'→Calls Tryz.prog 192 #[.agg #[.int .i64 n,.int .i64 n,.slice zo N zc],.int .i64 i,.int .i64 p,.int .u64 C,.int .u64 s] w' fun e w''=>∃ g,e = .returned (.tuple #[.agg #[.int .i64 n,.int .i64 n,.slice (some ⟨g,0,none⟩) N N],.int .i64 0])∧w'.heap.size≤g∧RowB w'' g D∧Below w'.heap.size w' w'') :
  Calls Tryz.prog 151 #[.agg #[.int .i64 n,.int .i64 n,.slice ho N hc,.int .i64 n,.int .i64 n,.slice uo N tc,.int .i64 n,.int .i64 n,.slice qo N qc,.int .i64 n,.int .i64 n,.slice zo N zc],.int .i64 i] w fun e w'=>TrAns w w' ok (fun ga gb gc=>.agg #[.int .i64 n,.int .i64 n,.slice (some ⟨gb,0,none⟩) N N,.int .i64 n,.int .i64 n,.slice (some ⟨ga,0,none⟩) N N,.int .i64 n,.int .i64 n,.slice qo N qc,.int .i64 n,.int .i64 n,.slice (some ⟨gc,0,none⟩) N N]) ((A.set x1 r).set x2 0) B D e∧Below w.heap.size w w':=by
 have x1N:x1 < N:=by rw [← h1,← hN];exact place_lt (by omega) (by omega)
 have x2N:x2 < N:=by rw [← h2,← hN];exact place_lt (by omega) (by omega)
 have h36:N≤36:=by rw [← hN];exact Nat.mul_le_mul h6 h6
 have x1I:(x1:Int) < (N:Int):=by omega
 have x2I:(x2:Int) < (N:Int):=by omega
 have e1:IntKind.i64.wrap ((i:Int) - 1) = (p:Int):=(wrap_in _ (by omega)).trans (by omega)
 have e2:(i:Int) - 1 = (p:Int):=by omega
 have e3:IntKind.i64.wrap (p:Int) = (p:Int):=wrap_in _ (by omega)
 have KP:=hide (fun w'=>hplace_any n n i i x1 uo N tc w' h1 (by omega))
 have KQ:=hide (fun w'=>hplace_any n n i p x2 uo N tc w' h2 (by omega))
 obtain ⟨sb,so,hso,hsl,hcx⟩:=bits_cell hS (k:=x1) (by omega)
 obtain ⟨sb2,so2,hso2,_,hcy⟩:=bits_cell hS (k:=x2) (by omega)
 rw [hso] at hso2
 simp only [Option.some.injEq,Addr.mk.injEq] at hso2
 obtain ⟨rfl,rfl,_⟩:=hso2
 rw [hf] at hcx
 rw [hg] at hcy
 subst hso
 obtain ⟨b0,z0,z1⟩:=boxesF w [.int .i64 n,.int .i64 n,.slice ho N hc,.int .i64 n,.int .i64 n,.slice (some ⟨sb,so,none⟩) N tc,.int .i64 n,.int .i64 n,.slice qo N qc,.int .i64 n,.int .i64 n,.slice zo N zc] [.int .i64 0,.int .i64 0,.slice none 0 0,.int .i64 0,.int .i64 0,.slice none 0 0,.int .i64 0,.int .i64 0,.slice none 0 0,.int .i64 0,.int .i64 0,.slice none 0 0] ((w.alloc (.cells #[.int .i64 n,.int .i64 n,.slice ho N hc,.int .i64 n,.int .i64 n,.slice (some ⟨sb,so,none⟩) N tc,.int .i64 n,.int .i64 n,.slice qo N qc,.int .i64 n,.int .i64 n,.slice zo N zc] 57)).alloc (.cells #[.int .i64 0,.int .i64 0,.slice none 0 0,.int .i64 0,.int .i64 0,.slice none 0 0,.int .i64 0,.int .i64 0,.slice none 0 0,.int .i64 0,.int .i64 0,.slice none 0 0] 57)) (by have:=Below.refl ((w.alloc (.cells #[.int .i64 n,.int .i64 n,.slice ho N hc,.int .i64 n,.int .i64 n,.slice (some ⟨sb,so,none⟩) N tc,.int .i64 n,.int .i64 n,.slice qo N qc,.int .i64 n,.int .i64 n,.slice zo N zc] 57)).alloc (.cells #[.int .i64 0,.int .i64 0,.slice none 0 0,.int .i64 0,.int .i64 0,.slice none 0 0,.int .i64 0,.int .i64 0,.slice none 0 0,.int .i64 0,.int .i64 0,.slice none 0 0] 57)).heap.size ((w.alloc (.cells #[.int .i64 n,.int .i64 n,.slice ho N hc,.int .i64 n,.int .i64 n,.slice (some ⟨sb,so,none⟩) N tc,.int .i64 n,.int .i64 n,.slice qo N qc,.int .i64 n,.int .i64 n,.slice zo N zc] 57)).alloc (.cells #[.int .i64 0,.int .i64 0,.slice none 0 0,.int .i64 0,.int .i64 0,.slice none 0 0,.int .i64 0,.int .i64 0,.slice none 0 0,.int .i64 0,.int .i64 0,.slice none 0 0] 57));simpa only [size_alloc9] using this)
 have HB:=hide b0;have HX:=hide z0;have HR:=hide z1
 have HC1:=hide hcx;have HC2:=hide hcy
 clear b0 z0 z1 hcx hcy hS hf hg h1 h2
 have K1:=hide D1;have K2:=hide D2;have K3:=hide D3;have LA:=hide lA;have HCT:=hide CT;have HOK:=hide hok
 clear D1 D2 D3 lA CT hok hN
 go_enter Tryz.func151,Tryz.ntmps151
 go_wp2_with fail
 refine at_world (fun W=>Below w.heap.size w W∧BoxL 57 W w.heap.size [.int .i64 n,.int .i64 n,.slice ho N hc,.int .i64 n,.int .i64 n,.slice (some ⟨sb,so,none⟩) N tc,.int .i64 n,.int .i64 n,.slice qo N qc,.int .i64 n,.int .i64 n,.slice zo N zc]∧BoxL 57 W (w.heap.size+1) [.int .i64 0,.int .i64 0,.slice none 0 0,.int .i64 0,.int .i64 0,.slice none 0 0,.int .i64 0,.int .i64 0,.slice none 0 0,.int .i64 0,.int .i64 0,.slice none 0 0]) ⟨uH HB,uH HX,uH HR⟩ ?_
 clear HB HX HR
 rintro W ⟨hB,hX,hR⟩
 have HB:=hide hB;have HX:=hide hX;have HR:=hide hR
 have HK:=hide (fun w' (h:Below W.heap.size W w')=>(show Below W.heap.size W w'∧(w'.cell? ⟨w.heap.size,3,none⟩ = some (.int .i64 n)∧w'.cell? ⟨w.heap.size,4,none⟩ = some (.int .i64 n)∧w'.cell? ⟨w.heap.size,5,none⟩ = some (.slice (some ⟨sb,so,none⟩) N tc)) from ⟨h,(hX.all h).c 3 rfl,(hX.all h).c 4 rfl,(hX.all h).c 5 rfl⟩))
 clear hB hX hR
 go_region_held3 (fun w'=>Below W.heap.size W w'∧(w'.cell? ⟨w.heap.size,3,none⟩ = some (.int .i64 n)∧w'.cell? ⟨w.heap.size,4,none⟩ = some (.int .i64 n)∧w'.cell? ⟨w.heap.size,5,none⟩ = some (.slice (some ⟨sb,so,none⟩) N tc)))
  (first | exact uH HK _ (Below.refl _ _).drew | exact uH HK _ (by assumption) | fail "KK")
  (first | (go_at_call 104;with_reducible refine Calls.mono (uH KP _) ?_;rintro e w6 ⟨rfl,hb5⟩;have hB5:Below W.heap.size W w6:=Below.trans (And.left (by assumption)) (hb5.mono (Below.size (And.left (by assumption))));clear hb5 KP) | (go_at_call 104;with_reducible refine Calls.mono (uH KQ _) ?_;rintro e w7 ⟨rfl,hb5⟩;have hB5:Below W.heap.size W w7:=Below.trans (And.left (by assumption)) (hb5.mono (Below.size (And.left (by assumption))));clear hb5 KQ) | fail "NO ARM")
 all_goals
  have BB:=And.left (by assumption:Below W.heap.size W _∧_)
  have HB2:=hide ((uH HB).trans (BB.mono (uH HB).size));have HX2:=hide ((uH HX).all BB);have HR2:=hide ((uH HR).all BB)
  clear HB HX HR HK BB
  go_wp2_with fail
  refine at_world (fun W=>Below w.heap.size w W∧BoxL 57 W w.heap.size [.int .i64 n,.int .i64 n,.slice ho N hc,.int .i64 n,.int .i64 n,.slice (some ⟨sb,so,none⟩) N tc,.int .i64 n,.int .i64 n,.slice qo N qc,.int .i64 n,.int .i64 n,.slice zo N zc]∧BoxL 57 W (w.heap.size+1) [.int .i64 0,.int .i64 0,.slice none 0 0,.int .i64 0,.int .i64 0,.slice none 0 0,.int .i64 0,.int .i64 0,.slice none 0 0,.int .i64 0,.int .i64 0,.slice none 0 0]) ⟨uH HB2,uH HX2,uH HR2⟩ ?_
  clear HB2 HX2 HR2
  rintro V ⟨hB,hX,hR⟩
  have HB:=hide hB;have HX:=hide hX;have HR:=hide hR
  have HK:=hide (fun w' (h:Below V.heap.size V w')=>(show Below V.heap.size V w'∧w'.cell? ⟨w.heap.size,5,none⟩ = some (.slice (some ⟨sb,so,none⟩) N tc)∧w'.cell? ⟨sb,so+x1,none⟩ = some (.int .u64 (f:Nat))∧w'.cell? ⟨sb,so+x2,none⟩ = some (.int .u64 (g:Nat)) from
   have q:=hB.trans (h.mono hB.size)
   ⟨h,(hX.all h).c 5 rfl,cell_keep (uH HC1) q,cell_keep (uH HC2) q⟩))
  have KT:=hide (fun w' (h:Below V.heap.size V w')=>uH HCT w' (hB.trans (h.mono hB.size)))
  clear hB hX hR
  go_region_held3 (fun w'=>Below V.heap.size V w'∧w'.cell? ⟨w.heap.size,5,none⟩ = some (.slice (some ⟨sb,so,none⟩) N tc)∧w'.cell? ⟨sb,so+x1,none⟩ = some (.int .u64 (f:Nat))∧w'.cell? ⟨sb,so+x2,none⟩ = some (.int .u64 (g:Nat)))
   (first | exact uH HK _ (Below.refl _ _).drew | exact uH HK _ (by assumption) | fail "KK")
   (first | (go_at_call 190;refine (uH KT _ (And.left (by assumption))).mono ?_;rintro e w8 ⟨rfl,hb5⟩;have hB5:Below V.heap.size V w8:=Below.trans (And.left (by assumption)) (hb5.mono (Below.size (And.left (by assumption))));clear hb5) | fail "NO ARM")
  all_goals
   have BB:=And.left (by assumption:Below V.heap.size V _∧_)
   have HB2:=hide ((uH HB).trans (BB.mono (uH HB).size));have HX2:=hide ((uH HX).all BB);have HR2:=hide ((uH HR).all BB)
   clear HB HX HR HK KT BB
   first | refine at_then (fun W=>Below w.heap.size w W∧BoxL 57 W w.heap.size [.int .i64 n,.int .i64 n,.slice ho N hc,.int .i64 n,.int .i64 n,.slice (some ⟨sb,so,none⟩) N tc,.int .i64 n,.int .i64 n,.slice qo N qc,.int .i64 n,.int .i64 n,.slice zo N zc]∧BoxL 57 W (w.heap.size+1) [.int .i64 0,.int .i64 0,.slice none 0 0,.int .i64 0,.int .i64 0,.slice none 0 0,.int .i64 0,.int .i64 0,.slice none 0 0,.int .i64 0,.int .i64 0,.slice none 0 0]) ⟨uH HB2,uH HX2,uH HR2⟩ ?_ | refine at_world (fun W=>Below w.heap.size w W∧BoxL 57 W w.heap.size [.int .i64 n,.int .i64 n,.slice ho N hc,.int .i64 n,.int .i64 n,.slice (some ⟨sb,so,none⟩) N tc,.int .i64 n,.int .i64 n,.slice qo N qc,.int .i64 n,.int .i64 n,.slice zo N zc]∧BoxL 57 W (w.heap.size+1) [.int .i64 0,.int .i64 0,.slice none 0 0,.int .i64 0,.int .i64 0,.slice none 0 0,.int .i64 0,.int .i64 0,.slice none 0 0,.int .i64 0,.int .i64 0,.slice none 0 0]) ⟨uH HB2,uH HX2,uH HR2⟩ ?_
   clear HB2 HX2 HR2
   rintro U ⟨hB,hX,hR⟩
   have HB:=hide hB;have HX:=hide hX;have HR:=hide hR
   clear hB hX hR HCT
   rcases uH HOK with ⟨rfl,rfl⟩ | ⟨rfl,rfl⟩
   ·clear HOK
    replace K1:=hide (fun w'=>uH K1 w' rfl);replace K2:=hide (fun w'=>uH K2 w' rfl);replace K3:=hide (fun w'=>uH K3 w' rfl)
    have y3:=(uH HX).c 3 rfl;have y4:=(uH HX).c 4 rfl;have y5:=(uH HX).c 5 rfl
    go_wp2_with fail
    clear y3 y4 y5
    refine (uH K1 _ (uH HB)).mono ?_
    rintro e w3 ⟨ga,rfl,hga,hrga,hb⟩
    have GGA:=hide (Nat.lt_of_lt_of_le (uH HR).lt hga)
    have X3:=(uH HX).all hb;have R3:=(uH HR).all hb
    have B3:=(uH HB).trans (hb.mono (uH HB).size)
    have s3:=X3.c 3 rfl;have s4:=X3.c 4 rfl;have s5:=X3.c 5 rfl
    have f3:=X3.free 3;have f4:=X3.free 4;have f5:=X3.free 5
    have X4:BoxL 57 (((w3.setCell ⟨w.heap.size,3,none⟩ (.int .i64 n)).setCell ⟨w.heap.size,4,none⟩ (.int .i64 n)).setCell ⟨w.heap.size,5,none⟩ (.slice (some ⟨ga,0,none⟩) N N)) w.heap.size [.int .i64 n,.int .i64 n,.slice ho N hc,.int .i64 n,.int .i64 n,.slice (some ⟨ga,0,none⟩) N N,.int .i64 n,.int .i64 n,.slice qo N qc,.int .i64 n,.int .i64 n,.slice zo N zc]:=((X3.set 3 (.int .i64 n)).set 4 (.int .i64 n)).set 5 (.slice (some ⟨ga,0,none⟩) N N)
    have B4:Below w.heap.size w (((w3.setCell ⟨w.heap.size,3,none⟩ (.int .i64 n)).setCell ⟨w.heap.size,4,none⟩ (.int .i64 n)).setCell ⟨w.heap.size,5,none⟩ (.slice (some ⟨ga,0,none⟩) N N)):=below_putL (b:=w.heap.size) (Nat.le_refl _) [.int .i64 n,.int .i64 n,.slice (some ⟨ga,0,none⟩) N N] 3 B3
    have R4:BoxL 57 (((w3.setCell ⟨w.heap.size,3,none⟩ (.int .i64 n)).setCell ⟨w.heap.size,4,none⟩ (.int .i64 n)).setCell ⟨w.heap.size,5,none⟩ (.slice (some ⟨ga,0,none⟩) N N)) (w.heap.size+1) [.int .i64 0,.int .i64 0,.slice none 0 0,.int .i64 0,.int .i64 0,.slice none 0 0,.int .i64 0,.int .i64 0,.slice none 0 0,.int .i64 0,.int .i64 0,.slice none 0 0]:=R3.putO (by omega) 3 [.int .i64 n,.int .i64 n,.slice (some ⟨ga,0,none⟩) N N]
    have tga:RowB (((w3.setCell ⟨w.heap.size,3,none⟩ (.int .i64 n)).setCell ⟨w.heap.size,4,none⟩ (.int .i64 n)).setCell ⟨w.heap.size,5,none⟩ (.slice (some ⟨ga,0,none⟩) N N)) ga A:=hrga.putL (by have:=uH GGA; omega) 3 [.int .i64 n,.int .i64 n,.slice (some ⟨ga,0,none⟩) N N]
    have y0:=X4.c 0 rfl;have y1:=X4.c 1 rfl;have y2:=X4.c 2 rfl
    replace HX:=hide X4;replace HR:=hide R4;replace HB:=hide B4
    have RGA:=hide tga
    clear hb hga hrga X3 R3 B3 X4 B4 R4 K1  tga
    go_wp2_with fail
    clear s3 s4 s5 f3 f4 f5 y0 y1 y2
    refine (uH K2 _ (uH HB)).mono ?_
    rintro e w4 ⟨gb,rfl,hgb,hrgb,hb⟩
    have GGB:=hide (Nat.lt_of_lt_of_le (uH RGA).lt hgb)
    have X3:=(uH HX).all hb;have R3:=(uH HR).all hb
    have B3:=(uH HB).trans (hb.mono (uH HB).size)
    have rga:=(uH RGA).below hb (uH RGA).lt
    have s0:=X3.c 0 rfl;have s1:=X3.c 1 rfl;have s2:=X3.c 2 rfl
    have f0:=X3.free 0;have f1:=X3.free 1;have f2:=X3.free 2
    have X4:BoxL 57 (((w4.setCell ⟨w.heap.size,0,none⟩ (.int .i64 n)).setCell ⟨w.heap.size,1,none⟩ (.int .i64 n)).setCell ⟨w.heap.size,2,none⟩ (.slice (some ⟨gb,0,none⟩) N N)) w.heap.size [.int .i64 n,.int .i64 n,.slice (some ⟨gb,0,none⟩) N N,.int .i64 n,.int .i64 n,.slice (some ⟨ga,0,none⟩) N N,.int .i64 n,.int .i64 n,.slice qo N qc,.int .i64 n,.int .i64 n,.slice zo N zc]:=((X3.set 0 (.int .i64 n)).set 1 (.int .i64 n)).set 2 (.slice (some ⟨gb,0,none⟩) N N)
    have B4:Below w.heap.size w (((w4.setCell ⟨w.heap.size,0,none⟩ (.int .i64 n)).setCell ⟨w.heap.size,1,none⟩ (.int .i64 n)).setCell ⟨w.heap.size,2,none⟩ (.slice (some ⟨gb,0,none⟩) N N)):=below_putL (b:=w.heap.size) (Nat.le_refl _) [.int .i64 n,.int .i64 n,.slice (some ⟨gb,0,none⟩) N N] 0 B3
    have R4:BoxL 57 (((w4.setCell ⟨w.heap.size,0,none⟩ (.int .i64 n)).setCell ⟨w.heap.size,1,none⟩ (.int .i64 n)).setCell ⟨w.heap.size,2,none⟩ (.slice (some ⟨gb,0,none⟩) N N)) (w.heap.size+1) [.int .i64 0,.int .i64 0,.slice none 0 0,.int .i64 0,.int .i64 0,.slice none 0 0,.int .i64 0,.int .i64 0,.slice none 0 0,.int .i64 0,.int .i64 0,.slice none 0 0]:=R3.putO (by omega) 0 [.int .i64 n,.int .i64 n,.slice (some ⟨gb,0,none⟩) N N]
    have tga:RowB (((w4.setCell ⟨w.heap.size,0,none⟩ (.int .i64 n)).setCell ⟨w.heap.size,1,none⟩ (.int .i64 n)).setCell ⟨w.heap.size,2,none⟩ (.slice (some ⟨gb,0,none⟩) N N)) ga A:=rga.putL (by have:=uH GGA; omega) 0 [.int .i64 n,.int .i64 n,.slice (some ⟨gb,0,none⟩) N N]
    have tgb:RowB (((w4.setCell ⟨w.heap.size,0,none⟩ (.int .i64 n)).setCell ⟨w.heap.size,1,none⟩ (.int .i64 n)).setCell ⟨w.heap.size,2,none⟩ (.slice (some ⟨gb,0,none⟩) N N)) gb B:=hrgb.putL (by have:=uH GGA;have:=uH GGB; omega) 0 [.int .i64 n,.int .i64 n,.slice (some ⟨gb,0,none⟩) N N]
    have y9:=X4.c 9 rfl;have y10:=X4.c 10 rfl;have y11:=X4.c 11 rfl
    replace HX:=hide X4;replace HR:=hide R4;replace HB:=hide B4
    replace RGA:=hide tga
    have RGB:=hide tgb
    clear hb hgb hrgb X3 R3 B3 X4 B4 R4 K2 rga tga tgb
    go_wp2_with fail
    clear s0 s1 s2 f0 f1 f2 y9 y10 y11
    refine (uH K3 _ (uH HB)).mono ?_
    rintro e w5 ⟨gc,rfl,hgc,hrgc,hb⟩
    have GGC:=hide (Nat.lt_of_lt_of_le (uH RGB).lt hgc)
    have X3:=(uH HX).all hb;have R3:=(uH HR).all hb
    have B3:=(uH HB).trans (hb.mono (uH HB).size)
    have rga:=(uH RGA).below hb (uH RGA).lt
    have rgb:=(uH RGB).below hb (uH RGB).lt
    have s9:=X3.c 9 rfl;have s10:=X3.c 10 rfl;have s11:=X3.c 11 rfl
    have f9:=X3.free 9;have f10:=X3.free 10;have f11:=X3.free 11
    have X4:BoxL 57 (((w5.setCell ⟨w.heap.size,9,none⟩ (.int .i64 n)).setCell ⟨w.heap.size,10,none⟩ (.int .i64 n)).setCell ⟨w.heap.size,11,none⟩ (.slice (some ⟨gc,0,none⟩) N N)) w.heap.size [.int .i64 n,.int .i64 n,.slice (some ⟨gb,0,none⟩) N N,.int .i64 n,.int .i64 n,.slice (some ⟨ga,0,none⟩) N N,.int .i64 n,.int .i64 n,.slice qo N qc,.int .i64 n,.int .i64 n,.slice (some ⟨gc,0,none⟩) N N]:=((X3.set 9 (.int .i64 n)).set 10 (.int .i64 n)).set 11 (.slice (some ⟨gc,0,none⟩) N N)
    have B4:Below w.heap.size w (((w5.setCell ⟨w.heap.size,9,none⟩ (.int .i64 n)).setCell ⟨w.heap.size,10,none⟩ (.int .i64 n)).setCell ⟨w.heap.size,11,none⟩ (.slice (some ⟨gc,0,none⟩) N N)):=below_putL (b:=w.heap.size) (Nat.le_refl _) [.int .i64 n,.int .i64 n,.slice (some ⟨gc,0,none⟩) N N] 9 B3
    have R4:BoxL 57 (((w5.setCell ⟨w.heap.size,9,none⟩ (.int .i64 n)).setCell ⟨w.heap.size,10,none⟩ (.int .i64 n)).setCell ⟨w.heap.size,11,none⟩ (.slice (some ⟨gc,0,none⟩) N N)) (w.heap.size+1) [.int .i64 0,.int .i64 0,.slice none 0 0,.int .i64 0,.int .i64 0,.slice none 0 0,.int .i64 0,.int .i64 0,.slice none 0 0,.int .i64 0,.int .i64 0,.slice none 0 0]:=R3.putO (by omega) 9 [.int .i64 n,.int .i64 n,.slice (some ⟨gc,0,none⟩) N N]
    have tga:RowB (((w5.setCell ⟨w.heap.size,9,none⟩ (.int .i64 n)).setCell ⟨w.heap.size,10,none⟩ (.int .i64 n)).setCell ⟨w.heap.size,11,none⟩ (.slice (some ⟨gc,0,none⟩) N N)) ga A:=rga.putL (by have:=uH GGA; omega) 9 [.int .i64 n,.int .i64 n,.slice (some ⟨gc,0,none⟩) N N]
    have tgb:RowB (((w5.setCell ⟨w.heap.size,9,none⟩ (.int .i64 n)).setCell ⟨w.heap.size,10,none⟩ (.int .i64 n)).setCell ⟨w.heap.size,11,none⟩ (.slice (some ⟨gc,0,none⟩) N N)) gb B:=rgb.putL (by have:=uH GGA;have:=uH GGB; omega) 9 [.int .i64 n,.int .i64 n,.slice (some ⟨gc,0,none⟩) N N]
    have tgc:RowB (((w5.setCell ⟨w.heap.size,9,none⟩ (.int .i64 n)).setCell ⟨w.heap.size,10,none⟩ (.int .i64 n)).setCell ⟨w.heap.size,11,none⟩ (.slice (some ⟨gc,0,none⟩) N N)) gc D:=hrgc.putL (by have:=uH GGA;have:=uH GGB;have:=uH GGC; omega) 9 [.int .i64 n,.int .i64 n,.slice (some ⟨gc,0,none⟩) N N]
    skip
    replace HX:=hide X4;replace HR:=hide R4;replace HB:=hide B4
    replace RGA:=hide tga
    replace RGB:=hide tgb
    have RGC:=hide tgc
    clear hb hgc hrgc X3 R3 B3 X4 B4 R4 K3 rga rgb tga tgb tgc
    go_wp2_with fail
    clear s9 s10 s11 f9 f10 f11
    refine at_world (fun W=>R8St w W ga gb gc [.int .i64 n,.int .i64 n,.slice (some ⟨gb,0,none⟩) N N,.int .i64 n,.int .i64 n,.slice (some ⟨ga,0,none⟩) N N,.int .i64 n,.int .i64 n,.slice qo N qc,.int .i64 n,.int .i64 n,.slice (some ⟨gc,0,none⟩) N N] A B D) ⟨uH HB,uH HX,uH HR,uH RGA,uH RGB,uH RGC,uH GGA,uH GGB,uH GGC⟩ ?_
    clear HB HX HR RGA RGB RGC GGA GGB GGC
    rintro V st
    have ST:=hide st
    clear st
    have a2:=(uH ST).box.c 5 rfl
    have d1:=(uH ST).ra.cell x1 (by rw [uH LA];exact x1N);have d2:=(uH ST).ra.cell x2 (by rw [uH LA];exact x2N)
    have f1:=(uH ST).ra.free x1;have f2:=(uH ST).ra.free x2
    have S9:=(uH ST).set x1 r
    have d3:=S9.ra.cell x2 (by rw [List.length_set,uH LA];exact x2N);have f3:=S9.ra.free x2;have a3:=S9.box.c 5 rfl
    have P9:=hide ((S9.set x2 0).all (Below.refl _ _).drew)
    have a4:=(S9.set x2 0).box.c 5 rfl
    clear S9 ST
    go_region_with (fail)
    all_goals
     clear a2 d1 d2 d3 f1 f2 f3 a3 a4
     first | refine at_then (fun W=>R8St w W ga gb gc [.int .i64 n,.int .i64 n,.slice (some ⟨gb,0,none⟩) N N,.int .i64 n,.int .i64 n,.slice (some ⟨ga,0,none⟩) N N,.int .i64 n,.int .i64 n,.slice qo N qc,.int .i64 n,.int .i64 n,.slice (some ⟨gc,0,none⟩) N N] ((A.set x1 r).set x2 0) B D) (uH P9) ?_ | refine at_world (fun W=>R8St w W ga gb gc [.int .i64 n,.int .i64 n,.slice (some ⟨gb,0,none⟩) N N,.int .i64 n,.int .i64 n,.slice (some ⟨ga,0,none⟩) N N,.int .i64 n,.int .i64 n,.slice qo N qc,.int .i64 n,.int .i64 n,.slice (some ⟨gc,0,none⟩) N N] ((A.set x1 r).set x2 0) B D) (uH P9) ?_
     clear P9
     rintro V9 st
     have X9:=st.box;have Q9:=st.res
     have y0:=X9.c 0 rfl;have y1:=X9.c 1 rfl;have y2:=X9.c 2 rfl;have y3:=X9.c 3 rfl;have y4:=X9.c 4 rfl;have y5:=X9.c 5 rfl;have y6:=X9.c 6 rfl;have y7:=X9.c 7 rfl;have y8:=X9.c 8 rfl;have y9:=X9.c 9 rfl;have y10:=X9.c 10 rfl;have y11:=X9.c 11 rfl
     have s0:=Q9.c 0 rfl;have s1:=Q9.c 1 rfl;have s2:=Q9.c 2 rfl;have s3:=Q9.c 3 rfl;have s4:=Q9.c 4 rfl;have s5:=Q9.c 5 rfl;have s6:=Q9.c 6 rfl;have s7:=Q9.c 7 rfl;have s8:=Q9.c 8 rfl;have s9:=Q9.c 9 rfl;have s10:=Q9.c 10 rfl;have s11:=Q9.c 11 rfl
     have f0:=Q9.free 0;have f1:=Q9.free 1;have f2:=Q9.free 2;have f3:=Q9.free 3;have f4:=Q9.free 4;have f5:=Q9.free 5;have f6:=Q9.free 6;have f7:=Q9.free 7;have f8:=Q9.free 8;have f9:=Q9.free 9;have f10:=Q9.free 10;have f11:=Q9.free 11
     have OUT:=st.out [.int .i64 n,.int .i64 n,.slice (some ⟨gb,0,none⟩) N N,.int .i64 n,.int .i64 n,.slice (some ⟨ga,0,none⟩) N N,.int .i64 n,.int .i64 n,.slice qo N qc,.int .i64 n,.int .i64 n,.slice (some ⟨gc,0,none⟩) N N] rfl
     have XP:BoxL 57 ((((((((((((V9.setCell ⟨w.heap.size+1,0,none⟩ (.int .i64 n)).setCell ⟨w.heap.size+1,1,none⟩ (.int .i64 n)).setCell ⟨w.heap.size+1,2,none⟩ (.slice (some ⟨gb,0,none⟩) N N)).setCell ⟨w.heap.size+1,3,none⟩ (.int .i64 n)).setCell ⟨w.heap.size+1,4,none⟩ (.int .i64 n)).setCell ⟨w.heap.size+1,5,none⟩ (.slice (some ⟨ga,0,none⟩) N N)).setCell ⟨w.heap.size+1,6,none⟩ (.int .i64 n)).setCell ⟨w.heap.size+1,7,none⟩ (.int .i64 n)).setCell ⟨w.heap.size+1,8,none⟩ (.slice qo N qc)).setCell ⟨w.heap.size+1,9,none⟩ (.int .i64 n)).setCell ⟨w.heap.size+1,10,none⟩ (.int .i64 n)).setCell ⟨w.heap.size+1,11,none⟩ (.slice (some ⟨gc,0,none⟩) N N)) (w.heap.size+1) [.int .i64 n,.int .i64 n,.slice (some ⟨gb,0,none⟩) N N,.int .i64 n,.int .i64 n,.slice (some ⟨ga,0,none⟩) N N,.int .i64 n,.int .i64 n,.slice qo N qc,.int .i64 n,.int .i64 n,.slice (some ⟨gc,0,none⟩) N N]:=OUT.2.1
     have z0:=XP.c 0 rfl;have z1:=XP.c 1 rfl;have z2:=XP.c 2 rfl;have z3:=XP.c 3 rfl;have z4:=XP.c 4 rfl;have z5:=XP.c 5 rfl;have z6:=XP.c 6 rfl;have z7:=XP.c 7 rfl;have z8:=XP.c 8 rfl;have z9:=XP.c 9 rfl;have z10:=XP.c 10 rfl;have z11:=XP.c 11 rfl
     have HO:Hid (Below w.heap.size w ((((((((((((V9.setCell ⟨w.heap.size+1,0,none⟩ (.int .i64 n)).setCell ⟨w.heap.size+1,1,none⟩ (.int .i64 n)).setCell ⟨w.heap.size+1,2,none⟩ (.slice (some ⟨gb,0,none⟩) N N)).setCell ⟨w.heap.size+1,3,none⟩ (.int .i64 n)).setCell ⟨w.heap.size+1,4,none⟩ (.int .i64 n)).setCell ⟨w.heap.size+1,5,none⟩ (.slice (some ⟨ga,0,none⟩) N N)).setCell ⟨w.heap.size+1,6,none⟩ (.int .i64 n)).setCell ⟨w.heap.size+1,7,none⟩ (.int .i64 n)).setCell ⟨w.heap.size+1,8,none⟩ (.slice qo N qc)).setCell ⟨w.heap.size+1,9,none⟩ (.int .i64 n)).setCell ⟨w.heap.size+1,10,none⟩ (.int .i64 n)).setCell ⟨w.heap.size+1,11,none⟩ (.slice (some ⟨gc,0,none⟩) N N))∧RowB ((((((((((((V9.setCell ⟨w.heap.size+1,0,none⟩ (.int .i64 n)).setCell ⟨w.heap.size+1,1,none⟩ (.int .i64 n)).setCell ⟨w.heap.size+1,2,none⟩ (.slice (some ⟨gb,0,none⟩) N N)).setCell ⟨w.heap.size+1,3,none⟩ (.int .i64 n)).setCell ⟨w.heap.size+1,4,none⟩ (.int .i64 n)).setCell ⟨w.heap.size+1,5,none⟩ (.slice (some ⟨ga,0,none⟩) N N)).setCell ⟨w.heap.size+1,6,none⟩ (.int .i64 n)).setCell ⟨w.heap.size+1,7,none⟩ (.int .i64 n)).setCell ⟨w.heap.size+1,8,none⟩ (.slice qo N qc)).setCell ⟨w.heap.size+1,9,none⟩ (.int .i64 n)).setCell ⟨w.heap.size+1,10,none⟩ (.int .i64 n)).setCell ⟨w.heap.size+1,11,none⟩ (.slice (some ⟨gc,0,none⟩) N N)) ga ((A.set x1 r).set x2 0)∧RowB ((((((((((((V9.setCell ⟨w.heap.size+1,0,none⟩ (.int .i64 n)).setCell ⟨w.heap.size+1,1,none⟩ (.int .i64 n)).setCell ⟨w.heap.size+1,2,none⟩ (.slice (some ⟨gb,0,none⟩) N N)).setCell ⟨w.heap.size+1,3,none⟩ (.int .i64 n)).setCell ⟨w.heap.size+1,4,none⟩ (.int .i64 n)).setCell ⟨w.heap.size+1,5,none⟩ (.slice (some ⟨ga,0,none⟩) N N)).setCell ⟨w.heap.size+1,6,none⟩ (.int .i64 n)).setCell ⟨w.heap.size+1,7,none⟩ (.int .i64 n)).setCell ⟨w.heap.size+1,8,none⟩ (.slice qo N qc)).setCell ⟨w.heap.size+1,9,none⟩ (.int .i64 n)).setCell ⟨w.heap.size+1,10,none⟩ (.int .i64 n)).setCell ⟨w.heap.size+1,11,none⟩ (.slice (some ⟨gc,0,none⟩) N N)) gb B∧RowB ((((((((((((V9.setCell ⟨w.heap.size+1,0,none⟩ (.int .i64 n)).setCell ⟨w.heap.size+1,1,none⟩ (.int .i64 n)).setCell ⟨w.heap.size+1,2,none⟩ (.slice (some ⟨gb,0,none⟩) N N)).setCell ⟨w.heap.size+1,3,none⟩ (.int .i64 n)).setCell ⟨w.heap.size+1,4,none⟩ (.int .i64 n)).setCell ⟨w.heap.size+1,5,none⟩ (.slice (some ⟨ga,0,none⟩) N N)).setCell ⟨w.heap.size+1,6,none⟩ (.int .i64 n)).setCell ⟨w.heap.size+1,7,none⟩ (.int .i64 n)).setCell ⟨w.heap.size+1,8,none⟩ (.slice qo N qc)).setCell ⟨w.heap.size+1,9,none⟩ (.int .i64 n)).setCell ⟨w.heap.size+1,10,none⟩ (.int .i64 n)).setCell ⟨w.heap.size+1,11,none⟩ (.slice (some ⟨gc,0,none⟩) N N)) gc D):=hide ⟨OUT.1,OUT.2.2.1,OUT.2.2.2.1,OUT.2.2.2.2⟩
     have HGG:=hide (And.intro st.ha (And.intro st.hb st.hc))
     clear st X9 Q9 OUT XP
     go_wp2_with fail
     exact bodyPost_ret (v:=.tuple #[.agg #[.int .i64 n,.int .i64 n,.slice (some ⟨gb,0,none⟩) N N,.int .i64 n,.int .i64 n,.slice (some ⟨ga,0,none⟩) N N,.int .i64 n,.int .i64 n,.slice qo N qc,.int .i64 n,.int .i64 n,.slice (some ⟨gc,0,none⟩) N N],.bool true]) (by simp [results,Tryz.results151,go_sem,z0,z1,z2,z3,z4,z5,z6,z7,z8,z9,z10,z11]) rfl ⟨.inl ⟨rfl,ga,gb,gc,rfl,uH HGG,(uH HO).2⟩,(uH HO).1⟩
   ·clear HOK
    have hR:=uH HR
    have s0:=hR.c 0 rfl;have s1:=hR.c 1 rfl;have s2:=hR.c 2 rfl;have s3:=hR.c 3 rfl;have s4:=hR.c 4 rfl;have s5:=hR.c 5 rfl;have s6:=hR.c 6 rfl;have s7:=hR.c 7 rfl;have s8:=hR.c 8 rfl;have s9:=hR.c 9 rfl;have s10:=hR.c 10 rfl;have s11:=hR.c 11 rfl
    have f0:=hR.free 0;have f1:=hR.free 1;have f2:=hR.free 2;have f3:=hR.free 3;have f4:=hR.free 4;have f5:=hR.free 5;have f6:=hR.free 6;have f7:=hR.free 7;have f8:=hR.free 8;have f9:=hR.free 9;have f10:=hR.free 10;have f11:=hR.free 11
    have BP:Below w.heap.size w ((((((((((((U.setCell ⟨w.heap.size+1,0,none⟩ (.int .i64 0)).setCell ⟨w.heap.size+1,1,none⟩ (.int .i64 0)).setCell ⟨w.heap.size+1,2,none⟩ (.slice none 0 0)).setCell ⟨w.heap.size+1,3,none⟩ (.int .i64 0)).setCell ⟨w.heap.size+1,4,none⟩ (.int .i64 0)).setCell ⟨w.heap.size+1,5,none⟩ (.slice none 0 0)).setCell ⟨w.heap.size+1,6,none⟩ (.int .i64 0)).setCell ⟨w.heap.size+1,7,none⟩ (.int .i64 0)).setCell ⟨w.heap.size+1,8,none⟩ (.slice none 0 0)).setCell ⟨w.heap.size+1,9,none⟩ (.int .i64 0)).setCell ⟨w.heap.size+1,10,none⟩ (.int .i64 0)).setCell ⟨w.heap.size+1,11,none⟩ (.slice none 0 0)):=below_putL (b:=w.heap.size+1) (Nat.le_succ _) [.int .i64 0,.int .i64 0,.slice none 0 0,.int .i64 0,.int .i64 0,.slice none 0 0,.int .i64 0,.int .i64 0,.slice none 0 0,.int .i64 0,.int .i64 0,.slice none 0 0] 0 (uH HB)
    have XP:BoxL 57 ((((((((((((U.setCell ⟨w.heap.size+1,0,none⟩ (.int .i64 0)).setCell ⟨w.heap.size+1,1,none⟩ (.int .i64 0)).setCell ⟨w.heap.size+1,2,none⟩ (.slice none 0 0)).setCell ⟨w.heap.size+1,3,none⟩ (.int .i64 0)).setCell ⟨w.heap.size+1,4,none⟩ (.int .i64 0)).setCell ⟨w.heap.size+1,5,none⟩ (.slice none 0 0)).setCell ⟨w.heap.size+1,6,none⟩ (.int .i64 0)).setCell ⟨w.heap.size+1,7,none⟩ (.int .i64 0)).setCell ⟨w.heap.size+1,8,none⟩ (.slice none 0 0)).setCell ⟨w.heap.size+1,9,none⟩ (.int .i64 0)).setCell ⟨w.heap.size+1,10,none⟩ (.int .i64 0)).setCell ⟨w.heap.size+1,11,none⟩ (.slice none 0 0)) (w.heap.size+1) [.int .i64 0,.int .i64 0,.slice none 0 0,.int .i64 0,.int .i64 0,.slice none 0 0,.int .i64 0,.int .i64 0,.slice none 0 0,.int .i64 0,.int .i64 0,.slice none 0 0]:=hR.full [.int .i64 0,.int .i64 0,.slice none 0 0,.int .i64 0,.int .i64 0,.slice none 0 0,.int .i64 0,.int .i64 0,.slice none 0 0,.int .i64 0,.int .i64 0,.slice none 0 0] rfl
    have z0:=XP.c 0 rfl;have z1:=XP.c 1 rfl;have z2:=XP.c 2 rfl;have z3:=XP.c 3 rfl;have z4:=XP.c 4 rfl;have z5:=XP.c 5 rfl;have z6:=XP.c 6 rfl;have z7:=XP.c 7 rfl;have z8:=XP.c 8 rfl;have z9:=XP.c 9 rfl;have z10:=XP.c 10 rfl;have z11:=XP.c 11 rfl
    replace BP:=hide BP
    clear XP hR HB HX HR HC1 HC2 K1 K2 K3
    go_wp2_with fail
    exact bodyPost_ret (v:=.tuple #[.agg #[.int .i64 0,.int .i64 0,.slice none 0 0,.int .i64 0,.int .i64 0,.slice none 0 0,.int .i64 0,.int .i64 0,.slice none 0 0,.int .i64 0,.int .i64 0,.slice none 0 0],.bool false]) (by simp [results,Tryz.results151,go_sem,z0,z1,z2,z3,z4,z5,z6,z7,z8,z9,z10,z11]) rfl ⟨.inr ⟨rfl,rfl⟩,uH BP⟩
end Go.Proofs.YtlnphkioddknfaaGreatDoor
