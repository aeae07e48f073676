/- Part 27 of the texts. -/
import Derived.Test.YtlnphkioddknfaaGreatDoorPartz26
import Derived.Deep.RegionLaw
import Derived.Test.YtlnphkioddknfaaGreatDoorPartz04
import Derived.Test.YtlnphkioddknfaaGreatDoorPartz08
import Derived.Lib.BitFns
import Derived.Test.YtlnphkioddknfaaGreatDoorPartz07
import Derived.Test.YtlnphkioddknfaaGreatDoorPartz06
import Derived.Test.YtlnphkioddknfaaGreatDoorPartz01
set_option maxHeartbeats 4000000
set_option maxRecDepth 20000
namespace Go.Proofs.YtlnphkioddknfaaGreatDoor
open Go.RowKit
attribute [local go_sem ↓] Go.wp_at_zero Go.wp_at_succ
theorem OwnB.at {base:Nat} {w:World} {ao:Option Addr} {n cap:Nat} {S:List Nat} (h:OwnB base w (.slice ao n cap) S) {j:Nat} (hj:j < S.length) :
  ∃ g,ao = some ⟨g,0,none⟩∧base≤g∧g < w.heap.size∧w.cell? ⟨g,j,none⟩ = some (.int .u64 (S.getD j 0:Nat))∧w.frozen? ⟨g,j,none⟩ = false ∧
   ∀ x,x < 18446744073709551616→OwnB base (w.setCell ⟨g,j,none⟩ (.int .u64 (x:Nat))) (.slice ao n cap) (S.set j x):=by
 obtain ⟨⟨h1,h2⟩,h3⟩:=h
 rcases h2 with ⟨_,h0⟩ | ⟨g,cap',cur,hv,hg,hh,hc,hm,hs,ht⟩
 ·omega
 ·simp only [Value.slice.injEq] at hv
  obtain ⟨rfl,rfl,rfl⟩:=hv
  have q:(S.map bitV)[j]? = some (.int .u64 ((S[j]:Nat):Int)):=by
   rw [List.getElem?_map,List.getElem?_eq_getElem hj];rfl
  rw [← ht,List.getElem?_take,if_pos (by omega)] at q
  refine ⟨g,rfl,hg,(Array.getElem?_eq_some_iff.1 hh).1,?_,frozen_of_row w g j _ _ hh,fun x hx=>⟨⟨by simp,.inr ⟨g,cap,cur.setIfInBounds j (.int .u64 (x:Nat)),?_,hg,heap_setCell_same w g j _ _ _ hh,by simpa using hc,hm,by simpa using hs,?_⟩⟩,?_⟩⟩
  ·rw [cell_of_row w g j _ _ _ hh]
   have e:S.getD j 0 = S[j]:=by rw [List.getD_eq_getElem?_getD,List.getElem?_eq_getElem hj];rfl
   rw [e]
   simpa using q
  ·simp
  ·rw [Array.toList_setIfInBounds,List.take_set,List.length_set,ht,List.map_set]
   rfl
  ·intro y hy
   rcases List.mem_or_eq_of_mem_set hy with e | e
   ·exact h3 y e
   ·rw [e];exact hx
theorem rwith_of (r c n cap i k q x g:Nat) (ao:Option Addr) (po:Option Addr) (pc:Nat) (S:List Nat) (w w1:World) (hl:S.length = n) (hq:(i:Int) * (c:Int) = (q:Int)) (hlt:q+k < n) (hn:n≤36) (hx:x < 18446744073709551616)
  (run:(Builtin.append_ #[22,22] 22 #[.slice (some ⟨w.heap.size+1+1,0,none⟩) 0 0,.slice ao n cap]).run Tryz.prog (((w.alloc (.cells #[.int .i64 r,.int .i64 c,.slice ao n cap] 24)).alloc (.cells #[.int .i64 0,.int .i64 0,.slice none 0 0] 24)).alloc (.cells #[] 37)) = .ok (.slice po n pc) w1)
  (hO:OwnB (w.heap.size+1+1) w1 (.slice po n pc) S) (hB:Below (w.heap.size+1+1) ((w.alloc (.cells #[.int .i64 r,.int .i64 c,.slice ao n cap] 24)).alloc (.cells #[.int .i64 0,.int .i64 0,.slice none 0 0] 24)) w1) (hp:po = some ⟨g,0,none⟩) :
  Calls Tryz.prog 51 #[.agg #[.int .i64 r,.int .i64 c,.slice ao n cap],.int .i64 i,.int .i64 k,.int .u64 x] w fun e w'=>∃ v,e = .returned v∧NewM w.heap.size w' r c (S.set (q+k) x) v∧Below w.heap.size w w':=by
 have RUN:=hide run
 obtain ⟨hB1,hA,hX⟩:=boxes2 w _ _ _ _ _ _ w1 hB
 obtain ⟨g',e1,hg,hlt2,cx,fx,put⟩:=hO.at (j:=q+k) (by omega)
 rw [hp] at e1
 simp only [Option.some.injEq,Addr.mk.injEq] at e1
 obtain ⟨rfl,_⟩:=e1
 subst hp
 have O2:=put x hx
 have hA2:=hA.other (p:=⟨g,q+k,none⟩) (by show w.heap.size ≠ g;omega) (.int .u64 (x:Nat))
 have hX2:=hX.other (p:=⟨g,q+k,none⟩) (by show w.heap.size+1 ≠ g;omega) (.int .u64 (x:Nat))
 have hB2:=hB1.setCell (p:=⟨g,q+k,none⟩) (by show w.heap.size≤g;omega) (.int .u64 (x:Nat))
 have c0:=hA.c0;have c1:=hA.c1;have c2:=hA.c2
 have y0:=hA2.c0;have y1:=hA2.c1;have y2:=hA2.c2
 have u0:=hX2.c0;have u1:=hX2.c1;have u2:=hX2.c2
 have f0:=hX2.free 0;have f1:=hX2.free 1;have f2:=hX2.free 2
 have XP:=hX2.put (.int .i64 r) (.int .i64 c) (.slice (some ⟨g,0,none⟩) n pc)
 have z0:=XP.c0;have z1:=XP.c1;have z2:=XP.c2
 obtain ⟨bo',d',e2,q2⟩:=O2.bits
 have HN:=hide (O2.newB.least (H':=w.heap.size) (by omega))
 rw [List.length_set,hl] at e2
 simp only [Value.slice.injEq] at e2
 obtain ⟨rfl,_,rfl⟩:=e2
 have Q:=hide (BitsAt.putM q2 hX2 (.int .i64 r) (.int .i64 c) (.slice (some ⟨g,0,none⟩) n pc))
 have BP:=hide (below_putM hB2 (b:=w.heap.size+1) (by omega) (.int .i64 r) (.int .i64 c) (.slice (some ⟨g,0,none⟩) n pc))
 have hkI:(q:Int)+(k:Int) < (n:Int):=by omega
 have HL:=hide hl
 generalize S.getD (q+k) 0 = old at *
 clear run hO hB hB1 hA hX hA2 hX2 hB2 XP O2 q2 put hl hg
 go_enter Tryz.func51,Tryz.ntmps51
 go_wp2_with (at_builtin;refine wpList_append_ran _ rfl _ _ 22 rfl _ _ _ _ rfl rfl (uH RUN) ?_;clear RUN)
 exact bodyPost_ret (v:=.agg #[.int .i64 r,.int .i64 c,.slice (some ⟨g,0,none⟩) n pc]) (by simp [results,Tryz.results51,go_sem,z0,z1,z2]) rfl ⟨_,rfl,⟨some ⟨g,0,none⟩,pc,by rw [List.length_set,uH HL],uH HN,uH Q⟩,uH BP⟩
end Go.Proofs.YtlnphkioddknfaaGreatDoor
namespace Go.Proofs.YtlnphkioddknfaaGreatDoor
open Go.RowKit
attribute [local go_sem ↓] Go.wp_at_zero Go.wp_at_succ
theorem rwith_any (r c cap i k x:Nat) (ao:Option Addr) (S:List Nat) (w:World) (h:Mx w ao cap r c S) (hi:i < r) (hk:k < c) (hx:x < 18446744073709551616) :
  Calls Tryz.prog 51 #[.agg #[.int .i64 r,.int .i64 c,.slice ao S.length cap],.int .i64 i,.int .i64 k,.int .u64 x] w fun e w'=>∃ v,e = .returned v∧NewM w.heap.size w' r c (S.set (i * c+k) x) v∧Below w.heap.size w w':=by
 have hp:i * c+k < S.length:=by rw [h.2.1];exact place_lt hi hk
 have h36:=h.small
 have b0:=below_alloc9 w (.cells #[.int .i64 r,.int .i64 c,.slice ao S.length cap] 24)
 have s0:=size_alloc9 w (.cells #[.int .i64 r,.int .i64 c,.slice ao S.length cap] 24)
 have b1:=below_alloc9 (w.alloc (.cells #[.int .i64 r,.int .i64 c,.slice ao S.length cap] 24)) (.cells #[.int .i64 0,.int .i64 0,.slice none 0 0] 24)
 have s1:=size_alloc9 (w.alloc (.cells #[.int .i64 r,.int .i64 c,.slice ao S.length cap] 24)) (.cells #[.int .i64 0,.int .i64 0,.slice none 0 0] 24)
 have bb:=b0.trans (b1.mono b0.size)
 have b2:=below_alloc9 ((w.alloc (.cells #[.int .i64 r,.int .i64 c,.slice ao S.length cap] 24)).alloc (.cells #[.int .i64 0,.int .i64 0,.slice none 0 0] 24)) (.cells #[] 37)
 have on:=OwnB.nil ((w.alloc (.cells #[.int .i64 r,.int .i64 c,.slice ao S.length cap] 24)).alloc (.cells #[.int .i64 0,.int .i64 0,.slice none 0 0] 24)) (w.heap.size+1+1) (by rw [s1,s0];omega)
 have bits:=(h.1.below bb).below b2
 obtain ⟨po,pc,w1,run,own,gr⟩:=copy_bits _ (w.heap.size+1+1) 22 ao cap (mxL S) _ bits (by rw [mxL_len];omega) on.1 (by simp)
 rw [natL_mxL,mxL_len] at *
 have bel:=(b2.mono (Nat.le_of_eq (by rw [s1,s0]))).grown gr (by simp) (fun g hg=>by cases hg;rw [s1,s0];exact Nat.le_refl _)
 rw [s1,s0] at run
 obtain ⟨g,hg,_⟩:=own.at hp
 exact rwith_of r c S.length cap i k (i * c) x g ao po pc S w w1 rfl (cast_mul10 i c) hp h36 hx run own bel hg
theorem rsame_any (r c:Int) (ao bo:Option Addr) (cap d:Nat) (S:List Nat) (w:World) (h:BitsAt w ao cap (mxL S)) (h2:BitsAt w bo d (mxL S)) (hl:S.length≤1000000) :
  Calls Tryz.prog 23 #[.agg #[.int .i64 r,.int .i64 c,.slice ao S.length cap],.agg #[.int .i64 r,.int .i64 c,.slice bo S.length d]] w fun e w'=>e = .returned (.bool true)∧Below w.heap.size w w':=by
 have b0:=below_alloc9 w (.cells #[.int .i64 r,.int .i64 c,.slice ao S.length cap] 24)
 have b1:=below_alloc9 (w.alloc (.cells #[.int .i64 r,.int .i64 c,.slice ao S.length cap] 24)) (.cells #[.int .i64 r,.int .i64 c,.slice bo S.length d] 24)
 have bb:=b0.trans (b1.mono b0.size)
 have K:=hide (same_any ao bo cap d (mxL S) _ (h.below bb) (h2.below bb) (by rw [mxL_len];omega))
 rw [mxL_len] at K
 have HB:=hide bb
 clear b0 b1 bb h h2
 generalize S.length = n at *
 go_enter Tryz.func23,Tryz.ntmps23
 go_wp2_with fail
 refine Calls.mono (uH K) ?_
 rintro e w1 ⟨rfl,hb1⟩
 clear K
 go_wp2
 go_ret
 exact ⟨rfl,(uH HB).trans (hb1.mono (uH HB).size)⟩
end Go.Proofs.YtlnphkioddknfaaGreatDoor
namespace Go.Proofs.YtlnphkioddknfaaGreatDoor
open Go.RowKit
structure Nm where
 neg:Bool
 ao:Option Addr
 cap:Nat
 L:List Nat
structure Rw where
 ao:Option Addr
 cap:Nat
 R:List Nm
def Nm.nil:Nm:=⟨false,none,0,[]⟩
def Rw.nil:Rw:=⟨none,0,[]⟩
def nmAt (R:List Nm) (k:Nat):Nm:=R[k]?.getD Nm.nil
def rwAt (M:List Rw) (i:Nat):Rw:=M[i]?.getD Rw.nil
end Go.Proofs.YtlnphkioddknfaaGreatDoor
namespace Go.Proofs.YtlnphkioddknfaaGreatDoor
open Go.RowKit
attribute [local go_sem ↓] Go.wp_at_zero Go.wp_at_succ
theorem at_then {K:Act→World→Prop} {Q:Exit→Act→World→Prop} {a:Act} {w:World} (F:World→Prop) (h:F w) (k:∀ W,F W→Exit.then K Q .normal a W):Exit.then K Q .normal a w:=k w h
end Go.Proofs.YtlnphkioddknfaaGreatDoor
namespace Go.Proofs.YtlnphkioddknfaaGreatDoor
def sumRows (a:Nat→Nat→Int) (t:Nat→Int):Nat→Nat→Int
 | 0=>fun _=>0
 | k+1=>fun c=>1 * sumRows a t k c+t k * a k c
def factN:Nat→Nat
 | 0=>1
 | n+1=>(n+1) * factN n
end Go.Proofs.YtlnphkioddknfaaGreatDoor
