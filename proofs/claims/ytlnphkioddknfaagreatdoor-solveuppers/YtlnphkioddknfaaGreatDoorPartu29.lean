/- Part 29 of the texts. -/
import Derived.Test.YtlnphkioddknfaaGreatDoorPartu28
set_option maxHeartbeats 4000000
set_option maxRecDepth 20000
namespace Go.Proofs.YtlnphkioddknfaaGreatDoor
open Go.RowKit
attribute [local go_sem ↓] Go.wp_at_zero Go.wp_at_succ
def NewB (H:Nat) (ao:Option Addr) (I:List Int):Prop:=I = [] ∨ ∃ b off,ao = some ⟨b,off,none⟩∧H≤b
theorem BitsAt.far {H:Nat} {w:World} {ao:Option Addr} {c:Nat} {I:List Int} (h:BitsAt w ao c I) (hn:NewB H ao I) {b:Nat} (hb:b < H) (j:Nat) (u:Value):BitsAt (w.setCell ⟨b,j,none⟩ u) ao c I:=by
 refine h.other ?_ u
 rcases hn with e | ⟨b',off,e1,e2⟩
 ·exact .inl e
 ·exact .inr ⟨b',off,e1,by show b' ≠ b;omega⟩
end Go.Proofs.YtlnphkioddknfaaGreatDoor
namespace Go.Proofs.YtlnphkioddknfaaGreatDoor
open Go.RowKit
attribute [local go_sem ↓] Go.wp_at_zero Go.wp_at_succ
def BoxM (w:World) (b:Nat) (x y z:Value):Prop:=w.heap[b]? = some (.cells #[x,y,z] 24 (0,0))
theorem BoxM.c0 {w:World} {b:Nat} {x y z:Value} (h:BoxM w b x y z):w.cell? ⟨b,0,none⟩ = some x:=by rw [cell_of_row w b 0 _ _ _ h];rfl
theorem BoxM.c1 {w:World} {b:Nat} {x y z:Value} (h:BoxM w b x y z):w.cell? ⟨b,1,none⟩ = some y:=by rw [cell_of_row w b 1 _ _ _ h];rfl
theorem BoxM.c2 {w:World} {b:Nat} {x y z:Value} (h:BoxM w b x y z):w.cell? ⟨b,2,none⟩ = some z:=by rw [cell_of_row w b 2 _ _ _ h];rfl
theorem BoxM.free {w:World} {b:Nat} {x y z:Value} (h:BoxM w b x y z) (j:Nat):w.frozen? ⟨b,j,none⟩ = false:=frozen_of_row w b j _ _ h
theorem BoxM.lt {w:World} {b:Nat} {x y z:Value} (h:BoxM w b x y z):b < w.heap.size:=(Array.getElem?_eq_some_iff.1 h).1
theorem BoxM.below {w w':World} {b:Nat} {x y z:Value} (h:BoxM w b x y z) {B:Nat} (hb:Below B w w') (hlt:b < B):BoxM w' b x y z:=(hb.block b hlt).trans h
theorem BoxM.new (w:World) (x y z:Value):BoxM (w.alloc (.cells #[x,y,z] 24)) w.heap.size x y z:=heap_alloc_new w _
theorem BoxM.all {w w':World} {b:Nat} {x y z:Value} (h:BoxM w b x y z) (hb:Below w.heap.size w w'):BoxM w' b x y z:=h.below hb h.lt
theorem BoxM.other {w:World} {b:Nat} {x y z:Value} (h:BoxM w b x y z) {p:Addr} (hp:b ≠ p.block) (u:Value):BoxM (w.setCell p u) b x y z:=(Below.heap_setCell w p u b hp).trans h
theorem BoxM.put {w:World} {b:Nat} {x y z:Value} (h:BoxM w b x y z) (u u' u'':Value):BoxM (((w.setCell ⟨b,0,none⟩ u).setCell ⟨b,1,none⟩ u').setCell ⟨b,2,none⟩ u'') b u u' u'':=by
 have h1:=heap_setCell_same w b 0 _ _ u h
 have h2:=heap_setCell_same (w.setCell ⟨b,0,none⟩ u) b 1 _ _ u' h1
 have h3:=heap_setCell_same ((w.setCell ⟨b,0,none⟩ u).setCell ⟨b,1,none⟩ u') b 2 _ _ u'' h2
 unfold BoxM
 rw [h3]
 simp
theorem below_putM {w w':World} {B b:Nat} (h:Below B w w') (hb:B≤b) (u u' u'':Value):Below B w (((w'.setCell ⟨b,0,none⟩ u).setCell ⟨b,1,none⟩ u').setCell ⟨b,2,none⟩ u'') :=
 ((h.setCell hb _).setCell hb _).setCell hb _
theorem BoxM.grown {w w':World} {b:Nat} {x y z:Value} (h:BoxM w b x y z) {o:Option Nat} (hg:w.grownBy w' o) (ho:o ≠ some b):BoxM w' b x y z :=
 (hg.block b h.lt ho.symm).trans h
def rgB (r c:Int):Bool:=decide (0≤r∧r≤6∧0≤c∧c≤6)
def okB (r c:Int) (n:Nat):Bool:=decide ((0≤r∧r≤6∧0≤c∧c≤6)∧(n:Int) = r * c)
theorem inRange_any (r c:Int) (w:World) :
  Calls Tryz.prog 168 #[.int .i64 r,.int .i64 c] w fun e w'=>e = .returned (.bool (rgB r c))∧w = w':=by
 rcases (show (r < 0∧rgB r c = false) ∨ (0≤r∧6 < r∧rgB r c = false) ∨ (0≤r∧r≤6∧c < 0∧rgB r c = false) ∨ (0≤r∧r≤6∧0≤c∧6 < c∧rgB r c = false) ∨ (0≤r∧r≤6∧0≤c∧c≤6∧rgB r c = true) by
  unfold rgB
  by_cases h:0≤r∧r≤6∧0≤c∧c≤6
  ·rw [decide_eq_true h];simp;omega
  ·rw [decide_eq_false h];simp;omega) with ⟨h1,e⟩ | ⟨h1,h2,e⟩ | ⟨h1,h2,h3,e⟩ | ⟨h1,h2,h3,h4,e⟩ | ⟨h1,h2,h3,h4,e⟩
 all_goals
  rw [e]
  clear e
  go_enter Tryz.func168,Tryz.ntmps168
  go_wp2
  go_ret
  refine ⟨?_,rfl⟩
  first | rfl | (simp;omega)
theorem mcheck_any (r c:Int) (ao:Option Addr) (n cap:Nat) (w:World) (hn:n≤35184372088830) :
  Calls Tryz.prog 110 #[.agg #[.int .i64 r,.int .i64 c,.slice ao n cap]] w fun e w'=>e = .returned (.int .i64 (if okB r c n = true then 0 else 1))∧Below w.heap.size w w':=by
 have HC:=hide (fun w'=>inRange_any r c w')
 have hb0:=hide (below_alloc9 w (.cells #[.int .i64 r,.int .i64 c,.slice ao n cap] 24))
 by_cases hr:0≤r∧r≤6∧0≤c∧c≤6
 ·have e1:rgB r c = true:=decide_eq_true hr
  rw [e1] at HC
  have hm:∃ m:Nat,r * c = (m:Int)∧m≤36:=by
   obtain ⟨a,rfl⟩:=Int.eq_ofNat_of_zero_le hr.1
   obtain ⟨b,rfl⟩:=Int.eq_ofNat_of_zero_le hr.2.2.1
   refine ⟨a * b,by simp,?_⟩
   have:a * b≤6 * 6:=Nat.mul_le_mul (by omega) (by omega)
   omega
  obtain ⟨m,hm,h36⟩:=hm
  by_cases hq:n = m
  ·have e2:okB r c n = true:=decide_eq_true ⟨hr,by rw [hm,hq]⟩
   rw [if_pos e2]
   subst hq
   clear e1 e2 hr
   go_enter Tryz.func110,Tryz.ntmps110
   go_wp2_with fail
   refine (uH HC _).mono ?_
   rintro e w1 ⟨rfl,rfl⟩
   clear HC
   go_wp2
   go_ret
   exact ⟨rfl,uH hb0⟩
  ·have e2:okB r c n = false:=decide_eq_false (fun h=>hq (by have:=h.2;omega))
   rw [if_neg (by rw [e2];decide)]
   have hq2:decide ((n:Int) = (m:Int)) = false:=decide_eq_false (by omega)
   clear e1 e2 hr
   go_enter Tryz.func110,Tryz.ntmps110
   go_wp2_with fail
   refine (uH HC _).mono ?_
   rintro e w1 ⟨rfl,rfl⟩
   clear HC
   go_wp2
   go_ret
   exact ⟨rfl,uH hb0⟩
 ·have e1:rgB r c = false:=decide_eq_false hr
  rw [e1] at HC
  have e2:okB r c n = false:=decide_eq_false (fun h=>hr h.1)
  rw [if_neg (by rw [e2];decide)]
  clear e1 e2 hr
  go_enter Tryz.func110,Tryz.ntmps110
  go_wp2_with fail
  refine (uH HC _).mono ?_
  rintro e w1 ⟨rfl,rfl⟩
  clear HC
  go_wp2
  go_ret
  exact ⟨rfl,uH hb0⟩
end Go.Proofs.YtlnphkioddknfaaGreatDoor
namespace Go.Proofs.YtlnphkioddknfaaGreatDoor
open Go.RowKit
def mxL (S:List Nat):List Int:=S.map (fun x:Nat=>(x:Int))
theorem mxL_len (S:List Nat):(mxL S).length = S.length:=by simp [mxL]
theorem mxL_at (S:List Nat) (j:Nat):atB (mxL S) j = S.getD j 0:=by
 unfold mxL atB
 rw [List.getElem?_map,List.getD_eq_getElem?_getD]
 cases S[j]? <;> simp
theorem mxL_natL {w:World} {ao:Option Addr} {c:Nat} {I:List Int} (h:BitsAt w ao c I):mxL (natL I) = I:=natL_back h
theorem natL_mxL (S:List Nat):natL (mxL S) = S:=by
 unfold natL mxL
 rw [List.map_map]
 refine (List.map_congr_left fun x _=>?_).trans (List.map_id S)
 simp
theorem BitsAt.nat {w:World} {ao:Option Addr} {c:Nat} {S:List Nat} (h:BitsAt w ao c (mxL S)):∀ x ∈ S,x < 18446744073709551616:=by
 intro x hx
 have:=h.2.1 (x:Int) (List.mem_map.2 ⟨x,hx,rfl⟩)
 omega
theorem BitsAt.none (w:World) (c:Nat):BitsAt w .none c (mxL []):=⟨by simp [mxL],by simp [mxL],.inl rfl⟩
theorem BitsAt.nilAt (w:World) (ao:Option Addr) (c:Nat):BitsAt w ao c (mxL []):=⟨by simp [mxL],by simp [mxL],.inl rfl⟩
theorem BitsAt.putM {w:World} {ao:Option Addr} {c:Nat} {I:List Int} (h:BitsAt w ao c I) {g:Nat} {x y:Int} {a:Option Addr} {n d:Nat} (hx:BoxM w g (.int .i64 x) (.int .i64 y) (.slice a n d)) (u u' u'':Value) :
  BitsAt (((w.setCell ⟨g,0,.none⟩ u).setCell ⟨g,1,.none⟩ u').setCell ⟨g,2,.none⟩ u'') ao c I:=by
 refine ⟨h.1,h.2.1,?_⟩
 rcases h.2.2 with h0 | ⟨b,off,h1,h2,h3⟩
 ·exact .inl h0
 ·by_cases he:I = []
  ·exact .inl he
  ·have hp:0 < I.length:=List.length_pos_iff.2 he
   have hne:b ≠ g:=by
    rintro rfl
    have h4:=h3 0 hp
    rw [cell_of_row w b (off+0) _ _ _ hx] at h4
    rcases (show off = 0 ∨ off = 1 ∨ off = 2 ∨ 3≤off by omega) with e | e | e | e
    ·subst e;simp at h4
    ·subst e;simp at h4
    ·subst e;simp at h4
    ·rw [Array.getElem?_eq_none (by simp;omega)] at h4;simp at h4
   refine .inr ⟨b,off,h1,by simpa [World.setCell] using h2,fun i hi=>?_⟩
   rw [cell_setCell_other _ _ _ _ (by simpa using hne),cell_setCell_other _ _ _ _ (by simpa using hne),cell_setCell_other _ _ _ _ (by simpa using hne)]
   exact h3 i hi
def Mx (w:World) (ao:Option Addr) (cap r c:Nat) (S:List Nat):Prop:=BitsAt w ao cap (mxL S)∧S.length = r * c∧r≤6∧c≤6
theorem Mx.below {w w':World} {ao:Option Addr} {cap r c:Nat} {S:List Nat} (h:Mx w ao cap r c S) (hb:Below w.heap.size w w'):Mx w' ao cap r c S:=⟨h.1.below hb,h.2⟩
theorem Mx.small {w:World} {ao:Option Addr} {cap r c:Nat} {S:List Nat} (h:Mx w ao cap r c S):S.length≤36:=by
 rw [h.2.1]
 exact Nat.mul_le_mul h.2.2.1 h.2.2.2
theorem Mx.el_lt {w:World} {ao:Option Addr} {cap r c:Nat} {S:List Nat} (h:Mx w ao cap r c S) (i k:Nat):elM c S i k < 18446744073709551616:=by
 unfold elM
 rw [List.getD_eq_getElem?_getD]
 by_cases g:i * c+k < S.length
 ·rw [List.getElem?_eq_getElem g];exact h.1.nat _ (List.getElem_mem g)
 ·rw [List.getElem?_eq_none (by omega)];decide
theorem Mx.cells {w:World} {ao:Option Addr} {cap r c:Nat} {S:List Nat} (h:Mx w ao cap r c S) {i k:Nat} (hi:i < r) (hk:k < c):∃ b off,ao = some ⟨b,off,.none⟩∧b < w.heap.size∧w.cell? ⟨b,off+(i * c+k),.none⟩ = some (.int .u64 (elM c S i k:Nat))∧i * c+k < S.length:=by
 have hp:i * c+k < S.length:=by rw [h.2.1];exact place_lt hi hk
 obtain ⟨b,off,e1,e2,e3⟩:=h.1.ne (by rw [mxL_len];omega)
 refine ⟨b,off,e1,e2,?_,hp⟩
 rw [e3 _ (by rw [mxL_len];exact hp),mxL_at]
 rfl
theorem mx_ok {w:World} {ao:Option Addr} {cap r c:Nat} {S:List Nat} (h:Mx w ao cap r c S):okB (r:Int) (c:Int) S.length = true:=by
 refine decide_eq_true ⟨⟨by omega,?_,by omega,?_⟩,?_⟩
 ·have:=h.2.2.1;omega
 ·have:=h.2.2.2;omega
 ·rw [h.2.1];simp
theorem Mx.of {w:World} {ao:Option Addr} {cap:Nat} {I:List Int} {r c:Int} (h:BitsAt w ao cap I) (ho:okB r c I.length = true):∃ p q:Nat,r = (p:Int)∧c = (q:Int)∧Mx w ao cap p q (natL I)∧mxL (natL I) = I:=by
 obtain ⟨⟨h1,h2,h3,h4⟩,h5⟩:=of_decide_eq_true ho
 obtain ⟨p,rfl⟩:=Int.eq_ofNat_of_zero_le h1
 obtain ⟨q,rfl⟩:=Int.eq_ofNat_of_zero_le h3
 refine ⟨p,q,rfl,rfl,⟨by rw [mxL_natL h];exact h,?_,by omega,by omega⟩,mxL_natL h⟩
 rw [natL_len]
 have:((p * q:Nat):Int) = (p:Int) * (q:Int):=by simp
 omega
def NewM (H:Nat) (w':World) (r c:Nat) (S:List Nat) (v:Value):Prop:=∃ ao cap,v = .agg #[.int .i64 r,.int .i64 c,.slice ao S.length cap]∧NewB H ao (mxL S)∧BitsAt w' ao cap (mxL S)
theorem NewM.zero (H:Nat) (w:World):NewM H w 0 0 [] (.agg #[.int .i64 0,.int .i64 0,.slice .none 0 0]):=⟨.none,0,rfl,.inl rfl,BitsAt.none w 0⟩
theorem NewM.least {H H':Nat} {w:World} {r c:Nat} {S:List Nat} {v:Value} (h:NewM H w r c S v) (hh:H'≤H):NewM H' w r c S v:=by
 obtain ⟨ao,cap,h1,h2,h3⟩:=h
 refine ⟨ao,cap,h1,?_,h3⟩
 rcases h2 with e | ⟨b,off,e1,e2⟩
 ·exact .inl e
 ·exact .inr ⟨b,off,e1,Nat.le_trans hh e2⟩
end Go.Proofs.YtlnphkioddknfaaGreatDoor
namespace Go.Proofs.YtlnphkioddknfaaGreatDoor
open Go.RowKit
attribute [local go_sem ↓] Go.wp_at_zero Go.wp_at_succ
theorem mat_of (r c n cap b off i k q x:Nat) (w:World) (hq:(i:Int) * (c:Int) = (q:Int)) (hlt:q+k < n) (hn:n≤36)
  (hx:w.cell? ⟨b,off+(q+k),none⟩ = some (.int .u64 (x:Nat))) :
  Calls Tryz.prog 180 #[.agg #[.int .i64 r,.int .i64 c,.slice (some ⟨b,off,none⟩) n cap],.int .i64 i,.int .i64 k] w fun e w'=>e = .returned (.int .u64 (x:Nat))∧Below w.heap.size w w':=by
 have hb0:=hide (below_alloc9 w (.cells #[.int .i64 r,.int .i64 c,.slice (some ⟨b,off,none⟩) n cap] 24))
 have cx:=cell_keep hx (uH hb0)
 clear hx
 have hkI:(q:Int)+(k:Int) < (n:Int):=by omega
 go_enter Tryz.func180,Tryz.ntmps180
 go_wp2
 go_ret
 exact ⟨rfl,uH hb0⟩
theorem cast_mul10 (i c:Nat):(i:Int) * (c:Int) = ((i * c:Nat):Int):=by simp
theorem mat_any (r c cap i k:Nat) (ao:Option Addr) (S:List Nat) (w:World) (h:Mx w ao cap r c S) (hi:i < r) (hk:k < c) :
  Calls Tryz.prog 180 #[.agg #[.int .i64 r,.int .i64 c,.slice ao S.length cap],.int .i64 i,.int .i64 k] w fun e w'=>e = .returned (.int .u64 (elM c S i k:Nat))∧Below w.heap.size w w':=by
 obtain ⟨b,off,rfl,h2,h3,h4⟩:=h.cells hi hk
 exact mat_of r c S.length cap b off i k (i * c) _ w (cast_mul10 i c) h4 h.small h3
def rwL (c:Nat) (S:List Nat) (i:Nat):List Nat:=(List.range c).map (fun k=>elM c S i k)
theorem rwL_len (c:Nat) (S:List Nat) (i:Nat):(rwL c S i).length = c:=by simp [rwL]
theorem rwL_at (c:Nat) (S:List Nat) (i k:Nat) (h:k < c):(rwL c S i).getD k 0 = elM c S i k:=by simp [rwL,List.getD_eq_getElem?_getD,h]
theorem row_of (r c n cap i q p:Nat) (ao:Option Addr) (w:World) (hq:(i:Int) * (c:Int) = (q:Int)) (hp:((i:Int)+1) * (c:Int) = (p:Int)) (hqp:q≤p) (hlt:p≤n) (hnc:n≤cap) (hn:n≤36) (hi:i≤6) :
  Calls Tryz.prog 184 #[.agg #[.int .i64 r,.int .i64 c,.slice ao n cap],.int .i64 i] w fun e w'=>e = .returned (.slice (if cap = q then ao else ao.map (·.add (q * 1))) (p - q) (cap - q))∧Below w.heap.size w w':=by
 have hb0:=hide (below_alloc9 w (.cells #[.int .i64 r,.int .i64 c,.slice ao n cap] 24))
 by_cases h:cap = q
 ·subst h
  rw [if_pos rfl]
  go_enter Tryz.func184,Tryz.ntmps184
  go_wp2
  go_ret
  exact ⟨by simp,uH hb0⟩
 ·rw [if_neg h]
  go_enter Tryz.func184,Tryz.ntmps184
  go_wp2
  go_ret
  exact ⟨by simp,uH hb0⟩
theorem row_bits {w w':World} {ao:Option Addr} {cap r c:Nat} {S:List Nat} (h:Mx w ao cap r c S) (hb:Below w.heap.size w w') {i:Nat} (hi:i < r):BitsAt w' (if cap = i * c then ao else ao.map (·.add (i * c * 1))) (cap - i * c) (mxL (rwL c S i)):=by
 have hp:(i+1) * c≤S.length:=by rw [h.2.1];exact Nat.mul_le_mul_right c hi
 rw [Nat.add_mul,Nat.one_mul] at hp
 have hc:=h.1.1
 rw [mxL_len] at hc
 refine ⟨by rw [mxL_len,rwL_len];omega,?_,?_⟩
 ·intro x hx
  obtain ⟨y,hy,rfl⟩:=List.mem_map.1 hx
  obtain ⟨k,_,rfl⟩:=List.mem_map.1 hy
  have:=h.el_lt i k
  omega
 ·rcases Nat.eq_zero_or_pos c with e | e
  ·subst e;exact .inl rfl
  ·obtain ⟨b,off,e1,e2,e3,e4⟩:=(h.below hb).cells hi e
   refine .inr ⟨b,off+i * c,?_,e2,fun k hk=>?_⟩
   ·rw [if_neg (by omega),e1]
    simp [Addr.add]
   ·have hk':k < c:=by rwa [mxL_len,rwL_len] at hk
    obtain ⟨b',off',f1,f2,f3,f4⟩:=(h.below hb).cells hi hk'
    rw [e1] at f1
    simp only [Option.some.injEq,Addr.mk.injEq] at f1
    obtain ⟨rfl,rfl,_⟩:=f1
    rw [Nat.add_assoc,f3]
    simp [mxL,rwL,hk']
theorem row_any (r c cap i:Nat) (ao:Option Addr) (S:List Nat) (w:World) (h:Mx w ao cap r c S) (hi:i < r) :
  Calls Tryz.prog 184 #[.agg #[.int .i64 r,.int .i64 c,.slice ao S.length cap],.int .i64 i] w fun e w'=>∃ bo d,e = .returned (.slice bo c d)∧BitsAt w' bo d (mxL (rwL c S i))∧Below w.heap.size w w':=by
 have hp:(i+1) * c≤S.length:=by rw [h.2.1];exact Nat.mul_le_mul_right c hi
 have hq:i * c≤(i+1) * c:=Nat.mul_le_mul_right c (by omega)
 have hc:=h.1.1
 rw [mxL_len] at hc
 have h6:=h.2.2.1
 refine (row_of r c S.length cap i (i * c) ((i+1) * c) ao w (cast_mul10 i c) (by simp) hq hp hc h.small (by omega)).mono ?_
 rintro e w' ⟨rfl,hb⟩
 rw [show (i+1) * c - i * c = c by rw [Nat.add_mul,Nat.one_mul];omega]
 exact ⟨_,_,rfl,row_bits h hb hi,hb⟩
theorem NewB.least {H H':Nat} {ao:Option Addr} {I:List Int} (h:NewB H ao I) (hh:H'≤H):NewB H' ao I:=by
 rcases h with e | ⟨b,off,e1,e2⟩
 ·exact .inl e
 ·exact .inr ⟨b,off,e1,Nat.le_trans hh e2⟩
theorem OwnB.newB {base:Nat} {w:World} {ao:Option Addr} {n cap:Nat} {S:List Nat} (h:OwnB base w (.slice ao n cap) S):NewB base ao (mxL S):=by
 rcases h.1.2 with ⟨_,h0⟩ | ⟨g,cap',cur,hv,hg,_⟩
 ·exact .inl (by rw [List.length_eq_zero_iff.1 h0];rfl)
 ·simp only [Value.slice.injEq] at hv
  exact .inr ⟨g,0,hv.1,hg⟩
theorem build_any (fn:Nat) (caps:Array Value) (r c:Nat) (f:Nat→Nat→Nat) (w:World)
  (hcf:∀ args w,(callFunc fn args).run Tryz.prog w = .ok (.enter fn args) w) (hr:r≤6) (hc:c≤6) (hf:∀ i k,i < r→k < c→f i k < 18446744073709551616)
  (hstep:∀ w' i k,Below w.heap.size w w'→i < r→k < c→Calls Tryz.prog fn (#[.int .i64 (i:Nat),.int .i64 (k:Nat)] ++ caps) w' fun e w''=>e = .returned (.int .u64 (f i k:Nat))∧Below w'.heap.size w' w'') :
  Calls Tryz.prog 178 #[.int .i64 r,.int .i64 c,.func (.func fn) #[] caps] w fun e w'=>∃ v,e = .returned v∧NewM w.heap.size w' r c (mkM r c f) v∧Below w.heap.size w w':=by
 obtain ⟨i0,hi0,hz0,hz1,hz2⟩:=info_parts infoBits
 have HS:=hide hstep;have HF:=hide hf
 have hm:(r:Int) * (c:Int) = ((r * c:Nat):Int):=cast_mul10 r c
 have h36:r * c≤36:=Nat.mul_le_mul hr hc
 have X0:=hide (BoxM.new w (.int .i64 0) (.int .i64 0) (.slice none 0 0))
 have B0:=hide (below_alloc9 w (.cells #[.int .i64 0,.int .i64 0,.slice none 0 0] 24))
 obtain ⟨w1,hmk,own1,gr1⟩:=run_make_own (P:=Tryz.prog) (w.alloc (.cells #[.int .i64 0,.int .i64 0,.slice none 0 0] 24)) (w.heap.size+1) 22 37 i0 (.int .u64 0) 1 Tryz.underlying22 hi0 hz0 hz1 .i64 .i64 (r * c) (by rw [hz2];omega) (by unfold maxLen;omega) (by simp)
 have B1:=hide ((uH B0).grown gr1 (by simp) (fun g hg=>by cases hg))
 have X1:BoxM w1 w.heap.size (.int .i64 0) (.int .i64 0) (.slice none 0 0):=(uH X0).grown gr1 (by simp)
 have O1:=hide (show OwnB (w.heap.size+1) w1 (.slice (some ⟨w.heap.size+1,0,none⟩) 0 (r * c)) (fsL (fun p=>f (p / c) (p % c)) (0 * c)) from ⟨by rw [Nat.zero_mul];simpa [fsL] using own1,by rw [Nat.zero_mul];intro x hx;cases hx⟩)
 have HX1:=hide X1
 clear own1 gr1 X0 B0 X1
 obtain ⟨F,hF⟩:∃ F:Nat→Nat,F = fun p=>f (p / c) (p % c):=⟨_,rfl⟩
 rw [← hF] at O1
 have FV:=hide (show ∀ j k,k < c→F (j * c+k) = f j k from fun j k hk=>by rw [hF];show f ((j * c+k) / c) ((j * c+k) % c) = _;rw [place_div hk,place_mod hk])
 have FM:=hide (show mkM r c f = fsL F (r * c) from by rw [hF];rfl)
 rw [uH FM]
 generalize hrc:r * c = n at *
 have HRC:=hide hrc
 clear hrc hstep hf hF
 go_enter Tryz.func178,Tryz.ntmps178
 go_wp2_with fail
 clear hmk
 go_loopw [7,15] (fun v i wr=>∃ j:Nat,j≤r∧i = .int .i64 j∧Hid (OwnB (w.heap.size+1) wr v (fsL F (j * c)))∧Hid (BoxM wr w.heap.size (.int .i64 0) (.int .i64 0) (.slice none 0 0))∧Hid (Below w.heap.size w wr)) (fun _ i _=>r - (intOf i).toNat)
 case atStart=>exact ⟨0,Nat.zero_le _,rfl,O1,HX1,B1⟩
 case round =>
  clear O1 HX1 B1
  obtain ⟨j,hj,rfl,hO,hX,hB⟩:=hrel
  by_cases hlt:j < r
  ·have hjI:(j:Int) < (r:Int):=by omega
   have hO':=hide (show OwnB (w.heap.size+1) wr _ (fsL F (j * c+0)) from uH hO)
   clear hO
   go_wp2_with fail
   go_loopw [7,19] (fun v i wr=>∃ k:Nat,k≤c∧i = .int .i64 k∧Hid (OwnB (w.heap.size+1) wr v (fsL F (j * c+k)))∧Hid (BoxM wr w.heap.size (.int .i64 0) (.int .i64 0) (.slice none 0 0))∧Hid (Below w.heap.size w wr)) (fun _ i _=>c - (intOf i).toNat)
   case atStart=>exact ⟨0,Nat.zero_le _,rfl,hO',hX,hB⟩
   case round =>
    clear hO' hX hB
    obtain ⟨k,hk,rfl,hO,hX,hB⟩:=hrel
    by_cases hkc:k < c
    ·have hkI:(k:Int) < (c:Int):=by omega
     have C:=hide (fun w' h=>uH HS w' j k h hlt hkc)
     have ho:=hide (uH HF j k hlt hkc)
     have eo:=hide (uH FV j k hkc)
     have hlen:=hide (show (fsL F (j * c+k)).length≤1000000 from by
      rw [fsL_len]
      have:=place_lt hlt hkc
      rw [uH HRC] at this
      omega)
     generalize f j k = o at *
     go_wp2_with fail
     refine (uH C _ hB.out).mono ?_
     rintro e w2 ⟨rfl,hb2⟩
     have own2:=(uH hO).below hb2
     have box2:=(uH hX).all hb2
     have B2:=hB.out.trans (hb2.mono hB.out.size)
     obtain ⟨v3,w3,run3,own3,bel3,_,_⟩:=own2.push o (uH ho) (uH hlen) (by have:=box2.lt;omega) 22
     have RUN:=hide run3
     have O3:=hide (show OwnB (w.heap.size+1) w3 v3 (fsL F (j * c+(k+1))) from by
      rw [← Nat.add_assoc,fsL_succ,uH eo];exact own3)
     have X3:=hide (box2.below bel3 (by omega))
     have B3:=hide (B2.trans (bel3.mono (by omega)))
     clear hb2 C hO hX hB own2 box2 B2 run3 own3 bel3 ho eo hlen
     go_wp2_with (at_builtin;refine wpList_append_ran _ rfl _ _ 22 rfl _ _ _ _ rfl rfl (uH RUN) ?_;clear RUN)
     go_round
     case rel=>exact ⟨k+1,by omega,by go_num,O3,X3,B3⟩
     case measure=>simp [intOf];omega
    ·have hkk:k = c:=by omega
     subst hkk
     have hO':=hide (show OwnB (w.heap.size+1) _ _ (fsL F ((j+1) * k)) from by rw [Nat.add_mul,Nat.one_mul];exact uH hO)
     clear hO
     go_wp2_with fail
     go_round
     case rel=>exact ⟨j+1,by omega,by go_num,hO',hX,hB⟩
     case measure=>simp [intOf];omega
  ·have hjj:j = r:=by omega
   subst hjj
   rw [uH HRC] at hO
   obtain ⟨b1,d1,e1,q1⟩:=(uH hO).bits
   have hown:=(uH hO).1
   rw [fsL_len] at e1
   subst e1
   have HNew:=hide ((uH hO).newB.least (Nat.le_succ w.heap.size))
   have s0:=(uH hX).c0;have s1:=(uH hX).c1;have s2:=(uH hX).c2
   have f0:=(uH hX).free 0;have f1:=(uH hX).free 1;have f2:=(uH hX).free 2
   have XP:=(uH hX).put (.int .i64 j) (.int .i64 c) (.slice b1 n d1)
   have z0:=XP.c0;have z1:=XP.c1;have z2:=XP.c2
   have QP:=hide (q1.putM (uH hX) (.int .i64 j) (.int .i64 c) (.slice b1 n d1))
   have BP:=hide (below_putM (uH hB) (Nat.le_refl _) (.int .i64 j) (.int .i64 c) (.slice b1 n d1))
   clear q1 hown hO hX hB XP
   go_wp2
   exact bodyPost_ret (v:=.agg #[.int .i64 j,.int .i64 c,.slice b1 n d1]) (by simp [results,Tryz.results178,go_sem,z0,z1,z2]) rfl ⟨_,rfl,⟨b1,d1,by rw [fsL_len],uH HNew,uH QP⟩,uH BP⟩
end Go.Proofs.YtlnphkioddknfaaGreatDoor
namespace Go.Proofs.YtlnphkioddknfaaGreatDoor
open Go.RowKit
attribute [local go_sem ↓] Go.wp_at_zero Go.wp_at_succ
def MatsAt (w:World) (g k:Nat) (R C:Nat→Int) (A:Nat→Option Addr) (N P:Nat→Nat):Prop :=
 ∀ i,i < k→w.cell? ⟨g,i * 3,none⟩ = some (.int .i64 (R i))∧w.cell? ⟨g,i * 3+1,none⟩ = some (.int .i64 (C i))∧w.cell? ⟨g,i * 3+2,none⟩ = some (.slice (A i) (N i) (P i))
theorem right_of (k g:Nat) (R C:Nat→Int) (A:Nat→Option Addr) (N P:Nat→Nat) (w:World) (hk:k≤2) (hn:∀ i,i < k→N i≤35184372088830) (hM:MatsAt w g k R C A N P) :
  Calls Tryz.prog 176 #[.slice (some ⟨g,0,none⟩) k k] w fun e w'=>∃ b,e = .returned (.bool b)∧(b = true ↔ ∀ i,i < k→okB (R i) (C i) (N i) = true)∧Below w.heap.size w w':=by
 have HM:=hide hM;have HN:=hide hn
 clear hM hn
 go_enter Tryz.func176,Tryz.ntmps176
 go_wp2_with fail
 go_loopw [7] (fun i wr=>∃ j:Nat,j≤k∧i = .int .i64 j∧Hid (Below w.heap.size w wr)∧Hid (∀ t,t < j→okB (R t) (C t) (N t) = true)) (fun i _=>k - (intOf i).toNat)
 case atStart=>exact ⟨0,Nat.zero_le _,rfl,Below.refl _ _,fun t h=>by omega⟩
 case round =>
  obtain ⟨j,hj,rfl,hB,hO⟩:=hrel
  by_cases hlt:j < k
  ·have hkI:(j:Int) < (k:Int):=by omega
   obtain ⟨c0,c1,c2⟩:=uH HM j hlt
   have hN:=uH HN j hlt
   have C1:=hide (fun w'=>mcheck_any (R j) (C j) (A j) (N j) (P j) w' hN)
   have glt:=World.block_lt_of_cell? w _ c0
   have BB:=hide (hB.out.mono (Nat.le_refl _))
   have d0:wr.cell? ⟨g,j * 3,none⟩ = some (.int .i64 (R j)):=by rw [hB.out.cell (p:=⟨g,j * 3,none⟩) glt];exact c0
   have d1:wr.cell? ⟨g,j * 3+1,none⟩ = some (.int .i64 (C j)):=by rw [hB.out.cell (p:=⟨g,j * 3+1,none⟩) glt];exact c1
   have d2:wr.cell? ⟨g,j * 3+2,none⟩ = some (.slice (A j) (N j) (P j)):=by rw [hB.out.cell (p:=⟨g,j * 3+2,none⟩) glt];exact c2
   have BP:=hide ((uH BB).alloc (uH BB).size (.cells #[.int .i64 (R j),.int .i64 (C j),.slice (A j) (N j) (P j)] 24))
   clear c0 c1 c2 hN hB BB glt
   go_wp2_with fail
   refine (uH C1 _).mono ?_
   rintro e w2 ⟨rfl,hb2⟩
   have B2:Hid (Below w.heap.size w w2):=(uH BP).trans (hb2.mono (uH BP).size)
   clear C1 hb2 d0 d1 d2 BP
   cases ho:okB (R j) (C j) (N j)
   ·have HO:=hide ho
    clear ho
    rw [if_neg (by decide)]
    go_wp2
    go_ret
    refine ⟨false,rfl,⟨(fun h=>nomatch h),fun h=>?_⟩,uH B2⟩
    have:=h j hlt
    rw [uH HO] at this
    cases this
   ·have HO:=hide ho
    clear ho
    rw [if_pos rfl]
    go_wp2
    go_round
    case rel =>
     refine ⟨j+1,by omega,by go_num,B2,hide fun t ht=>?_⟩
     by_cases e:t = j
     ·subst e;exact uH HO
     ·exact hO.out t (by omega)
    case measure=>simp [intOf];omega
  ·have hjk:j = k:=by omega
   subst hjk
   go_wp2
   go_ret
   exact ⟨true,rfl,⟨fun _=>hO.out,fun _=>rfl⟩,hB.out⟩
theorem right1_any (r c:Int) (ao:Option Addr) (n cap:Nat) (w:World) (hn:n≤35184372088830) :
  Calls Tryz.prog 176 #[.slice (some ⟨w.heap.size,0,none⟩) 1 1] (w.alloc (.cells #[.int .i64 r,.int .i64 c,.slice ao n cap] 24)) fun e w'=>e = .returned (.bool (okB r c n))∧Below w.heap.size w w':=by
 have X:=BoxM.new w (.int .i64 r) (.int .i64 c) (.slice ao n cap)
 have B:=below_alloc9 w (.cells #[.int .i64 r,.int .i64 c,.slice ao n cap] 24)
 refine (right_of 1 w.heap.size (fun _=>r) (fun _=>c) (fun _=>ao) (fun _=>n) (fun _=>cap) _ (by omega) (fun _ _=>hn) ?_).mono ?_
 ·intro i hi
  obtain rfl:i = 0:=by omega
  exact ⟨X.c0,X.c1,X.c2⟩
 ·rintro e w' ⟨b,rfl,hb,hB⟩
  refine ⟨?_,B.trans (hB.mono B.size)⟩
  have:b = okB r c n:=by
   cases h:okB r c n
   ·cases b
    ·rfl
    ·have:=hb.1 rfl 0 (by omega);rw [h] at this;cases this
   ·exact hb.2 (fun _ _=>h)
  rw [this]
theorem right2_any (r c:Int) (ao:Option Addr) (n cap:Nat) (p q:Int) (bo:Option Addr) (m d:Nat) (w:World) (hn:n≤35184372088830) (hm:m≤35184372088830) :
  Calls Tryz.prog 176 #[.slice (some ⟨w.heap.size,0,none⟩) 2 2] (w.alloc (.cells #[.int .i64 r,.int .i64 c,.slice ao n cap,.int .i64 p,.int .i64 q,.slice bo m d] 24)) fun e w'=>e = .returned (.bool (okB r c n && okB p q m))∧Below w.heap.size w w':=by
 have X:(w.alloc (.cells #[.int .i64 r,.int .i64 c,.slice ao n cap,.int .i64 p,.int .i64 q,.slice bo m d] 24)).heap[w.heap.size]? = some (.cells #[.int .i64 r,.int .i64 c,.slice ao n cap,.int .i64 p,.int .i64 q,.slice bo m d] 24 (0,0)):=heap_alloc_new w _
 have B:=below_alloc9 w (.cells #[.int .i64 r,.int .i64 c,.slice ao n cap,.int .i64 p,.int .i64 q,.slice bo m d] 24)
 refine (right_of 2 w.heap.size (fun i=>if i = 0 then r else p) (fun i=>if i = 0 then c else q) (fun i=>if i = 0 then ao else bo) (fun i=>if i = 0 then n else m) (fun i=>if i = 0 then cap else d) _ (by omega) (fun i _=>by split <;> assumption) ?_).mono ?_
 ·intro i hi
  rcases (show i = 0 ∨ i = 1 by omega) with rfl | rfl
  ·exact ⟨by rw [cell_of_row _ _ _ _ _ _ X];rfl,by rw [cell_of_row _ _ _ _ _ _ X];rfl,by rw [cell_of_row _ _ _ _ _ _ X];rfl⟩
  ·exact ⟨by rw [cell_of_row _ _ _ _ _ _ X];rfl,by rw [cell_of_row _ _ _ _ _ _ X];rfl,by rw [cell_of_row _ _ _ _ _ _ X];rfl⟩
 ·rintro e w' ⟨b,rfl,hb,hB⟩
  refine ⟨?_,B.trans (hB.mono B.size)⟩
  have:b = (okB r c n && okB p q m):=by
   cases h:(okB r c n && okB p q m)
   ·cases b
    ·rfl
    ·have h0:=hb.1 rfl 0 (by omega)
     have h1:=hb.1 rfl 1 (by omega)
     simp only [if_true,Nat.one_ne_zero,if_false] at h0 h1
     rw [h0,h1] at h
     cases h
   ·have h':=Bool.and_eq_true_iff.1 h
    refine hb.2 (fun i hi=>?_)
    rcases (show i = 0 ∨ i = 1 by omega) with rfl | rfl
    ·exact h'.1
    ·exact h'.2
  rw [this]
theorem lies_any (f p e:Int) (w:World) (hf:-9223372036854775808≤f∧f≤9223372036854775807) (he:0≤e∧e≤6) :
  Calls Tryz.prog 177 #[.int .i64 f,.int .i64 p,.int .i64 e] w fun x w'=>x = .returned (.bool (decide (0≤f∧0≤p∧p≤e - f)))∧w = w':=by
 rcases (show f < 0 ∨ (0≤f∧p < 0) ∨ (0≤f∧0≤p) by omega) with h1 | ⟨h1,h2⟩ | ⟨h1,h2⟩
 ·rw [decide_eq_false (by omega)]
  go_enter Tryz.func177,Tryz.ntmps177
  go_wp2
  go_ret
  exact ⟨rfl,rfl⟩
 ·rw [decide_eq_false (by omega)]
  go_enter Tryz.func177,Tryz.ntmps177
  go_wp2
  go_ret
  exact ⟨rfl,rfl⟩
 ·rw [show decide (0≤f∧0≤p∧p≤e - f) = decide (p≤e - f) from decide_eq_decide.2 (by omega)]
  go_enter Tryz.func177,Tryz.ntmps177
  go_wp2
  go_ret
  exact ⟨rfl,rfl⟩
end Go.Proofs.YtlnphkioddknfaaGreatDoor
