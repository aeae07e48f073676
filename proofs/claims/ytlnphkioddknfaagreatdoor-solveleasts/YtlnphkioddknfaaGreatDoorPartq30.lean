/- Part 30 of the texts. -/
import Derived.Test.YtlnphkioddknfaaGreatDoorPartq29
import Derived.Maps.AppendAt
set_option maxHeartbeats 4000000
set_option maxRecDepth 20000
namespace Go.Proofs.YtlnphkioddknfaaGreatDoor
open Go.RowKit
attribute [local go_sem ↓] Go.wp_at_zero Go.wp_at_succ
def natL (I:List Int):List Nat:=I.map Int.toNat
theorem natL_len (I:List Int):(natL I).length = I.length:=by simp [natL]
theorem natL_back {w:World} {ao:Option Addr} {c:Nat} {I:List Int} (h:BitsAt w ao c I):(natL I).map (fun x:Nat=>(x:Int)) = I:=by
 unfold natL
 rw [List.map_map]
 refine (List.map_congr_left fun x hx=>?_).trans (List.map_id I)
 have:=h.2.1 x hx
 simp
 omega
theorem natL_lt {w:World} {ao:Option Addr} {c:Nat} {I:List Int} (h:BitsAt w ao c I):∀ x ∈ natL I,x < 18446744073709551616:=by
 intro x hx
 obtain ⟨y,hy,rfl⟩:=List.mem_map.1 hx
 have:=h.2.1 y hy
 omega
theorem append_nil (w:World) (ty:TypeId) (g c:Nat) :
  (Builtin.append_ #[22,22] ty #[.slice (some ⟨g,0,none⟩) 0 0,.slice none 0 c]).run Tryz.prog w = .ok (.slice (some ⟨g,0,none⟩) 0 0) w:=by
 simp [Builtin.append_,go_sem]
theorem copy_bits (w:World) (base:Nat) (ty:TypeId) (ao:Option Addr) (c:Nat) (I:List Int) (g:Nat) (h:BitsAt w ao c I) (hl:I.length≤17592186043904) (hown:w.ownsRow base 37 1 (.slice (some ⟨g,0,none⟩) 0 0) 0 []) (hbase:base≤w.heap.size) :
  ∃ po pc w',(Builtin.append_ #[22,22] ty #[.slice (some ⟨g,0,none⟩) 0 0,.slice ao I.length c]).run Tryz.prog w = .ok (.slice po I.length pc) w'∧OwnB base w' (.slice po I.length pc) (natL I)∧w.grownBy w' (some g):=by
 obtain ⟨i0,hi,hz0,hz1,hz2⟩:=info_parts infoBits
 cases ao with
 | none =>
  have h0:I = []:=by
   rcases h.2.2 with e | ⟨b,off,e,_⟩
   ·exact e
   ·cases e
  subst h0
  refine ⟨some ⟨g,0,none⟩,0,w,append_nil w ty g c,⟨hown,by simp [natL]⟩,?_⟩
  exact ⟨rfl,rfl,rfl,Nat.le_refl _,fun k _ _=>rfl⟩
 | some a =>
  have hnews:∀ j u,((natL I).map bitV)[j]? = some u→w.cell? (a.add j) = some u:=by
   intro j u hu
   rw [List.getElem?_map] at hu
   have hj:j < I.length:=by
    rcases Nat.lt_or_ge j I.length with e | e
    ·exact e
    ·rw [List.getElem?_eq_none (by rw [natL_len];exact e)] at hu;cases hu
   obtain ⟨b,off,e1,e2,e3⟩:=h.ne (by omega)
   cases e1
   rw [show (⟨b,off,none⟩:Addr).add j = ⟨b,off+j,none⟩ by simp [Addr.add],e3 j hj]
   rw [← hu]
   simp [natL,hj,bitV,atB]
  obtain ⟨v',w',e1,e2,e3,e4,e5⟩:=run_append_own_at (P:=Tryz.prog) w base 22 ty 37 i0 (.int .u64 0) 1 8 Tryz.underlying22 hi hz0 hz1 hz2 rfl (by decide) _ 0 [] hown a I.length c ((natL I).map bitV) (by simp [natL]) hnews (fun u hu=>by
   obtain ⟨x,_,rfl⟩:=List.mem_map.1 hu
   rfl) (by unfold maxLen;omega) (by omega) hbase
  have ho:OwnB base w' v' (natL I):=⟨by
   rw [natL_len]
   simpa using e2,natL_lt h⟩
  obtain ⟨po,pc,rfl,_⟩:=ho.bits
  rw [natL_len] at e1 ho
  exact ⟨po,pc,w',e1,ho,e3⟩
def RowU (w:World) (g n:Nat):Prop:=∃ cur:Array Value,w.heap[g]? = some (.cells cur 37 (0,0))∧n≤cur.size∧∀ j,j < n→∃ z:Int,cur[j]? = some (.int .u64 z)
theorem RowU.cell {w:World} {g n:Nat} (h:RowU w g n) {j:Nat} (hj:j < n):∃ z:Int,w.cell? ⟨g,j,none⟩ = some (.int .u64 z):=by
 obtain ⟨cur,h1,h2,h3⟩:=h
 obtain ⟨z,hz⟩:=h3 j hj
 exact ⟨z,by rw [cell_of_row w g j _ _ _ h1];exact hz⟩
theorem RowU.free {w:World} {g n:Nat} (h:RowU w g n) (j:Nat):w.frozen? ⟨g,j,none⟩ = false:=by
 obtain ⟨cur,h1,_⟩:=h
 exact frozen_of_row w g j _ _ h1
theorem RowU.set {w:World} {g n:Nat} (h:RowU w g n) (b j:Nat) (z:Int):RowU (w.setCell ⟨b,j,none⟩ (.int .u64 z)) g n:=by
 obtain ⟨cur,h1,h2,h3⟩:=h
 by_cases e:g = b
 ·subst e
  refine ⟨cur.setIfInBounds j (.int .u64 z),heap_setCell_same w g j _ _ _ h1,by simpa using h2,fun i hi=>?_⟩
  rw [Array.getElem?_setIfInBounds]
  by_cases ej:j = i
  ·subst ej
   rw [if_pos rfl,if_pos (by omega)]
   exact ⟨z,rfl⟩
  ·rw [if_neg ej]
   exact h3 i hi
 ·exact ⟨cur,(Below.heap_setCell w ⟨b,j,none⟩ (.int .u64 z) g e).trans h1,h2,h3⟩
theorem RowU.below {w w':World} {g n:Nat} (h:RowU w g n) (hb:Below w.heap.size w w'):RowU w' g n:=by
 obtain ⟨cur,h1,h2⟩:=h
 exact ⟨cur,(hb.block g (Array.getElem?_eq_some_iff.1 h1).1).trans h1,h2⟩
theorem OwnB.rowU {base:Nat} {w:World} {S:List Nat} {po:Option Addr} {n pc:Nat} (h:OwnB base w (.slice po n pc) S) (hn:0 < S.length):∃ g,po = some ⟨g,0,none⟩∧base≤g∧g < w.heap.size∧RowU w g S.length:=by
 rcases h.1.2 with ⟨_,h0⟩ | ⟨g,cap,cur,hv,hg,hh,hc,hm,hs,ht⟩
 ·omega
 ·simp only [Value.slice.injEq] at hv
  refine ⟨g,hv.1,hg,(Array.getElem?_eq_some_iff.1 hh).1,cur,hh,by omega,fun j hj=>?_⟩
  have q:(S.map bitV)[j]? = some (.int .u64 ((S[j]:Nat):Int)):=by
   rw [List.getElem?_map,List.getElem?_eq_getElem hj];rfl
  rw [← ht,List.getElem?_take,if_pos (by omega)] at q
  exact ⟨_,by simpa using q⟩
theorem BitsAt.other {w:World} {ao:Option Addr} {c:Nat} {I:List Int} (h:BitsAt w ao c I) {p:Addr} (hp:I = [] ∨ ∃ b off,ao = some ⟨b,off,none⟩∧b ≠ p.block) (u:Value):BitsAt (w.setCell p u) ao c I:=by
 refine ⟨h.1,h.2.1,?_⟩
 rcases h.2.2 with e | ⟨b,off,e1,e2,e3⟩
 ·exact .inl e
 rcases hp with e | ⟨b',off',f1,f2⟩
 ·exact .inl e
 rw [e1] at f1
 simp only [Option.some.injEq,Addr.mk.injEq] at f1
 obtain ⟨rfl,rfl,_⟩:=f1
 refine .inr ⟨b,off,e1,by simpa [World.setCell] using e2,fun i hi=>?_⟩
 rw [cell_setCell_other _ _ _ _ f2]
 exact e3 i hi
theorem same_any (ao bo:Option Addr) (c d:Nat) (I:List Int) (w:World) (hI:BitsAt w ao c I) (hJ:BitsAt w bo d I) (hn:I.length≤35184372088830) :
  Calls Tryz.prog 73 #[.slice ao I.length c,.slice bo I.length d] w fun e w'=>e = .returned (.bool true)∧Below w.heap.size w w':=by
 have HI:=hide hI;have HJ:=hide hJ
 obtain ⟨n,hnn⟩:∃ n,I.length = n:=⟨_,rfl⟩
 rw [hnn] at hn ⊢
 have HN:=hide hnn
 clear hI hJ hnn
 go_enter Tryz.func73,Tryz.ntmps73
 go_wp2_with fail
 go_loopw [5] (fun i wr=>∃ k:Nat,k≤n∧i = .int .i64 k∧Hid (Below w.heap.size w wr)) (fun i _=>n - (intOf i).toNat)
 case atStart=>exact ⟨0,Nat.zero_le _,rfl,Below.refl _ _⟩
 case round =>
  obtain ⟨k,hk,rfl,hB⟩:=hrel
  by_cases hlt:k < n
  ·have hkI:(k:Int) < (n:Int):=by omega
   obtain ⟨b1,o1,hao,hb1,hc1⟩:=((uH HI).below hB.out).ne (by rw [uH HN];omega)
   obtain ⟨b2,o2,hbo,hb2,hc2⟩:=((uH HJ).below hB.out).ne (by rw [uH HN];omega)
   have cx:=hc1 k (by rw [uH HN];exact hlt)
   have cy:=hc2 k (by rw [uH HN];exact hlt)
   subst hao
   subst hbo
   clear hc1 hc2
   generalize atB I k = x at *
   go_wp2_with fail
   go_quiet (fail)
   go_wp2_with fail
   go_round
   case rel=>exact ⟨k+1,by omega,by go_num,hide (below_drewN hB.out _)⟩
   case measure=>simp [intOf];omega
  ·have hkk:k = n:=by omega
   subst hkk
   go_wp2_with fail
   exact bodyPost_ret (v:=.bool true) (by simp [results,Tryz.results73,go_sem]) rfl ⟨rfl,hB.out⟩
end Go.Proofs.YtlnphkioddknfaaGreatDoor
namespace Go.Proofs.YtlnphkioddknfaaGreatDoor
open Go.RowKit
attribute [local go_sem ↓] Go.wp_at_zero Go.wp_at_succ
def NewB (H:Nat) (ao:Option Addr) (I:List Int):Prop:=I = [] ∨ ∃ b off,ao = some ⟨b,off,none⟩∧H≤b
def CopyB (base H:Nat) (w:World) (po:Option Addr) (n:Nat):Prop:=n = 0 ∨ ∃ g,po = some ⟨g,0,none⟩∧base≤g∧g < H∧RowU w g n
theorem CopyB.below {base H:Nat} {w w':World} {po:Option Addr} {n:Nat} (h:CopyB base H w po n) (hb:Below w.heap.size w w'):CopyB base H w' po n:=by
 rcases h with h | ⟨g,h1,h2,h3,h4⟩
 ·exact .inl h
 ·exact .inr ⟨g,h1,h2,h3,h4.below hb⟩
theorem CopyB.set {base H:Nat} {w:World} {po:Option Addr} {n:Nat} (h:CopyB base H w po n) (b j:Nat) (z:Int):CopyB base H (w.setCell ⟨b,j,none⟩ (.int .u64 z)) po n:=by
 rcases h with h | ⟨g,h1,h2,h3,h4⟩
 ·exact .inl h
 ·exact .inr ⟨g,h1,h2,h3,h4.set b j z⟩
theorem CopyB.upto {base H H':Nat} {w:World} {po:Option Addr} {n:Nat} (h:CopyB base H w po n) (hH:H≤H'):CopyB base H' w po n:=by
 rcases h with h | ⟨g,h1,h2,h3,h4⟩
 ·exact .inl h
 ·exact .inr ⟨g,h1,h2,by omega,h4⟩
theorem CopyB.base {base base' H:Nat} {w:World} {po:Option Addr} {n:Nat} (h:CopyB base H w po n) (hb:base'≤base):CopyB base' H w po n:=by
 rcases h with h | ⟨g,h1,h2,h3,h4⟩
 ·exact .inl h
 ·exact .inr ⟨g,h1,by omega,h3,h4⟩
theorem OwnB.copy {base:Nat} {w:World} {I:List Int} {po:Option Addr} {pc:Nat} (h:OwnB base w (.slice po I.length pc) (natL I)):CopyB base w.heap.size w po I.length:=by
 rcases Nat.eq_zero_or_pos I.length with e | e
 ·exact .inl e
 ·obtain ⟨g,h1,h2,h3,h4⟩:=h.rowU (by rw [natL_len];exact e)
  rw [natL_len] at h4
  exact .inr ⟨g,h1,h2,h3,h4⟩
theorem BitsAt.far {H:Nat} {w:World} {ao:Option Addr} {c:Nat} {I:List Int} (h:BitsAt w ao c I) (hn:NewB H ao I) {b:Nat} (hb:b < H) (j:Nat) (u:Value):BitsAt (w.setCell ⟨b,j,none⟩ u) ao c I:=by
 refine h.other ?_ u
 rcases hn with e | ⟨b',off,e1,e2⟩
 ·exact .inl e
 ·exact .inr ⟨b',off,e1,by show b' ≠ b;omega⟩
theorem OwnB.same {base:Nat} {w w0:World} {I:List Int} {po ao:Option Addr} {pc c:Nat} (h:OwnB base w (.slice po I.length pc) (natL I)) (h0:BitsAt w0 ao c I):BitsAt w po pc I:=by
 obtain ⟨ao',cap',e,hb⟩:=h.bits
 simp only [Value.slice.injEq] at e
 obtain ⟨rfl,_,rfl⟩:=e
 rw [natL_back h0] at hb
 exact hb
end Go.Proofs.YtlnphkioddknfaaGreatDoor
namespace Go.Proofs.YtlnphkioddknfaaGreatDoor
open Go.RowKit
attribute [local go_sem ↓] Go.wp_at_zero Go.wp_at_succ
def BoxM (w:World) (b:Nat) (x y z:Value):Prop:=w.heap[b]? = some (.cells #[x,y,z] 24 (0,0))
theorem BoxM.c0 {w:World} {b:Nat} {x y z:Value} (h:BoxM w b x y z):w.cell? ⟨b,0,none⟩ = some x:=by rw [cell_of_row w b 0 _ _ _ h];rfl
theorem BoxM.c1 {w:World} {b:Nat} {x y z:Value} (h:BoxM w b x y z):w.cell? ⟨b,1,none⟩ = some y:=by rw [cell_of_row w b 1 _ _ _ h];rfl
theorem BoxM.c2 {w:World} {b:Nat} {x y z:Value} (h:BoxM w b x y z):w.cell? ⟨b,2,none⟩ = some z:=by rw [cell_of_row w b 2 _ _ _ h];rfl
theorem BoxM.free {w:World} {b:Nat} {x y z:Value} (h:BoxM w b x y z) (j:Nat):w.frozen? ⟨b,j,none⟩ = false:=frozen_of_row w b j _ _ h
theorem BoxM.lt {w:World} {b:Nat} {x y z:Value} (h:BoxM w b x y z):b < w.heap.size:=(Array.getElem?_eq_some_iff.1 h).1
theorem BoxM.below {w w':World} {b:Nat} {x y z:Value} (h:BoxM w b x y z) {B:Nat} (hb:Below B w w') (hlt:b < B):BoxM w' b x y z:=(hb.block b hlt).trans h
theorem BoxM.new (w:World) (x y z:Value):BoxM (w.alloc (.cells #[x,y,z] 24)) w.heap.size x y z:=heap_alloc_new w _
theorem BoxM.all {w w':World} {b:Nat} {x y z:Value} (h:BoxM w b x y z) (hb:Below w.heap.size w w'):BoxM w' b x y z:=h.below hb h.lt
theorem BoxM.other {w:World} {b:Nat} {x y z:Value} (h:BoxM w b x y z) {p:Addr} (hp:b ≠ p.block) (u:Value):BoxM (w.setCell p u) b x y z:=(Below.heap_setCell w p u b hp).trans h
theorem BoxM.put {w:World} {b:Nat} {x y z:Value} (h:BoxM w b x y z) (u u' u'':Value):BoxM (((w.setCell ⟨b,0,none⟩ u).setCell ⟨b,1,none⟩ u').setCell ⟨b,2,none⟩ u'') b u u' u'':=by
 have h1:=heap_setCell_same w b 0 _ _ u h
 have h2:=heap_setCell_same (w.setCell ⟨b,0,none⟩ u) b 1 _ _ u' h1
 have h3:=heap_setCell_same ((w.setCell ⟨b,0,none⟩ u).setCell ⟨b,1,none⟩ u') b 2 _ _ u'' h2
 unfold BoxM
 rw [h3]
 simp
theorem below_putM {w w':World} {B b:Nat} (h:Below B w w') (hb:B≤b) (u u' u'':Value):Below B w (((w'.setCell ⟨b,0,none⟩ u).setCell ⟨b,1,none⟩ u').setCell ⟨b,2,none⟩ u'') :=
 ((h.setCell hb _).setCell hb _).setCell hb _
theorem BoxM.grown {w w':World} {b:Nat} {x y z:Value} (h:BoxM w b x y z) {o:Option Nat} (hg:w.grownBy w' o) (ho:o ≠ some b):BoxM w' b x y z :=
 (hg.block b h.lt ho.symm).trans h
def rgB (r c:Int):Bool:=decide (0≤r∧r≤6∧0≤c∧c≤6)
def okB (r c:Int) (n:Nat):Bool:=decide ((0≤r∧r≤6∧0≤c∧c≤6)∧(n:Int) = r * c)
theorem inRange_any (r c:Int) (w:World) :
  Calls Tryz.prog 168 #[.int .i64 r,.int .i64 c] w fun e w'=>e = .returned (.bool (rgB r c))∧w = w':=by
 rcases (show (r < 0∧rgB r c = false) ∨ (0≤r∧6 < r∧rgB r c = false) ∨ (0≤r∧r≤6∧c < 0∧rgB r c = false) ∨ (0≤r∧r≤6∧0≤c∧6 < c∧rgB r c = false) ∨ (0≤r∧r≤6∧0≤c∧c≤6∧rgB r c = true) by
  unfold rgB
  by_cases h:0≤r∧r≤6∧0≤c∧c≤6
  ·rw [decide_eq_true h];simp;omega
  ·rw [decide_eq_false h];simp;omega) with ⟨h1,e⟩ | ⟨h1,h2,e⟩ | ⟨h1,h2,h3,e⟩ | ⟨h1,h2,h3,h4,e⟩ | ⟨h1,h2,h3,h4,e⟩
 all_goals
  rw [e]
  clear e
  go_enter Tryz.func168,Tryz.ntmps168
  go_wp2
  go_ret
  refine ⟨?_,rfl⟩
  first | rfl | (simp;omega)
theorem mcheck_any (r c:Int) (ao:Option Addr) (n cap:Nat) (w:World) (hn:n≤35184372088830) :
  Calls Tryz.prog 110 #[.agg #[.int .i64 r,.int .i64 c,.slice ao n cap]] w fun e w'=>e = .returned (.int .i64 (if okB r c n = true then 0 else 1))∧Below w.heap.size w w':=by
 have HC:=hide (fun w'=>inRange_any r c w')
 have hb0:=hide (below_alloc9 w (.cells #[.int .i64 r,.int .i64 c,.slice ao n cap] 24))
 by_cases hr:0≤r∧r≤6∧0≤c∧c≤6
 ·have e1:rgB r c = true:=decide_eq_true hr
  rw [e1] at HC
  have hm:∃ m:Nat,r * c = (m:Int)∧m≤36:=by
   obtain ⟨a,rfl⟩:=Int.eq_ofNat_of_zero_le hr.1
   obtain ⟨b,rfl⟩:=Int.eq_ofNat_of_zero_le hr.2.2.1
   refine ⟨a * b,by simp,?_⟩
   have:a * b≤6 * 6:=Nat.mul_le_mul (by omega) (by omega)
   omega
  obtain ⟨m,hm,h36⟩:=hm
  by_cases hq:n = m
  ·have e2:okB r c n = true:=decide_eq_true ⟨hr,by rw [hm,hq]⟩
   rw [if_pos e2]
   subst hq
   clear e1 e2 hr
   go_enter Tryz.func110,Tryz.ntmps110
   go_wp2_with fail
   refine (uH HC _).mono ?_
   rintro e w1 ⟨rfl,rfl⟩
   clear HC
   go_wp2
   go_ret
   exact ⟨rfl,uH hb0⟩
  ·have e2:okB r c n = false:=decide_eq_false (fun h=>hq (by have:=h.2;omega))
   rw [if_neg (by rw [e2];decide)]
   have hq2:decide ((n:Int) = (m:Int)) = false:=decide_eq_false (by omega)
   clear e1 e2 hr
   go_enter Tryz.func110,Tryz.ntmps110
   go_wp2_with fail
   refine (uH HC _).mono ?_
   rintro e w1 ⟨rfl,rfl⟩
   clear HC
   go_wp2
   go_ret
   exact ⟨rfl,uH hb0⟩
 ·have e1:rgB r c = false:=decide_eq_false hr
  rw [e1] at HC
  have e2:okB r c n = false:=decide_eq_false (fun h=>hr h.1)
  rw [if_neg (by rw [e2];decide)]
  clear e1 e2 hr
  go_enter Tryz.func110,Tryz.ntmps110
  go_wp2_with fail
  refine (uH HC _).mono ?_
  rintro e w1 ⟨rfl,rfl⟩
  clear HC
  go_wp2
  go_ret
  exact ⟨rfl,uH hb0⟩
end Go.Proofs.YtlnphkioddknfaaGreatDoor
namespace Go.Proofs.YtlnphkioddknfaaGreatDoor
open Go.RowKit
def mxL (S:List Nat):List Int:=S.map (fun x:Nat=>(x:Int))
theorem mxL_len (S:List Nat):(mxL S).length = S.length:=by simp [mxL]
theorem mxL_at (S:List Nat) (j:Nat):atB (mxL S) j = S.getD j 0:=by
 unfold mxL atB
 rw [List.getElem?_map,List.getD_eq_getElem?_getD]
 cases S[j]? <;> simp
theorem mxL_natL {w:World} {ao:Option Addr} {c:Nat} {I:List Int} (h:BitsAt w ao c I):mxL (natL I) = I:=natL_back h
theorem natL_mxL (S:List Nat):natL (mxL S) = S:=by
 unfold natL mxL
 rw [List.map_map]
 refine (List.map_congr_left fun x _=>?_).trans (List.map_id S)
 simp
theorem BitsAt.nat {w:World} {ao:Option Addr} {c:Nat} {S:List Nat} (h:BitsAt w ao c (mxL S)):∀ x ∈ S,x < 18446744073709551616:=by
 intro x hx
 have:=h.2.1 (x:Int) (List.mem_map.2 ⟨x,hx,rfl⟩)
 omega
theorem BitsAt.none (w:World) (c:Nat):BitsAt w .none c (mxL []):=⟨by simp [mxL],by simp [mxL],.inl rfl⟩
theorem BitsAt.nilAt (w:World) (ao:Option Addr) (c:Nat):BitsAt w ao c (mxL []):=⟨by simp [mxL],by simp [mxL],.inl rfl⟩
theorem BitsAt.putM {w:World} {ao:Option Addr} {c:Nat} {I:List Int} (h:BitsAt w ao c I) {g:Nat} {x y:Int} {a:Option Addr} {n d:Nat} (hx:BoxM w g (.int .i64 x) (.int .i64 y) (.slice a n d)) (u u' u'':Value) :
  BitsAt (((w.setCell ⟨g,0,.none⟩ u).setCell ⟨g,1,.none⟩ u').setCell ⟨g,2,.none⟩ u'') ao c I:=by
 refine ⟨h.1,h.2.1,?_⟩
 rcases h.2.2 with h0 | ⟨b,off,h1,h2,h3⟩
 ·exact .inl h0
 ·by_cases he:I = []
  ·exact .inl he
  ·have hp:0 < I.length:=List.length_pos_iff.2 he
   have hne:b ≠ g:=by
    rintro rfl
    have h4:=h3 0 hp
    rw [cell_of_row w b (off+0) _ _ _ hx] at h4
    rcases (show off = 0 ∨ off = 1 ∨ off = 2 ∨ 3≤off by omega) with e | e | e | e
    ·subst e;simp at h4
    ·subst e;simp at h4
    ·subst e;simp at h4
    ·rw [Array.getElem?_eq_none (by simp;omega)] at h4;simp at h4
   refine .inr ⟨b,off,h1,by simpa [World.setCell] using h2,fun i hi=>?_⟩
   rw [cell_setCell_other _ _ _ _ (by simpa using hne),cell_setCell_other _ _ _ _ (by simpa using hne),cell_setCell_other _ _ _ _ (by simpa using hne)]
   exact h3 i hi
def Mx (w:World) (ao:Option Addr) (cap r c:Nat) (S:List Nat):Prop:=BitsAt w ao cap (mxL S)∧S.length = r * c∧r≤6∧c≤6
theorem Mx.below {w w':World} {ao:Option Addr} {cap r c:Nat} {S:List Nat} (h:Mx w ao cap r c S) (hb:Below w.heap.size w w'):Mx w' ao cap r c S:=⟨h.1.below hb,h.2⟩
theorem Mx.small {w:World} {ao:Option Addr} {cap r c:Nat} {S:List Nat} (h:Mx w ao cap r c S):S.length≤36:=by
 rw [h.2.1]
 exact Nat.mul_le_mul h.2.2.1 h.2.2.2
theorem Mx.el_lt {w:World} {ao:Option Addr} {cap r c:Nat} {S:List Nat} (h:Mx w ao cap r c S) (i k:Nat):elM c S i k < 18446744073709551616:=by
 unfold elM
 rw [List.getD_eq_getElem?_getD]
 by_cases g:i * c+k < S.length
 ·rw [List.getElem?_eq_getElem g];exact h.1.nat _ (List.getElem_mem g)
 ·rw [List.getElem?_eq_none (by omega)];decide
theorem Mx.cells {w:World} {ao:Option Addr} {cap r c:Nat} {S:List Nat} (h:Mx w ao cap r c S) {i k:Nat} (hi:i < r) (hk:k < c):∃ b off,ao = some ⟨b,off,.none⟩∧b < w.heap.size∧w.cell? ⟨b,off+(i * c+k),.none⟩ = some (.int .u64 (elM c S i k:Nat))∧i * c+k < S.length:=by
 have hp:i * c+k < S.length:=by rw [h.2.1];exact place_lt hi hk
 obtain ⟨b,off,e1,e2,e3⟩:=h.1.ne (by rw [mxL_len];omega)
 refine ⟨b,off,e1,e2,?_,hp⟩
 rw [e3 _ (by rw [mxL_len];exact hp),mxL_at]
 rfl
theorem mx_ok {w:World} {ao:Option Addr} {cap r c:Nat} {S:List Nat} (h:Mx w ao cap r c S):okB (r:Int) (c:Int) S.length = true:=by
 refine decide_eq_true ⟨⟨by omega,?_,by omega,?_⟩,?_⟩
 ·have:=h.2.2.1;omega
 ·have:=h.2.2.2;omega
 ·rw [h.2.1];simp
theorem Mx.of {w:World} {ao:Option Addr} {cap:Nat} {I:List Int} {r c:Int} (h:BitsAt w ao cap I) (ho:okB r c I.length = true):∃ p q:Nat,r = (p:Int)∧c = (q:Int)∧Mx w ao cap p q (natL I)∧mxL (natL I) = I:=by
 obtain ⟨⟨h1,h2,h3,h4⟩,h5⟩:=of_decide_eq_true ho
 obtain ⟨p,rfl⟩:=Int.eq_ofNat_of_zero_le h1
 obtain ⟨q,rfl⟩:=Int.eq_ofNat_of_zero_le h3
 refine ⟨p,q,rfl,rfl,⟨by rw [mxL_natL h];exact h,?_,by omega,by omega⟩,mxL_natL h⟩
 rw [natL_len]
 have:((p * q:Nat):Int) = (p:Int) * (q:Int):=by simp
 omega
def NewM (H:Nat) (w':World) (r c:Nat) (S:List Nat) (v:Value):Prop:=∃ ao cap,v = .agg #[.int .i64 r,.int .i64 c,.slice ao S.length cap]∧NewB H ao (mxL S)∧BitsAt w' ao cap (mxL S)
theorem NewM.zero (H:Nat) (w:World):NewM H w 0 0 [] (.agg #[.int .i64 0,.int .i64 0,.slice .none 0 0]):=⟨.none,0,rfl,.inl rfl,BitsAt.none w 0⟩
theorem NewM.least {H H':Nat} {w:World} {r c:Nat} {S:List Nat} {v:Value} (h:NewM H w r c S v) (hh:H'≤H):NewM H' w r c S v:=by
 obtain ⟨ao,cap,h1,h2,h3⟩:=h
 refine ⟨ao,cap,h1,?_,h3⟩
 rcases h2 with e | ⟨b,off,e1,e2⟩
 ·exact .inl e
 ·exact .inr ⟨b,off,e1,Nat.le_trans hh e2⟩
end Go.Proofs.YtlnphkioddknfaaGreatDoor
namespace Go.Proofs.YtlnphkioddknfaaGreatDoor
open Go.RowKit
attribute [local go_sem ↓] Go.wp_at_zero Go.wp_at_succ
theorem mat_of (r c n cap b off i k q x:Nat) (w:World) (hq:(i:Int) * (c:Int) = (q:Int)) (hlt:q+k < n) (hn:n≤36)
  (hx:w.cell? ⟨b,off+(q+k),none⟩ = some (.int .u64 (x:Nat))) :
  Calls Tryz.prog 180 #[.agg #[.int .i64 r,.int .i64 c,.slice (some ⟨b,off,none⟩) n cap],.int .i64 i,.int .i64 k] w fun e w'=>e = .returned (.int .u64 (x:Nat))∧Below w.heap.size w w':=by
 have hb0:=hide (below_alloc9 w (.cells #[.int .i64 r,.int .i64 c,.slice (some ⟨b,off,none⟩) n cap] 24))
 have cx:=cell_keep hx (uH hb0)
 clear hx
 have hkI:(q:Int)+(k:Int) < (n:Int):=by omega
 go_enter Tryz.func180,Tryz.ntmps180
 go_wp2
 go_ret
 exact ⟨rfl,uH hb0⟩
theorem cast_mul10 (i c:Nat):(i:Int) * (c:Int) = ((i * c:Nat):Int):=by simp
theorem mat_any (r c cap i k:Nat) (ao:Option Addr) (S:List Nat) (w:World) (h:Mx w ao cap r c S) (hi:i < r) (hk:k < c) :
  Calls Tryz.prog 180 #[.agg #[.int .i64 r,.int .i64 c,.slice ao S.length cap],.int .i64 i,.int .i64 k] w fun e w'=>e = .returned (.int .u64 (elM c S i k:Nat))∧Below w.heap.size w w':=by
 obtain ⟨b,off,rfl,h2,h3,h4⟩:=h.cells hi hk
 exact mat_of r c S.length cap b off i k (i * c) _ w (cast_mul10 i c) h4 h.small h3
def rwL (c:Nat) (S:List Nat) (i:Nat):List Nat:=(List.range c).map (fun k=>elM c S i k)
theorem rwL_len (c:Nat) (S:List Nat) (i:Nat):(rwL c S i).length = c:=by simp [rwL]
theorem rwL_at (c:Nat) (S:List Nat) (i k:Nat) (h:k < c):(rwL c S i).getD k 0 = elM c S i k:=by simp [rwL,List.getD_eq_getElem?_getD,h]
theorem row_of (r c n cap i q p:Nat) (ao:Option Addr) (w:World) (hq:(i:Int) * (c:Int) = (q:Int)) (hp:((i:Int)+1) * (c:Int) = (p:Int)) (hqp:q≤p) (hlt:p≤n) (hnc:n≤cap) (hn:n≤36) (hi:i≤6) :
  Calls Tryz.prog 184 #[.agg #[.int .i64 r,.int .i64 c,.slice ao n cap],.int .i64 i] w fun e w'=>e = .returned (.slice (if cap = q then ao else ao.map (·.add (q * 1))) (p - q) (cap - q))∧Below w.heap.size w w':=by
 have hb0:=hide (below_alloc9 w (.cells #[.int .i64 r,.int .i64 c,.slice ao n cap] 24))
 by_cases h:cap = q
 ·subst h
  rw [if_pos rfl]
  go_enter Tryz.func184,Tryz.ntmps184
  go_wp2
  go_ret
  exact ⟨by simp,uH hb0⟩
 ·rw [if_neg h]
  go_enter Tryz.func184,Tryz.ntmps184
  go_wp2
  go_ret
  exact ⟨by simp,uH hb0⟩
theorem row_bits {w w':World} {ao:Option Addr} {cap r c:Nat} {S:List Nat} (h:Mx w ao cap r c S) (hb:Below w.heap.size w w') {i:Nat} (hi:i < r):BitsAt w' (if cap = i * c then ao else ao.map (·.add (i * c * 1))) (cap - i * c) (mxL (rwL c S i)):=by
 have hp:(i+1) * c≤S.length:=by rw [h.2.1];exact Nat.mul_le_mul_right c hi
 rw [Nat.add_mul,Nat.one_mul] at hp
 have hc:=h.1.1
 rw [mxL_len] at hc
 refine ⟨by rw [mxL_len,rwL_len];omega,?_,?_⟩
 ·intro x hx
  obtain ⟨y,hy,rfl⟩:=List.mem_map.1 hx
  obtain ⟨k,_,rfl⟩:=List.mem_map.1 hy
  have:=h.el_lt i k
  omega
 ·rcases Nat.eq_zero_or_pos c with e | e
  ·subst e;exact .inl rfl
  ·obtain ⟨b,off,e1,e2,e3,e4⟩:=(h.below hb).cells hi e
   refine .inr ⟨b,off+i * c,?_,e2,fun k hk=>?_⟩
   ·rw [if_neg (by omega),e1]
    simp [Addr.add]
   ·have hk':k < c:=by rwa [mxL_len,rwL_len] at hk
    obtain ⟨b',off',f1,f2,f3,f4⟩:=(h.below hb).cells hi hk'
    rw [e1] at f1
    simp only [Option.some.injEq,Addr.mk.injEq] at f1
    obtain ⟨rfl,rfl,_⟩:=f1
    rw [Nat.add_assoc,f3]
    simp [mxL,rwL,hk']
theorem row_any (r c cap i:Nat) (ao:Option Addr) (S:List Nat) (w:World) (h:Mx w ao cap r c S) (hi:i < r) :
  Calls Tryz.prog 184 #[.agg #[.int .i64 r,.int .i64 c,.slice ao S.length cap],.int .i64 i] w fun e w'=>∃ bo d,e = .returned (.slice bo c d)∧BitsAt w' bo d (mxL (rwL c S i))∧Below w.heap.size w w':=by
 have hp:(i+1) * c≤S.length:=by rw [h.2.1];exact Nat.mul_le_mul_right c hi
 have hq:i * c≤(i+1) * c:=Nat.mul_le_mul_right c (by omega)
 have hc:=h.1.1
 rw [mxL_len] at hc
 have h6:=h.2.2.1
 refine (row_of r c S.length cap i (i * c) ((i+1) * c) ao w (cast_mul10 i c) (by simp) hq hp hc h.small (by omega)).mono ?_
 rintro e w' ⟨rfl,hb⟩
 rw [show (i+1) * c - i * c = c by rw [Nat.add_mul,Nat.one_mul];omega]
 exact ⟨_,_,rfl,row_bits h hb hi,hb⟩
theorem NewB.least {H H':Nat} {ao:Option Addr} {I:List Int} (h:NewB H ao I) (hh:H'≤H):NewB H' ao I:=by
 rcases h with e | ⟨b,off,e1,e2⟩
 ·exact .inl e
 ·exact .inr ⟨b,off,e1,Nat.le_trans hh e2⟩
theorem OwnB.newB {base:Nat} {w:World} {ao:Option Addr} {n cap:Nat} {S:List Nat} (h:OwnB base w (.slice ao n cap) S):NewB base ao (mxL S):=by
 rcases h.1.2 with ⟨_,h0⟩ | ⟨g,cap',cur,hv,hg,_⟩
 ·exact .inl (by rw [List.length_eq_zero_iff.1 h0];rfl)
 ·simp only [Value.slice.injEq] at hv
  exact .inr ⟨g,0,hv.1,hg⟩
theorem build_any (fn:Nat) (caps:Array Value) (r c:Nat) (f:Nat→Nat→Nat) (w:World)
  (hcf:∀ args w,(callFunc fn args).run Tryz.prog w = .ok (.enter fn args) w) (hr:r≤6) (hc:c≤6) (hf:∀ i k,i < r→k < c→f i k < 18446744073709551616)
  (hstep:∀ w' i k,Below w.heap.size w w'→i < r→k < c→Calls Tryz.prog fn (#[.int .i64 (i:Nat),.int .i64 (k:Nat)] ++ caps) w' fun e w''=>e = .returned (.int .u64 (f i k:Nat))∧Below w'.heap.size w' w'') :
  Calls Tryz.prog 178 #[.int .i64 r,.int .i64 c,.func (.func fn) #[] caps] w fun e w'=>∃ v,e = .returned v∧NewM w.heap.size w' r c (mkM r c f) v∧Below w.heap.size w w':=by
 obtain ⟨i0,hi0,hz0,hz1,hz2⟩:=info_parts infoBits
 have HS:=hide hstep;have HF:=hide hf
 have hm:(r:Int) * (c:Int) = ((r * c:Nat):Int):=cast_mul10 r c
 have h36:r * c≤36:=Nat.mul_le_mul hr hc
 have X0:=hide (BoxM.new w (.int .i64 0) (.int .i64 0) (.slice none 0 0))
 have B0:=hide (below_alloc9 w (.cells #[.int .i64 0,.int .i64 0,.slice none 0 0] 24))
 obtain ⟨w1,hmk,own1,gr1⟩:=run_make_own (P:=Tryz.prog) (w.alloc (.cells #[.int .i64 0,.int .i64 0,.slice none 0 0] 24)) (w.heap.size+1) 22 37 i0 (.int .u64 0) 1 Tryz.underlying22 hi0 hz0 hz1 .i64 .i64 (r * c) (by rw [hz2];omega) (by unfold maxLen;omega) (by simp)
 have B1:=hide ((uH B0).grown gr1 (by simp) (fun g hg=>by cases hg))
 have X1:BoxM w1 w.heap.size (.int .i64 0) (.int .i64 0) (.slice none 0 0):=(uH X0).grown gr1 (by simp)
 have O1:=hide (show OwnB (w.heap.size+1) w1 (.slice (some ⟨w.heap.size+1,0,none⟩) 0 (r * c)) (fsL (fun p=>f (p / c) (p % c)) (0 * c)) from ⟨by rw [Nat.zero_mul];simpa [fsL] using own1,by rw [Nat.zero_mul];intro x hx;cases hx⟩)
 have HX1:=hide X1
 clear own1 gr1 X0 B0 X1
 obtain ⟨F,hF⟩:∃ F:Nat→Nat,F = fun p=>f (p / c) (p % c):=⟨_,rfl⟩
 rw [← hF] at O1
 have FV:=hide (show ∀ j k,k < c→F (j * c+k) = f j k from fun j k hk=>by rw [hF];show f ((j * c+k) / c) ((j * c+k) % c) = _;rw [place_div hk,place_mod hk])
 have FM:=hide (show mkM r c f = fsL F (r * c) from by rw [hF];rfl)
 rw [uH FM]
 generalize hrc:r * c = n at *
 have HRC:=hide hrc
 clear hrc hstep hf hF
 go_enter Tryz.func178,Tryz.ntmps178
 go_wp2_with fail
 clear hmk
 go_loopw [7,15] (fun v i wr=>∃ j:Nat,j≤r∧i = .int .i64 j∧Hid (OwnB (w.heap.size+1) wr v (fsL F (j * c)))∧Hid (BoxM wr w.heap.size (.int .i64 0) (.int .i64 0) (.slice none 0 0))∧Hid (Below w.heap.size w wr)) (fun _ i _=>r - (intOf i).toNat)
 case atStart=>exact ⟨0,Nat.zero_le _,rfl,O1,HX1,B1⟩
 case round =>
  clear O1 HX1 B1
  obtain ⟨j,hj,rfl,hO,hX,hB⟩:=hrel
  by_cases hlt:j < r
  ·have hjI:(j:Int) < (r:Int):=by omega
   have hO':=hide (show OwnB (w.heap.size+1) wr _ (fsL F (j * c+0)) from uH hO)
   clear hO
   go_wp2_with fail
   go_loopw [7,19] (fun v i wr=>∃ k:Nat,k≤c∧i = .int .i64 k∧Hid (OwnB (w.heap.size+1) wr v (fsL F (j * c+k)))∧Hid (BoxM wr w.heap.size (.int .i64 0) (.int .i64 0) (.slice none 0 0))∧Hid (Below w.heap.size w wr)) (fun _ i _=>c - (intOf i).toNat)
   case atStart=>exact ⟨0,Nat.zero_le _,rfl,hO',hX,hB⟩
   case round =>
    clear hO' hX hB
    obtain ⟨k,hk,rfl,hO,hX,hB⟩:=hrel
    by_cases hkc:k < c
    ·have hkI:(k:Int) < (c:Int):=by omega
     have C:=hide (fun w' h=>uH HS w' j k h hlt hkc)
     have ho:=hide (uH HF j k hlt hkc)
     have eo:=hide (uH FV j k hkc)
     have hlen:=hide (show (fsL F (j * c+k)).length≤1000000 from by
      rw [fsL_len]
      have:=place_lt hlt hkc
      rw [uH HRC] at this
      omega)
     generalize f j k = o at *
     go_wp2_with fail
     refine (uH C _ hB.out).mono ?_
     rintro e w2 ⟨rfl,hb2⟩
     have own2:=(uH hO).below hb2
     have box2:=(uH hX).all hb2
     have B2:=hB.out.trans (hb2.mono hB.out.size)
     obtain ⟨v3,w3,run3,own3,bel3,_,_⟩:=own2.push o (uH ho) (uH hlen) (by have:=box2.lt;omega) 22
     have RUN:=hide run3
     have O3:=hide (show OwnB (w.heap.size+1) w3 v3 (fsL F (j * c+(k+1))) from by
      rw [← Nat.add_assoc,fsL_succ,uH eo];exact own3)
     have X3:=hide (box2.below bel3 (by omega))
     have B3:=hide (B2.trans (bel3.mono (by omega)))
     clear hb2 C hO hX hB own2 box2 B2 run3 own3 bel3 ho eo hlen
     go_wp2_with (at_builtin;refine wpList_append_ran _ rfl _ _ 22 rfl _ _ _ _ rfl rfl (uH RUN) ?_;clear RUN)
     go_round
     case rel=>exact ⟨k+1,by omega,by go_num,O3,X3,B3⟩
     case measure=>simp [intOf];omega
    ·have hkk:k = c:=by omega
     subst hkk
     have hO':=hide (show OwnB (w.heap.size+1) _ _ (fsL F ((j+1) * k)) from by rw [Nat.add_mul,Nat.one_mul];exact uH hO)
     clear hO
     go_wp2_with fail
     go_round
     case rel=>exact ⟨j+1,by omega,by go_num,hO',hX,hB⟩
     case measure=>simp [intOf];omega
  ·have hjj:j = r:=by omega
   subst hjj
   rw [uH HRC] at hO
   obtain ⟨b1,d1,e1,q1⟩:=(uH hO).bits
   have hown:=(uH hO).1
   rw [fsL_len] at e1
   subst e1
   have HNew:=hide ((uH hO).newB.least (Nat.le_succ w.heap.size))
   have s0:=(uH hX).c0;have s1:=(uH hX).c1;have s2:=(uH hX).c2
   have f0:=(uH hX).free 0;have f1:=(uH hX).free 1;have f2:=(uH hX).free 2
   have XP:=(uH hX).put (.int .i64 j) (.int .i64 c) (.slice b1 n d1)
   have z0:=XP.c0;have z1:=XP.c1;have z2:=XP.c2
   have QP:=hide (q1.putM (uH hX) (.int .i64 j) (.int .i64 c) (.slice b1 n d1))
   have BP:=hide (below_putM (uH hB) (Nat.le_refl _) (.int .i64 j) (.int .i64 c) (.slice b1 n d1))
   clear q1 hown hO hX hB XP
   go_wp2
   exact bodyPost_ret (v:=.agg #[.int .i64 j,.int .i64 c,.slice b1 n d1]) (by simp [results,Tryz.results178,go_sem,z0,z1,z2]) rfl ⟨_,rfl,⟨b1,d1,by rw [fsL_len],uH HNew,uH QP⟩,uH BP⟩
end Go.Proofs.YtlnphkioddknfaaGreatDoor
