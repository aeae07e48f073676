/- Part 29 of the texts. -/
import Derived.Test.YtnnfjeieennffaaGreatDoorParte28
import Derived.Maps.AppendAt
import Derived.Test.YtnnfjeieennffaaGreatDoorParte26
set_option maxHeartbeats 2000000
set_option maxRecDepth 20000
namespace Go.Proofs.YtnnfjeieennffaaGreatDoor
open Go.RowKit
attribute [local go_sem ↓] Go.wp_at_zero Go.wp_at_succ
def BoxM (w:World) (b:Nat) (x y z:Value):Prop:=w.heap[b]? = some (.cells #[x,y,z] 24 (0,0))
theorem BoxM.c0 {w:World} {b:Nat} {x y z:Value} (h:BoxM w b x y z):w.cell? ⟨b,0,none⟩ = some x:=by rw [cell_of_row w b 0 _ _ _ h];rfl
theorem BoxM.c1 {w:World} {b:Nat} {x y z:Value} (h:BoxM w b x y z):w.cell? ⟨b,1,none⟩ = some y:=by rw [cell_of_row w b 1 _ _ _ h];rfl
theorem BoxM.c2 {w:World} {b:Nat} {x y z:Value} (h:BoxM w b x y z):w.cell? ⟨b,2,none⟩ = some z:=by rw [cell_of_row w b 2 _ _ _ h];rfl
theorem BoxM.free {w:World} {b:Nat} {x y z:Value} (h:BoxM w b x y z) (j:Nat):w.frozen? ⟨b,j,none⟩ = false:=frozen_of_row w b j _ _ h
theorem BoxM.lt {w:World} {b:Nat} {x y z:Value} (h:BoxM w b x y z):b < w.heap.size:=(Array.getElem?_eq_some_iff.1 h).1
theorem BoxM.below {w w':World} {b:Nat} {x y z:Value} (h:BoxM w b x y z) {B:Nat} (hb:Below B w w') (hlt:b < B):BoxM w' b x y z:=(hb.block b hlt).trans h
theorem BoxM.new (w:World) (x y z:Value):BoxM (w.alloc (.cells #[x,y,z] 24)) w.heap.size x y z:=heap_alloc_new w _
theorem BoxM.all {w w':World} {b:Nat} {x y z:Value} (h:BoxM w b x y z) (hb:Below w.heap.size w w'):BoxM w' b x y z:=h.below hb h.lt
theorem BoxM.other {w:World} {b:Nat} {x y z:Value} (h:BoxM w b x y z) {p:Addr} (hp:b ≠ p.block) (u:Value):BoxM (w.setCell p u) b x y z:=(Below.heap_setCell w p u b hp).trans h
theorem BoxM.put {w:World} {b:Nat} {x y z:Value} (h:BoxM w b x y z) (u u' u'':Value):BoxM (((w.setCell ⟨b,0,none⟩ u).setCell ⟨b,1,none⟩ u').setCell ⟨b,2,none⟩ u'') b u u' u'':=by
 have h1:=heap_setCell_same w b 0 _ _ u h
 have h2:=heap_setCell_same (w.setCell ⟨b,0,none⟩ u) b 1 _ _ u' h1
 have h3:=heap_setCell_same ((w.setCell ⟨b,0,none⟩ u).setCell ⟨b,1,none⟩ u') b 2 _ _ u'' h2
 unfold BoxM
 rw [h3]
 simp
theorem below_putM {w w':World} {B b:Nat} (h:Below B w w') (hb:B≤b) (u u' u'':Value):Below B w (((w'.setCell ⟨b,0,none⟩ u).setCell ⟨b,1,none⟩ u').setCell ⟨b,2,none⟩ u'') :=
 ((h.setCell hb _).setCell hb _).setCell hb _
theorem BoxM.grown {w w':World} {b:Nat} {x y z:Value} (h:BoxM w b x y z) {o:Option Nat} (hg:w.grownBy w' o) (ho:o ≠ some b):BoxM w' b x y z :=
 (hg.block b h.lt ho.symm).trans h
def rgB (r c:Int):Bool:=decide (0≤r∧r≤6∧0≤c∧c≤6)
def okB (r c:Int) (n:Nat):Bool:=decide ((0≤r∧r≤6∧0≤c∧c≤6)∧(n:Int) = r * c)
theorem inRange_any (r c:Int) (w:World) :
  Calls Tryz.prog 94 #[.int .i64 r,.int .i64 c] w fun e w'=>e = .returned (.bool (rgB r c))∧w = w':=by
 rcases (show (r < 0∧rgB r c = false) ∨ (0≤r∧6 < r∧rgB r c = false) ∨ (0≤r∧r≤6∧c < 0∧rgB r c = false) ∨ (0≤r∧r≤6∧0≤c∧6 < c∧rgB r c = false) ∨ (0≤r∧r≤6∧0≤c∧c≤6∧rgB r c = true) by
  unfold rgB
  by_cases h:0≤r∧r≤6∧0≤c∧c≤6
  ·rw [decide_eq_true h];simp;omega
  ·rw [decide_eq_false h];simp;omega) with ⟨h1,e⟩ | ⟨h1,h2,e⟩ | ⟨h1,h2,h3,e⟩ | ⟨h1,h2,h3,h4,e⟩ | ⟨h1,h2,h3,h4,e⟩
 all_goals
  rw [e]
  clear e
  go_enter Tryz.func94,Tryz.ntmps94
  go_wp2
  go_ret
  refine ⟨?_,rfl⟩
  first | rfl | (simp;omega)
theorem mcheck_any (r c:Int) (ao:Option Addr) (n cap:Nat) (w:World) (hn:n≤35184372088830) :
  Calls Tryz.prog 51 #[.agg #[.int .i64 r,.int .i64 c,.slice ao n cap]] w fun e w'=>e = .returned (.int .i64 (if okB r c n = true then 0 else 1))∧Below w.heap.size w w':=by
 have HC:=hide (fun w'=>inRange_any r c w')
 have hb0:=hide (below_alloc9 w (.cells #[.int .i64 r,.int .i64 c,.slice ao n cap] 24))
 by_cases hr:0≤r∧r≤6∧0≤c∧c≤6
 ·have e1:rgB r c = true:=decide_eq_true hr
  rw [e1] at HC
  have hm:∃ m:Nat,r * c = (m:Int)∧m≤36:=by
   obtain ⟨a,rfl⟩:=Int.eq_ofNat_of_zero_le hr.1
   obtain ⟨b,rfl⟩:=Int.eq_ofNat_of_zero_le hr.2.2.1
   refine ⟨a * b,by simp,?_⟩
   have:a * b≤6 * 6:=Nat.mul_le_mul (by omega) (by omega)
   omega
  obtain ⟨m,hm,h36⟩:=hm
  by_cases hq:n = m
  ·have e2:okB r c n = true:=decide_eq_true ⟨hr,by rw [hm,hq]⟩
   rw [if_pos e2]
   subst hq
   clear e1 e2 hr
   go_enter Tryz.func51,Tryz.ntmps51
   go_wp2_with fail
   refine (uH HC _).mono ?_
   rintro e w1 ⟨rfl,rfl⟩
   clear HC
   go_wp2
   go_ret
   exact ⟨rfl,uH hb0⟩
  ·have e2:okB r c n = false:=decide_eq_false (fun h=>hq (by have:=h.2;omega))
   rw [if_neg (by rw [e2];decide)]
   have hq2:decide ((n:Int) = (m:Int)) = false:=decide_eq_false (by omega)
   clear e1 e2 hr
   go_enter Tryz.func51,Tryz.ntmps51
   go_wp2_with fail
   refine (uH HC _).mono ?_
   rintro e w1 ⟨rfl,rfl⟩
   clear HC
   go_wp2
   go_ret
   exact ⟨rfl,uH hb0⟩
 ·have e1:rgB r c = false:=decide_eq_false hr
  rw [e1] at HC
  have e2:okB r c n = false:=decide_eq_false (fun h=>hr h.1)
  rw [if_neg (by rw [e2];decide)]
  clear e1 e2 hr
  go_enter Tryz.func51,Tryz.ntmps51
  go_wp2_with fail
  refine (uH HC _).mono ?_
  rintro e w1 ⟨rfl,rfl⟩
  clear HC
  go_wp2
  go_ret
  exact ⟨rfl,uH hb0⟩
end Go.Proofs.YtnnfjeieennffaaGreatDoor
namespace Go.Proofs.YtnnfjeieennffaaGreatDoor
open Go.RowKit
def mxL (S:List Nat):List Int:=S.map (fun x:Nat=>(x:Int))
theorem mxL_len (S:List Nat):(mxL S).length = S.length:=by simp [mxL]
theorem mxL_at (S:List Nat) (j:Nat):atB (mxL S) j = S.getD j 0:=by
 unfold mxL atB
 rw [List.getElem?_map,List.getD_eq_getElem?_getD]
 cases S[j]? <;> simp
theorem mxL_natL {w:World} {ao:Option Addr} {c:Nat} {I:List Int} (h:BitsAt w ao c I):mxL (natL I) = I:=natL_back h
theorem natL_mxL (S:List Nat):natL (mxL S) = S:=by
 unfold natL mxL
 rw [List.map_map]
 refine (List.map_congr_left fun x _=>?_).trans (List.map_id S)
 simp
theorem BitsAt.nat {w:World} {ao:Option Addr} {c:Nat} {S:List Nat} (h:BitsAt w ao c (mxL S)):∀ x ∈ S,x < 18446744073709551616:=by
 intro x hx
 have:=h.2.1 (x:Int) (List.mem_map.2 ⟨x,hx,rfl⟩)
 omega
theorem BitsAt.none (w:World) (c:Nat):BitsAt w .none c (mxL []):=⟨by simp [mxL],by simp [mxL],.inl rfl⟩
theorem BitsAt.nilAt (w:World) (ao:Option Addr) (c:Nat):BitsAt w ao c (mxL []):=⟨by simp [mxL],by simp [mxL],.inl rfl⟩
theorem BitsAt.putM {w:World} {ao:Option Addr} {c:Nat} {I:List Int} (h:BitsAt w ao c I) {g:Nat} {x y:Int} {a:Option Addr} {n d:Nat} (hx:BoxM w g (.int .i64 x) (.int .i64 y) (.slice a n d)) (u u' u'':Value) :
  BitsAt (((w.setCell ⟨g,0,.none⟩ u).setCell ⟨g,1,.none⟩ u').setCell ⟨g,2,.none⟩ u'') ao c I:=by
 refine ⟨h.1,h.2.1,?_⟩
 rcases h.2.2 with h0 | ⟨b,off,h1,h2,h3⟩
 ·exact .inl h0
 ·by_cases he:I = []
  ·exact .inl he
  ·have hp:0 < I.length:=List.length_pos_iff.2 he
   have hne:b ≠ g:=by
    rintro rfl
    have h4:=h3 0 hp
    rw [cell_of_row w b (off+0) _ _ _ hx] at h4
    rcases (show off = 0 ∨ off = 1 ∨ off = 2 ∨ 3≤off by omega) with e | e | e | e
    ·subst e;simp at h4
    ·subst e;simp at h4
    ·subst e;simp at h4
    ·rw [Array.getElem?_eq_none (by simp;omega)] at h4;simp at h4
   refine .inr ⟨b,off,h1,by simpa [World.setCell] using h2,fun i hi=>?_⟩
   rw [cell_setCell_other _ _ _ _ (by simpa using hne),cell_setCell_other _ _ _ _ (by simpa using hne),cell_setCell_other _ _ _ _ (by simpa using hne)]
   exact h3 i hi
def Mx (w:World) (ao:Option Addr) (cap r c:Nat) (S:List Nat):Prop:=BitsAt w ao cap (mxL S)∧S.length = r * c∧r≤6∧c≤6
theorem Mx.below {w w':World} {ao:Option Addr} {cap r c:Nat} {S:List Nat} (h:Mx w ao cap r c S) (hb:Below w.heap.size w w'):Mx w' ao cap r c S:=⟨h.1.below hb,h.2⟩
theorem Mx.small {w:World} {ao:Option Addr} {cap r c:Nat} {S:List Nat} (h:Mx w ao cap r c S):S.length≤36:=by
 rw [h.2.1]
 exact Nat.mul_le_mul h.2.2.1 h.2.2.2
theorem Mx.el_lt {w:World} {ao:Option Addr} {cap r c:Nat} {S:List Nat} (h:Mx w ao cap r c S) (i k:Nat):elM c S i k < 18446744073709551616:=by
 unfold elM
 rw [List.getD_eq_getElem?_getD]
 by_cases g:i * c+k < S.length
 ·rw [List.getElem?_eq_getElem g];exact h.1.nat _ (List.getElem_mem g)
 ·rw [List.getElem?_eq_none (by omega)];decide
theorem Mx.cells {w:World} {ao:Option Addr} {cap r c:Nat} {S:List Nat} (h:Mx w ao cap r c S) {i k:Nat} (hi:i < r) (hk:k < c):∃ b off,ao = some ⟨b,off,.none⟩∧b < w.heap.size∧w.cell? ⟨b,off+(i * c+k),.none⟩ = some (.int .u64 (elM c S i k:Nat))∧i * c+k < S.length:=by
 have hp:i * c+k < S.length:=by rw [h.2.1];exact place_lt hi hk
 obtain ⟨b,off,e1,e2,e3⟩:=h.1.ne (by rw [mxL_len];omega)
 refine ⟨b,off,e1,e2,?_,hp⟩
 rw [e3 _ (by rw [mxL_len];exact hp),mxL_at]
 rfl
theorem mx_ok {w:World} {ao:Option Addr} {cap r c:Nat} {S:List Nat} (h:Mx w ao cap r c S):okB (r:Int) (c:Int) S.length = true:=by
 refine decide_eq_true ⟨⟨by omega,?_,by omega,?_⟩,?_⟩
 ·have:=h.2.2.1;omega
 ·have:=h.2.2.2;omega
 ·rw [h.2.1];simp
theorem Mx.of {w:World} {ao:Option Addr} {cap:Nat} {I:List Int} {r c:Int} (h:BitsAt w ao cap I) (ho:okB r c I.length = true):∃ p q:Nat,r = (p:Int)∧c = (q:Int)∧Mx w ao cap p q (natL I)∧mxL (natL I) = I:=by
 obtain ⟨⟨h1,h2,h3,h4⟩,h5⟩:=of_decide_eq_true ho
 obtain ⟨p,rfl⟩:=Int.eq_ofNat_of_zero_le h1
 obtain ⟨q,rfl⟩:=Int.eq_ofNat_of_zero_le h3
 refine ⟨p,q,rfl,rfl,⟨by rw [mxL_natL h];exact h,?_,by omega,by omega⟩,mxL_natL h⟩
 rw [natL_len]
 have:((p * q:Nat):Int) = (p:Int) * (q:Int):=by simp
 omega
def NewM (H:Nat) (w':World) (r c:Nat) (S:List Nat) (v:Value):Prop:=∃ ao cap,v = .agg #[.int .i64 r,.int .i64 c,.slice ao S.length cap]∧NewB H ao (mxL S)∧BitsAt w' ao cap (mxL S)
theorem NewM.zero (H:Nat) (w:World):NewM H w 0 0 [] (.agg #[.int .i64 0,.int .i64 0,.slice .none 0 0]):=⟨.none,0,rfl,.inl rfl,BitsAt.none w 0⟩
theorem NewM.least {H H':Nat} {w:World} {r c:Nat} {S:List Nat} {v:Value} (h:NewM H w r c S v) (hh:H'≤H):NewM H' w r c S v:=by
 obtain ⟨ao,cap,h1,h2,h3⟩:=h
 refine ⟨ao,cap,h1,?_,h3⟩
 rcases h2 with e | ⟨b,off,e1,e2⟩
 ·exact .inl e
 ·exact .inr ⟨b,off,e1,Nat.le_trans hh e2⟩
end Go.Proofs.YtnnfjeieennffaaGreatDoor
namespace Go.Proofs.YtnnfjeieennffaaGreatDoor
open Go.RowKit
structure Mr where
 ao:Option Addr
 cap:Nat
 V:List Nat
 tau:Nat
 beta:Nat
def mrAt (R:List Mr) (k:Nat):Mr:=R[k]?.getD ⟨none,0,[],0,0⟩
def AvM (g:Option Nat) (x:Mr):Prop:=x.V = [] ∨ ∃ b off,x.ao = some ⟨b,off,none⟩∧some b ≠ g
theorem AvM.new {w:World} {x:Mr} (h:BitsAt w x.ao x.cap (mxL x.V)) {g:Nat} (hg:w.heap.size≤g):AvM (some g) x:=by
 rcases h.2.2 with e | ⟨b,off,e,hb,_⟩
 ·exact .inl (by cases hV:x.V with
   | nil=>rfl
   | cons y ys=>rw [hV] at e;cases e)
 ·exact .inr ⟨b,off,e,by intro e;cases e;omega⟩
theorem bits_grownAv {w w':World} {x:Mr} {g:Option Nat} (h:BitsAt w x.ao x.cap (mxL x.V)) (ha:AvM g x) (hg:w.grownBy w' g):BitsAt w' x.ao x.cap (mxL x.V):=by
 refine ⟨h.1,h.2.1,?_⟩
 rcases h.2.2 with e | ⟨b,off,e,hb,hc⟩
 ·exact .inl e
 ·rcases ha with e' | ⟨b',off',e',hne⟩
  ·exact .inl (by rw [e'];rfl)
  ·rw [e] at e'
   simp only [Option.some.injEq,Addr.mk.injEq] at e'
   obtain ⟨rfl,rfl,_⟩:=e'
   refine .inr ⟨b,off,e,Nat.lt_of_lt_of_le hb hg.size,fun i hi=>?_⟩
   rw [World.cell?_of_block (a:=⟨b,off+i,none⟩) (hg.block b hb hne)]
   exact hc i hi
theorem ownsRow_grownM {w w':World} {base e size n:Nat} {v:Value} {xs:List Value} {g:Option Nat} (h:w.ownsRow base e size v n xs) (hg:w.grownBy w' g) (hne:∀ k,v.ownBlock = some k→some k ≠ g):w'.ownsRow base e size v n xs:=by
 refine ⟨h.1,?_⟩
 rcases h.2 with h | ⟨k,cap,cur,hv,hb,hh,hr⟩
 ·exact .inl h
 ·have hk:k < w.heap.size:=(Array.getElem?_eq_some_iff.1 hh).1
  exact .inr ⟨k,cap,cur,hv,hb,(hg.block k hk (hne k (by rw [hv];rfl))).trans hh,hr⟩
end Go.Proofs.YtnnfjeieennffaaGreatDoor
namespace Go.Proofs.YtnnfjeieennffaaGreatDoor
open Go.RowKit
def Mr.pair (x:Mr):List Value:=[.slice x.ao x.V.length x.cap,.int .u64 (x.tau:Nat)]
def mtCells (R:List Mr):List Value:=R.flatMap Mr.pair
theorem mtCells_get:∀ (R:List Mr) (k:Nat),k < R.length→(mtCells R)[k * 2]? = some (.slice (mrAt R k).ao (mrAt R k).V.length (mrAt R k).cap)∧(mtCells R)[k * 2+1]? = some (.int .u64 ((mrAt R k).tau:Nat))
 | x :: R,0,_=>by simp [mtCells,mrAt,Mr.pair]
 | x :: R,k+1,h=>by
  have:=mtCells_get R k (by simpa using h)
  have e:mtCells (x :: R) = .slice x.ao x.V.length x.cap :: .int .u64 (x.tau:Nat) :: mtCells R:=rfl
  rw [e,show (k+1) * 2 = k * 2+1+1 by omega]
  simpa [mrAt] using this
def OwnMt (base:Nat) (w:World) (v:Value) (R:List Mr):Prop:=w.ownsRow base 105 2 v R.length (mtCells R)∧∀ x ∈ R,BitsAt w x.ao x.cap (mxL x.V)∧AvM v.ownBlock x
theorem OwnMt.start (w:World) (base:Nat):OwnMt base w (.slice none 0 0) []:=⟨⟨by rfl,.inl ⟨rfl,rfl⟩⟩,by simp⟩
theorem OwnMt.below {base:Nat} {w w':World} {v:Value} {R:List Mr} (h:OwnMt base w v R) (hb:Below w.heap.size w w'):OwnMt base w' v R :=
 ⟨ownsRow_grownM h.1 ⟨hb.os,hb.tape,hb.output,hb.size,fun k hk _=>hb.block k hk⟩ (fun k _=>by simp:∀ k,v.ownBlock = some k→some k ≠ none),fun x hx=>⟨((h.2 x hx).1).below hb,(h.2 x hx).2⟩⟩
theorem OwnMt.lt {base:Nat} {w:World} {v:Value} {R:List Mr} (h:OwnMt base w v R):∀ k,v.ownBlock = some k→base≤k∧k < w.heap.size:=h.1.lt
theorem infoMt:(Tryz.prog.info? 105).map (fun i=>(i.zero,i.size,i.bytes)) = some (some (.agg #[.slice none 0 0,.int .u64 0]),2,32):=by kernel_rfl
theorem OwnMt.push {base:Nat} {w:World} {v:Value} {R:List Mr} (h:OwnMt base w v R) (x:Mr) (hx:BitsAt w x.ao x.cap (mxL x.V)) (ha:AvM v.ownBlock x) (hl:R.length≤1000000) (hb:base≤w.heap.size) (ty:TypeId) :
  ∃ v' w',(Builtin.append_ #[64,64] ty #[v,.slice (some ⟨w.heap.size,0,none⟩) 1 1]).run Tryz.prog (w.alloc (.cells #[.slice x.ao x.V.length x.cap,.int .u64 (x.tau:Nat)] 105)) = .ok v' w'∧OwnMt base w' v' (R ++ [x])∧Below base w w'∧(w.alloc (.cells #[.slice x.ao x.V.length x.cap,.int .u64 (x.tau:Nat)] 105)).grownBy w' v.ownBlock∧(v'.ownBlock = v.ownBlock ∨ v'.ownBlock = some (w.heap.size+1)):=by
 obtain ⟨i0,hi,hz0,hz1,hz2⟩:=info_parts infoMt
 have b1:=below_alloc9 w (.cells #[.slice x.ao x.V.length x.cap,.int .u64 (x.tau:Nat)] 105)
 have n1:=heap_alloc_new w (.cells #[.slice x.ao x.V.length x.cap,.int .u64 (x.tau:Nat)] 105)
 have s1:=size_alloc9 w (.cells #[.slice x.ao x.V.length x.cap,.int .u64 (x.tau:Nat)] 105)
 have h1:=h.below b1
 have hx1:=hx.below b1
 generalize w.alloc (.cells #[.slice x.ao x.V.length x.cap,.int .u64 (x.tau:Nat)] 105) = W at *
 obtain ⟨v',w',e1,e2,e3,e4,e5⟩:=run_append_own_at (P:=Tryz.prog) W base 64 ty 105 i0 (.agg #[.slice none 0 0,.int .u64 0]) 2 32 Tryz.underlying64 hi hz0 hz1 hz2 rfl (by decide) v R.length (mtCells R) h1.1 ⟨w.heap.size,0,none⟩ 1 1 x.pair rfl (fun j u hj=>by
   rw [show (⟨w.heap.size,0,none⟩:Addr).add j = ⟨w.heap.size,j,none⟩ from by unfold Addr.add;split <;> simp_all,cell_of_row _ w.heap.size j _ _ _ n1]
   simpa [Mr.pair] using hj) (fun u hu=>by
   simp [Mr.pair] at hu
   rcases hu with rfl | rfl <;> rfl) (by unfold maxLen;omega) (by omega) (by omega)
 ·refine ⟨v',w',e1,⟨?_,fun y hy=>?_⟩,(b1.mono hb).grown e3 (by omega) (fun g hg=>(h.1.lt g hg).1),e3,by rw [← s1];exact e5⟩
  ·rw [List.length_append,show mtCells (R ++ [x]) = mtCells R ++ x.pair by simp [mtCells]]
   exact e2
  ·have hy':BitsAt W y.ao y.cap (mxL y.V)∧AvM v.ownBlock y:=by
    rcases List.mem_append.1 hy with hy | hy
    ·exact h1.2 y hy
    ·simp at hy;subst hy;exact ⟨hx1,ha⟩
   refine ⟨bits_grownAv hy'.1 hy'.2 e3,?_⟩
   rcases e5 with e | e
   ·rw [e];exact hy'.2
   ·rw [e];exact AvM.new hy'.1 (Nat.le_refl _)
theorem OwnMt.putQ {base:Nat} {w:World} {v:Value} {R:List Mr} (h:OwnMt base w v R) {g:Nat} {x y:Int} {o:Option Addr} {n d:Nat} (hx:BoxM w g (.int .i64 x) (.int .i64 y) (.slice o n d)) (u u' u'':Value):OwnMt base (((w.setCell ⟨g,0,none⟩ u).setCell ⟨g,1,none⟩ u').setCell ⟨g,2,none⟩ u'') v R:=by
 refine ⟨⟨h.1.1,?_⟩,fun z hz=>⟨(h.2 z hz).1.putM hx u u' u'',(h.2 z hz).2⟩⟩
 rcases h.1.2 with e | ⟨k,cap,cur,hv,hk,hh,rest⟩
 ·exact .inl e
 ·have hne:k ≠ g:=by
   rintro rfl
   have e:=hh.symm.trans hx
   simp at e
  exact .inr ⟨k,cap,cur,hv,hk,(Below.heap_setCell _ ⟨g,2,none⟩ u'' k hne).trans ((Below.heap_setCell _ ⟨g,1,none⟩ u' k hne).trans ((Below.heap_setCell _ ⟨g,0,none⟩ u k hne).trans hh)),rest⟩
theorem OwnMt.grown {base:Nat} {w w':World} {v:Value} {R:List Mr} (h:OwnMt base w v R) {g:Nat} (hv:v.ownBlock ≠ some g) (ha:∀ x ∈ R,AvM (some g) x) (hg:w.grownBy w' (some g)):OwnMt base w' v R :=
 ⟨ownsRow_grownM h.1 hg (fun k hk e=>hv (by rw [hk,e])),fun x hx=>⟨bits_grownAv (h.2 x hx).1 (ha x hx) hg,(h.2 x hx).2⟩⟩
theorem OwnMt.slice {base:Nat} {w:World} {v:Value} {R:List Mr} (h:OwnMt base w v R):∃ lo lc,v = .slice lo R.length lc:=by
 rcases h.1.2 with ⟨e1,e2⟩ | ⟨g,cap,cur,hv,_⟩
 ·exact ⟨none,0,by rw [e1,e2]⟩
 ·exact ⟨_,_,hv⟩
theorem OwnMt.least {base b':Nat} {w:World} {v:Value} {R:List Mr} (h:OwnMt base w v R) (hb:b'≤base):OwnMt b' w v R:=by
 refine ⟨⟨h.1.1,?_⟩,h.2⟩
 rcases h.1.2 with e | ⟨k,cap,cur,hv,hk,rest⟩
 ·exact .inl e
 ·exact .inr ⟨k,cap,cur,hv,Nat.le_trans hb hk,rest⟩
theorem OwnMt.at {base:Nat} {w:World} {v:Value} {R:List Mr} (h:OwnMt base w v R) {k:Nat} (hk:k < R.length):∃ g cap,v = .slice (some ⟨g,0,none⟩) R.length cap∧base≤g∧g < w.heap.size∧w.cell? ⟨g,k * 2,none⟩ = some (.slice (mrAt R k).ao (mrAt R k).V.length (mrAt R k).cap)∧w.cell? ⟨g,k * 2+1,none⟩ = some (.int .u64 ((mrAt R k).tau:Nat))∧BitsAt w (mrAt R k).ao (mrAt R k).cap (mxL (mrAt R k).V):=by
 rcases h.1.2 with ⟨hv,h0⟩ | ⟨g,cap,cur,hv,hg,hh,hc,hm,hs,ht⟩
 ·omega
 ·obtain ⟨q1,q2⟩:=mtCells_get R k hk
  rw [← ht,List.getElem?_take] at q1 q2
  rw [if_pos (by omega)] at q1 q2
  simp only [Array.getElem?_toList] at q1 q2
  refine ⟨g,cap,hv,hg,(Array.getElem?_eq_some_iff.1 hh).1,?_,?_,(h.2 (mrAt R k) ?_).1⟩
  ·rw [cell_of_row w g _ _ _ _ hh];exact q1
  ·rw [cell_of_row w g _ _ _ _ hh];exact q2
  ·unfold mrAt
   rw [List.getElem?_eq_getElem hk]
   exact List.getElem_mem hk
end Go.Proofs.YtnnfjeieennffaaGreatDoor
namespace Go.Proofs.YtnnfjeieennffaaGreatDoor
open Go.RowKit
def dtV:Nat→List Nat→List Nat→Nat
 | s,x :: xs,y :: ys=>dtV (aV s (mV x y)) xs ys
 | s,_,_=>s
end Go.Proofs.YtnnfjeieennffaaGreatDoor
