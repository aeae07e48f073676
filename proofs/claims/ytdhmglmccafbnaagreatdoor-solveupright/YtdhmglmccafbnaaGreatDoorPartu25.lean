/- Part 25 of the texts. -/
import Derived.Test.YtdhmglmccafbnaaGreatDoorPartu24
set_option maxHeartbeats 4000000
set_option maxRecDepth 20000
namespace Go.Proofs.YtdhmglmccafbnaaGreatDoor
open Go.RowKit
def mxL (S:List Nat):List Int:=S.map (fun x:Nat=>(x:Int))
theorem mxL_len (S:List Nat):(mxL S).length = S.length:=by simp [mxL]
theorem mxL_at (S:List Nat) (j:Nat):atB (mxL S) j = S.getD j 0:=by
 unfold mxL atB
 rw [List.getElem?_map,List.getD_eq_getElem?_getD]
 cases S[j]? <;> simp
theorem mxL_natL {w:World} {ao:Option Addr} {c:Nat} {I:List Int} (h:BitsAt w ao c I):mxL (natL I) = I:=natL_back h
theorem BitsAt.nat {w:World} {ao:Option Addr} {c:Nat} {S:List Nat} (h:BitsAt w ao c (mxL S)):∀ x ∈ S,x < 18446744073709551616:=by
 intro x hx
 have:=h.2.1 (x:Int) (List.mem_map.2 ⟨x,hx,rfl⟩)
 omega
theorem BitsAt.none (w:World) (c:Nat):BitsAt w .none c (mxL []):=⟨by simp [mxL],by simp [mxL],.inl rfl⟩
theorem BitsAt.nilAt (w:World) (ao:Option Addr) (c:Nat):BitsAt w ao c (mxL []):=⟨by simp [mxL],by simp [mxL],.inl rfl⟩
theorem BitsAt.putM {w:World} {ao:Option Addr} {c:Nat} {I:List Int} (h:BitsAt w ao c I) {g:Nat} {x y:Int} {a:Option Addr} {n d:Nat} (hx:BoxM w g (.int .i64 x) (.int .i64 y) (.slice a n d)) (u u' u'':Value) :
  BitsAt (((w.setCell ⟨g,0,.none⟩ u).setCell ⟨g,1,.none⟩ u').setCell ⟨g,2,.none⟩ u'') ao c I:=by
 refine ⟨h.1,h.2.1,?_⟩
 rcases h.2.2 with h0 | ⟨b,off,h1,h2,h3⟩
 ·exact .inl h0
 ·by_cases he:I = []
  ·exact .inl he
  ·have hp:0 < I.length:=List.length_pos_iff.2 he
   have hne:b ≠ g:=by
    rintro rfl
    have h4:=h3 0 hp
    rw [cell_of_row w b (off+0) _ _ _ hx] at h4
    rcases (show off = 0 ∨ off = 1 ∨ off = 2 ∨ 3≤off by omega) with e | e | e | e
    ·subst e;simp at h4
    ·subst e;simp at h4
    ·subst e;simp at h4
    ·rw [Array.getElem?_eq_none (by simp;omega)] at h4;simp at h4
   refine .inr ⟨b,off,h1,by simpa [World.setCell] using h2,fun i hi=>?_⟩
   rw [cell_setCell_other _ _ _ _ (by simpa using hne),cell_setCell_other _ _ _ _ (by simpa using hne),cell_setCell_other _ _ _ _ (by simpa using hne)]
   exact h3 i hi
def Mx (w:World) (ao:Option Addr) (cap r c:Nat) (S:List Nat):Prop:=BitsAt w ao cap (mxL S)∧S.length = r * c∧r≤6∧c≤6
theorem Mx.below {w w':World} {ao:Option Addr} {cap r c:Nat} {S:List Nat} (h:Mx w ao cap r c S) (hb:Below w.heap.size w w'):Mx w' ao cap r c S:=⟨h.1.below hb,h.2⟩
theorem Mx.small {w:World} {ao:Option Addr} {cap r c:Nat} {S:List Nat} (h:Mx w ao cap r c S):S.length≤36:=by
 rw [h.2.1]
 exact Nat.mul_le_mul h.2.2.1 h.2.2.2
theorem Mx.el_lt {w:World} {ao:Option Addr} {cap r c:Nat} {S:List Nat} (h:Mx w ao cap r c S) (i k:Nat):elM c S i k < 18446744073709551616:=by
 unfold elM
 rw [List.getD_eq_getElem?_getD]
 by_cases g:i * c+k < S.length
 ·rw [List.getElem?_eq_getElem g];exact h.1.nat _ (List.getElem_mem g)
 ·rw [List.getElem?_eq_none (by omega)];decide
theorem Mx.cells {w:World} {ao:Option Addr} {cap r c:Nat} {S:List Nat} (h:Mx w ao cap r c S) {i k:Nat} (hi:i < r) (hk:k < c):∃ b off,ao = some ⟨b,off,.none⟩∧b < w.heap.size∧w.cell? ⟨b,off+(i * c+k),.none⟩ = some (.int .u64 (elM c S i k:Nat))∧i * c+k < S.length:=by
 have hp:i * c+k < S.length:=by rw [h.2.1];exact place_lt hi hk
 obtain ⟨b,off,e1,e2,e3⟩:=h.1.ne (by rw [mxL_len];omega)
 refine ⟨b,off,e1,e2,?_,hp⟩
 rw [e3 _ (by rw [mxL_len];exact hp),mxL_at]
 rfl
theorem mx_ok {w:World} {ao:Option Addr} {cap r c:Nat} {S:List Nat} (h:Mx w ao cap r c S):okB (r:Int) (c:Int) S.length = true:=by
 refine decide_eq_true ⟨⟨by omega,?_,by omega,?_⟩,?_⟩
 ·have:=h.2.2.1;omega
 ·have:=h.2.2.2;omega
 ·rw [h.2.1];simp
theorem Mx.of {w:World} {ao:Option Addr} {cap:Nat} {I:List Int} {r c:Int} (h:BitsAt w ao cap I) (ho:okB r c I.length = true):∃ p q:Nat,r = (p:Int)∧c = (q:Int)∧Mx w ao cap p q (natL I)∧mxL (natL I) = I:=by
 obtain ⟨⟨h1,h2,h3,h4⟩,h5⟩:=of_decide_eq_true ho
 obtain ⟨p,rfl⟩:=Int.eq_ofNat_of_zero_le h1
 obtain ⟨q,rfl⟩:=Int.eq_ofNat_of_zero_le h3
 refine ⟨p,q,rfl,rfl,⟨by rw [mxL_natL h];exact h,?_,by omega,by omega⟩,mxL_natL h⟩
 rw [natL_len]
 have:((p * q:Nat):Int) = (p:Int) * (q:Int):=by simp
 omega
def NewM (H:Nat) (w':World) (r c:Nat) (S:List Nat) (v:Value):Prop:=∃ ao cap,v = .agg #[.int .i64 r,.int .i64 c,.slice ao S.length cap]∧NewB H ao (mxL S)∧BitsAt w' ao cap (mxL S)
theorem NewM.zero (H:Nat) (w:World):NewM H w 0 0 [] (.agg #[.int .i64 0,.int .i64 0,.slice .none 0 0]):=⟨.none,0,rfl,.inl rfl,BitsAt.none w 0⟩
theorem NewM.least {H H':Nat} {w:World} {r c:Nat} {S:List Nat} {v:Value} (h:NewM H w r c S v) (hh:H'≤H):NewM H' w r c S v:=by
 obtain ⟨ao,cap,h1,h2,h3⟩:=h
 refine ⟨ao,cap,h1,?_,h3⟩
 rcases h2 with e | ⟨b,off,e1,e2⟩
 ·exact .inl e
 ·exact .inr ⟨b,off,e1,Nat.le_trans hh e2⟩
end Go.Proofs.YtdhmglmccafbnaaGreatDoor
namespace Go.Proofs.YtdhmglmccafbnaaGreatDoor
open Go.RowKit
attribute [local go_sem ↓] Go.wp_at_zero Go.wp_at_succ
theorem mat_of (r c n cap b off i k q x:Nat) (w:World) (hq:(i:Int) * (c:Int) = (q:Int)) (hlt:q+k < n) (hn:n≤36)
  (hx:w.cell? ⟨b,off+(q+k),none⟩ = some (.int .u64 (x:Nat))) :
  Calls Tryz.prog 183 #[.agg #[.int .i64 r,.int .i64 c,.slice (some ⟨b,off,none⟩) n cap],.int .i64 i,.int .i64 k] w fun e w'=>e = .returned (.int .u64 (x:Nat))∧Below w.heap.size w w':=by
 have hb0:=hide (below_alloc9 w (.cells #[.int .i64 r,.int .i64 c,.slice (some ⟨b,off,none⟩) n cap] 25))
 have cx:=cell_keep hx (uH hb0)
 clear hx
 have hkI:(q:Int)+(k:Int) < (n:Int):=by omega
 go_enter Tryz.func183,Tryz.ntmps183
 go_wp2
 go_ret
 exact ⟨rfl,uH hb0⟩
theorem cast_mul10 (i c:Nat):(i:Int) * (c:Int) = ((i * c:Nat):Int):=by simp
theorem mat_any (r c cap i k:Nat) (ao:Option Addr) (S:List Nat) (w:World) (h:Mx w ao cap r c S) (hi:i < r) (hk:k < c) :
  Calls Tryz.prog 183 #[.agg #[.int .i64 r,.int .i64 c,.slice ao S.length cap],.int .i64 i,.int .i64 k] w fun e w'=>e = .returned (.int .u64 (elM c S i k:Nat))∧Below w.heap.size w w':=by
 obtain ⟨b,off,rfl,h2,h3,h4⟩:=h.cells hi hk
 exact mat_of r c S.length cap b off i k (i * c) _ w (cast_mul10 i c) h4 h.small h3
def rwL (c:Nat) (S:List Nat) (i:Nat):List Nat:=(List.range c).map (fun k=>elM c S i k)
theorem rwL_len (c:Nat) (S:List Nat) (i:Nat):(rwL c S i).length = c:=by simp [rwL]
theorem rwL_at (c:Nat) (S:List Nat) (i k:Nat) (h:k < c):(rwL c S i).getD k 0 = elM c S i k:=by simp [rwL,List.getD_eq_getElem?_getD,h]
theorem row_of (r c n cap i q p:Nat) (ao:Option Addr) (w:World) (hq:(i:Int) * (c:Int) = (q:Int)) (hp:((i:Int)+1) * (c:Int) = (p:Int)) (hqp:q≤p) (hlt:p≤n) (hnc:n≤cap) (hn:n≤36) (hi:i≤6) :
  Calls Tryz.prog 192 #[.agg #[.int .i64 r,.int .i64 c,.slice ao n cap],.int .i64 i] w fun e w'=>e = .returned (.slice (if cap = q then ao else ao.map (·.add (q * 1))) (p - q) (cap - q))∧Below w.heap.size w w':=by
 have hb0:=hide (below_alloc9 w (.cells #[.int .i64 r,.int .i64 c,.slice ao n cap] 25))
 by_cases h:cap = q
 ·subst h
  rw [if_pos rfl]
  go_enter Tryz.func192,Tryz.ntmps192
  go_wp2
  go_ret
  exact ⟨by simp,uH hb0⟩
 ·rw [if_neg h]
  go_enter Tryz.func192,Tryz.ntmps192
  go_wp2
  go_ret
  exact ⟨by simp,uH hb0⟩
theorem row_bits {w w':World} {ao:Option Addr} {cap r c:Nat} {S:List Nat} (h:Mx w ao cap r c S) (hb:Below w.heap.size w w') {i:Nat} (hi:i < r):BitsAt w' (if cap = i * c then ao else ao.map (·.add (i * c * 1))) (cap - i * c) (mxL (rwL c S i)):=by
 have hp:(i+1) * c≤S.length:=by rw [h.2.1];exact Nat.mul_le_mul_right c hi
 rw [Nat.add_mul,Nat.one_mul] at hp
 have hc:=h.1.1
 rw [mxL_len] at hc
 refine ⟨by rw [mxL_len,rwL_len];omega,?_,?_⟩
 ·intro x hx
  obtain ⟨y,hy,rfl⟩:=List.mem_map.1 hx
  obtain ⟨k,_,rfl⟩:=List.mem_map.1 hy
  have:=h.el_lt i k
  omega
 ·rcases Nat.eq_zero_or_pos c with e | e
  ·subst e;exact .inl rfl
  ·obtain ⟨b,off,e1,e2,e3,e4⟩:=(h.below hb).cells hi e
   refine .inr ⟨b,off+i * c,?_,e2,fun k hk=>?_⟩
   ·rw [if_neg (by omega),e1]
    simp [Addr.add]
   ·have hk':k < c:=by rwa [mxL_len,rwL_len] at hk
    obtain ⟨b',off',f1,f2,f3,f4⟩:=(h.below hb).cells hi hk'
    rw [e1] at f1
    simp only [Option.some.injEq,Addr.mk.injEq] at f1
    obtain ⟨rfl,rfl,_⟩:=f1
    rw [Nat.add_assoc,f3]
    simp [mxL,rwL,hk']
theorem row_any (r c cap i:Nat) (ao:Option Addr) (S:List Nat) (w:World) (h:Mx w ao cap r c S) (hi:i < r) :
  Calls Tryz.prog 192 #[.agg #[.int .i64 r,.int .i64 c,.slice ao S.length cap],.int .i64 i] w fun e w'=>∃ bo d,e = .returned (.slice bo c d)∧BitsAt w' bo d (mxL (rwL c S i))∧Below w.heap.size w w':=by
 have hp:(i+1) * c≤S.length:=by rw [h.2.1];exact Nat.mul_le_mul_right c hi
 have hq:i * c≤(i+1) * c:=Nat.mul_le_mul_right c (by omega)
 have hc:=h.1.1
 rw [mxL_len] at hc
 have h6:=h.2.2.1
 refine (row_of r c S.length cap i (i * c) ((i+1) * c) ao w (cast_mul10 i c) (by simp) hq hp hc h.small (by omega)).mono ?_
 rintro e w' ⟨rfl,hb⟩
 rw [show (i+1) * c - i * c = c by rw [Nat.add_mul,Nat.one_mul];omega]
 exact ⟨_,_,rfl,row_bits h hb hi,hb⟩
theorem NewB.least {H H':Nat} {ao:Option Addr} {I:List Int} (h:NewB H ao I) (hh:H'≤H):NewB H' ao I:=by
 rcases h with e | ⟨b,off,e1,e2⟩
 ·exact .inl e
 ·exact .inr ⟨b,off,e1,Nat.le_trans hh e2⟩
theorem OwnB.newB {base:Nat} {w:World} {ao:Option Addr} {n cap:Nat} {S:List Nat} (h:OwnB base w (.slice ao n cap) S):NewB base ao (mxL S):=by
 rcases h.1.2 with ⟨_,h0⟩ | ⟨g,cap',cur,hv,hg,_⟩
 ·exact .inl (by rw [List.length_eq_zero_iff.1 h0];rfl)
 ·simp only [Value.slice.injEq] at hv
  exact .inr ⟨g,0,hv.1,hg⟩
theorem build_any (fn:Nat) (caps:Array Value) (r c:Nat) (f:Nat→Nat→Nat) (w:World)
  (hcf:∀ args w,(callFunc fn args).run Tryz.prog w = .ok (.enter fn args) w) (hr:r≤6) (hc:c≤6) (hf:∀ i k,i < r→k < c→f i k < 18446744073709551616)
  (hstep:∀ w' i k,Below w.heap.size w w'→i < r→k < c→Calls Tryz.prog fn (#[.int .i64 (i:Nat),.int .i64 (k:Nat)] ++ caps) w' fun e w''=>e = .returned (.int .u64 (f i k:Nat))∧Below w'.heap.size w' w'') :
  Calls Tryz.prog 181 #[.int .i64 r,.int .i64 c,.func (.func fn) #[] caps] w fun e w'=>∃ v,e = .returned v∧NewM w.heap.size w' r c (mkM r c f) v∧Below w.heap.size w w':=by
 obtain ⟨i0,hi0,hz0,hz1,hz2⟩:=info_parts infoBits
 have HS:=hide hstep;have HF:=hide hf
 have hm:(r:Int) * (c:Int) = ((r * c:Nat):Int):=cast_mul10 r c
 have h36:r * c≤36:=Nat.mul_le_mul hr hc
 have X0:=hide (BoxM.new w (.int .i64 0) (.int .i64 0) (.slice none 0 0))
 have B0:=hide (below_alloc9 w (.cells #[.int .i64 0,.int .i64 0,.slice none 0 0] 25))
 obtain ⟨w1,hmk,own1,gr1⟩:=run_make_own (P:=Tryz.prog) (w.alloc (.cells #[.int .i64 0,.int .i64 0,.slice none 0 0] 25)) (w.heap.size+1) 23 28 i0 (.int .u64 0) 1 Tryz.underlying23 hi0 hz0 hz1 .i64 .i64 (r * c) (by rw [hz2];omega) (by unfold maxLen;omega) (by simp)
 have B1:=hide ((uH B0).grown gr1 (by simp) (fun g hg=>by cases hg))
 have X1:BoxM w1 w.heap.size (.int .i64 0) (.int .i64 0) (.slice none 0 0):=(uH X0).grown gr1 (by simp)
 have O1:=hide (show OwnB (w.heap.size+1) w1 (.slice (some ⟨w.heap.size+1,0,none⟩) 0 (r * c)) (fsL (fun p=>f (p / c) (p % c)) (0 * c)) from ⟨by rw [Nat.zero_mul];simpa [fsL] using own1,by rw [Nat.zero_mul];intro x hx;cases hx⟩)
 have HX1:=hide X1
 clear own1 gr1 X0 B0 X1
 obtain ⟨F,hF⟩:∃ F:Nat→Nat,F = fun p=>f (p / c) (p % c):=⟨_,rfl⟩
 rw [← hF] at O1
 have FV:=hide (show ∀ j k,k < c→F (j * c+k) = f j k from fun j k hk=>by rw [hF];show f ((j * c+k) / c) ((j * c+k) % c) = _;rw [place_div hk,place_mod hk])
 have FM:=hide (show mkM r c f = fsL F (r * c) from by rw [hF];rfl)
 rw [uH FM]
 generalize hrc:r * c = n at *
 have HRC:=hide hrc
 clear hrc hstep hf hF
 go_enter Tryz.func181,Tryz.ntmps181
 go_wp2_with fail
 clear hmk
 go_loopw [7,15] (fun v i wr=>∃ j:Nat,j≤r∧i = .int .i64 j∧Hid (OwnB (w.heap.size+1) wr v (fsL F (j * c)))∧Hid (BoxM wr w.heap.size (.int .i64 0) (.int .i64 0) (.slice none 0 0))∧Hid (Below w.heap.size w wr)) (fun _ i _=>r - (intOf i).toNat)
 case atStart=>exact ⟨0,Nat.zero_le _,rfl,O1,HX1,B1⟩
 case round =>
  clear O1 HX1 B1
  obtain ⟨j,hj,rfl,hO,hX,hB⟩:=hrel
  by_cases hlt:j < r
  ·have hjI:(j:Int) < (r:Int):=by omega
   have hO':=hide (show OwnB (w.heap.size+1) wr _ (fsL F (j * c+0)) from uH hO)
   clear hO
   go_wp2_with fail
   go_loopw [7,19] (fun v i wr=>∃ k:Nat,k≤c∧i = .int .i64 k∧Hid (OwnB (w.heap.size+1) wr v (fsL F (j * c+k)))∧Hid (BoxM wr w.heap.size (.int .i64 0) (.int .i64 0) (.slice none 0 0))∧Hid (Below w.heap.size w wr)) (fun _ i _=>c - (intOf i).toNat)
   case atStart=>exact ⟨0,Nat.zero_le _,rfl,hO',hX,hB⟩
   case round =>
    clear hO' hX hB
    obtain ⟨k,hk,rfl,hO,hX,hB⟩:=hrel
    by_cases hkc:k < c
    ·have hkI:(k:Int) < (c:Int):=by omega
     have C:=hide (fun w' h=>uH HS w' j k h hlt hkc)
     have ho:=hide (uH HF j k hlt hkc)
     have eo:=hide (uH FV j k hkc)
     have hlen:=hide (show (fsL F (j * c+k)).length≤1000000 from by
      rw [fsL_len]
      have:=place_lt hlt hkc
      rw [uH HRC] at this
      omega)
     generalize f j k = o at *
     go_wp2_with fail
     refine (uH C _ hB.out).mono ?_
     rintro e w2 ⟨rfl,hb2⟩
     have own2:=(uH hO).below hb2
     have box2:=(uH hX).all hb2
     have B2:=hB.out.trans (hb2.mono hB.out.size)
     obtain ⟨v3,w3,run3,own3,bel3,_,_⟩:=own2.push o (uH ho) (uH hlen) (by have:=box2.lt;omega) 23
     have RUN:=hide run3
     have O3:=hide (show OwnB (w.heap.size+1) w3 v3 (fsL F (j * c+(k+1))) from by
      rw [← Nat.add_assoc,fsL_succ,uH eo];exact own3)
     have X3:=hide (box2.below bel3 (by omega))
     have B3:=hide (B2.trans (bel3.mono (by omega)))
     clear hb2 C hO hX hB own2 box2 B2 run3 own3 bel3 ho eo hlen
     go_wp2_with (at_builtin;refine wpList_append_ran _ rfl _ _ 23 rfl _ _ _ _ rfl rfl (uH RUN) ?_;clear RUN)
     go_round
     case rel=>exact ⟨k+1,by omega,by go_num,O3,X3,B3⟩
     case measure=>simp [intOf];omega
    ·have hkk:k = c:=by omega
     subst hkk
     have hO':=hide (show OwnB (w.heap.size+1) _ _ (fsL F ((j+1) * k)) from by rw [Nat.add_mul,Nat.one_mul];exact uH hO)
     clear hO
     go_wp2_with fail
     go_round
     case rel=>exact ⟨j+1,by omega,by go_num,hO',hX,hB⟩
     case measure=>simp [intOf];omega
  ·have hjj:j = r:=by omega
   subst hjj
   rw [uH HRC] at hO
   obtain ⟨b1,d1,e1,q1⟩:=(uH hO).bits
   have hown:=(uH hO).1
   rw [fsL_len] at e1
   subst e1
   have HNew:=hide ((uH hO).newB.least (Nat.le_succ w.heap.size))
   have s0:=(uH hX).c0;have s1:=(uH hX).c1;have s2:=(uH hX).c2
   have f0:=(uH hX).free 0;have f1:=(uH hX).free 1;have f2:=(uH hX).free 2
   have XP:=(uH hX).put (.int .i64 j) (.int .i64 c) (.slice b1 n d1)
   have z0:=XP.c0;have z1:=XP.c1;have z2:=XP.c2
   have QP:=hide (q1.putM (uH hX) (.int .i64 j) (.int .i64 c) (.slice b1 n d1))
   have BP:=hide (below_putM (uH hB) (Nat.le_refl _) (.int .i64 j) (.int .i64 c) (.slice b1 n d1))
   clear q1 hown hO hX hB XP
   go_wp2
   exact bodyPost_ret (v:=.agg #[.int .i64 j,.int .i64 c,.slice b1 n d1]) (by simp [results,Tryz.results181,go_sem,z0,z1,z2]) rfl ⟨_,rfl,⟨b1,d1,by rw [fsL_len],uH HNew,uH QP⟩,uH BP⟩
end Go.Proofs.YtdhmglmccafbnaaGreatDoor
namespace Go.Proofs.YtdhmglmccafbnaaGreatDoor
open Go.RowKit
def Clr (w:World) (g:Nat):Prop:=∃ cur e,w.heap[g]? = some (.cells cur e (0,0))∧∀ u ∈ cur.toList,noLimb u = true
theorem Clr.limbs {w:World} {g:Nat} (h:Clr w g) {ao:Option Addr} {cap:Nat} {L:List Nat} (hL:LimbsAt w ao cap L) (j:Nat) (u:Value):LimbsAt (w.setCell ⟨g,j,none⟩ u) ao cap L:=by
 refine ⟨hL.1,hL.2.1,?_⟩
 have hc:Clear w (.slice (some ⟨g,0,none⟩) 0 0):=fun k hk=>by cases hk;exact h
 rcases hc.limbs hL with e | ⟨b,off,h1,h2,h3,h4⟩
 ·exact .inl e
 ·have hne:b ≠ g:=fun e=>h3 (by rw [e];rfl)
  refine .inr ⟨b,off,h1,by simpa [World.setCell] using h2,fun i hi=>?_⟩
  rw [cell_setCell_other _ _ _ _ (show b ≠ g from hne)]
  exact h4 i hi
theorem Clr.num {B:Nat} {w:World} {g:Nat} (h:Clr w g) {v:Value} {z:Int} (hv:IsNum B w v z) (j:Nat) (u:Value):IsNum B (w.setCell ⟨g,j,none⟩ u) v z:=by
 obtain ⟨neg,ao,cap,L,h1,h2,h3⟩:=hv
 exact ⟨neg,ao,cap,L,h1,h.limbs h2 j u,h3⟩
theorem Clr.lv {w:World} {g:Nat} (h:Clr w g) {v:Value} {lo z:Int} (hv:IsLv w v lo z) (j:Nat) (u:Value):IsLv (w.setCell ⟨g,j,none⟩ u) v lo z:=by
 obtain ⟨neg,ao,cap,L,h1,h2⟩:=hv
 exact ⟨neg,ao,cap,L,h1,h.num h2 j u⟩
theorem Box3.clr {w:World} {b:Nat} {x:Bool} {a:Option Addr} {n c:Nat} {y:Int} (h:Box3 w b (.bool x) (.slice a n c) (.int .i64 y)):Clr w b :=
 ⟨_,_,h,fun u hu=>by simp at hu;rcases hu with rfl | rfl | rfl <;> rfl⟩
theorem Clr.set {w:World} {g:Nat} (h:Clr w g) (k j:Nat) {u:Value} (hu:noLimb u = true):Clr (w.setCell ⟨k,j,none⟩ u) g:=by
 obtain ⟨cur,e,h1,h2⟩:=h
 by_cases hk:g = k
 ·subst hk
  refine ⟨_,e,heap_setCell_same w g j _ _ u h1,fun x hx=>?_⟩
  rw [Array.toList_setIfInBounds] at hx
  rcases List.mem_or_eq_of_mem_set hx with hx | rfl
  ·exact h2 x hx
  ·exact hu
 ·exact ⟨cur,e,(Below.heap_setCell w ⟨k,j,none⟩ u g hk).trans h1,h2⟩
structure Dn where
 neg:Bool
 ao:Option Addr
 len:Nat
 cap:Nat
 e:Int
def Dn.v (x:Dn):Value:=.agg #[.bool x.neg,.slice x.ao x.len x.cap,.int .i64 x.e]
def Dn.cs (x:Dn):List Value:=[.bool x.neg,.slice x.ao x.len x.cap,.int .i64 x.e]
def dnAt (D:List Dn) (k:Nat):Dn:=D[k]?.getD ⟨false,none,0,0,0⟩
theorem cs_get:∀ (D:List Dn) (k:Nat),k < D.length→(D.flatMap Dn.cs)[k * 3]? = some (.bool (dnAt D k).neg)∧(D.flatMap Dn.cs)[k * 3+1]? = some (.slice (dnAt D k).ao (dnAt D k).len (dnAt D k).cap)∧(D.flatMap Dn.cs)[k * 3+2]? = some (.int .i64 (dnAt D k).e)
 | x :: D,0,_=>by simp [dnAt,Dn.cs]
 | x :: D,k+1,h=>by
  have:=cs_get D k (by simpa using h)
  have e:(x :: D).flatMap Dn.cs = .bool x.neg :: .slice x.ao x.len x.cap :: .int .i64 x.e :: D.flatMap Dn.cs:=rfl
  rw [e,show (k+1) * 3 = k * 3+1+1+1 by omega]
  simpa [dnAt] using this
def OwnD (base:Nat) (w:World) (v:Value) (n:Nat) (lo:Int) (f:Nat→Int):Prop :=
 ∃ D:List Dn,D.length = n∧w.ownsRow base 41 3 v n (D.flatMap Dn.cs)∧Clear w v∧∀ k,k < n→IsLv w (dnAt D k).v lo (f k)
theorem OwnD.below {base:Nat} {w w':World} {v:Value} {n:Nat} {lo:Int} {f:Nat→Int} (h:OwnD base w v n lo f) (hb:Below w.heap.size w w'):OwnD base w' v n lo f:=by
 obtain ⟨D,h1,h2,h3,h4⟩:=h
 exact ⟨D,h1,h2.kept (row:=none) ⟨hb.os,hb.tape,hb.output,hb.size,fun k hk _=>hb.block k hk⟩ (by cases hv:v.ownBlock <;> simp),h3.below hb,fun k hk=>(h4 k hk).below hb⟩
theorem OwnD.set {base:Nat} {w:World} {v:Value} {n:Nat} {lo:Int} {f:Nat→Int} (h:OwnD base w v n lo f) {g:Nat} (hc:Clr w g) (hg:g < base) (j:Nat) (u:Value):OwnD base (w.setCell ⟨g,j,none⟩ u) v n lo f:=by
 obtain ⟨D,h1,h2,h3,h4⟩:=h
 have hne:∀ k,v.ownBlock = some k→k ≠ g:=fun k hk=>by have:=(h2.lt k hk).1;omega
 refine ⟨D,h1,⟨h2.1,?_⟩,?_,fun k hk=>hc.lv (h4 k hk) j u⟩
 ·rcases h2.2 with e | ⟨k,cap,cur,hv,hk,hh,rest⟩
  ·exact .inl e
  ·exact .inr ⟨k,cap,cur,hv,hk,(Below.heap_setCell w ⟨g,j,none⟩ u k (hne k (by rw [hv];rfl))).trans hh,rest⟩
 ·intro k hk
  obtain ⟨cur,e,g1,g2⟩:=h3 k hk
  exact ⟨cur,e,(Below.heap_setCell w ⟨g,j,none⟩ u k (hne k hk)).trans g1,g2⟩
theorem infoDy:(Tryz.prog.info? 41).map (fun i=>(i.zero,i.size,i.bytes)) = some (some (.agg #[.bool false,.slice none 0 0,.int .i64 0]),3,40):=by kernel_rfl
theorem OwnD.push {base:Nat} {W:World} {v:Value} {n:Nat} {lo:Int} {f:Nat→Int} (h:OwnD base W v n lo f) (B:Nat) (x:Dn) (hx:IsLv W x.v lo (f n)) (hc:W.heap[B]? = some (.cells #[.bool x.neg,.slice x.ao x.len x.cap,.int .i64 x.e] 41 (0,0))) (hn:n≤1000000) (hb:base≤W.heap.size) (ty:TypeId) :
  ∃ po pc w',(Builtin.append_ #[97,97] ty #[v,.slice (some ⟨B,0,none⟩) 1 1]).run Tryz.prog W = .ok (.slice po (n+1) pc) w'∧(OwnD base w' (.slice po (n+1) pc) (n+1) lo f∧W.grownBy w' v.ownBlock):=by
 obtain ⟨i0,hi,hz0,hz1,hz2⟩:=info_parts infoDy
 obtain ⟨D,h1,h2,h3,h4⟩:=h
 obtain ⟨v',w',e1,e2,e3,e4,e5⟩:=run_append_clear (P:=Tryz.prog) W base 97 ty 41 i0 (.agg #[.bool false,.slice none 0 0,.int .i64 0]) 3 40 Tryz.underlying97 hi hz0 hz1 hz2 rfl (by decide) v n (D.flatMap Dn.cs) h2 ⟨B,0,none⟩ 1 1 (Dn.cs x) rfl
  (fun j u hu=>by
   rw [show (⟨B,0,none⟩:Addr).add j = ⟨B,j,none⟩ by unfold Addr.add;split <;> simp_all,cell_of_row W B j _ _ _ hc]
   simpa [Dn.cs] using hu)
  (fun u hu=>by simp [Dn.cs] at hu;rcases hu with rfl | rfl | rfl <;> rfl) (by unfold maxLen;omega) (by omega) hb (by omega) h3
  (fun u hu=>by simp [Value.cells] at hu;rcases hu with rfl | rfl | rfl <;> rfl) (fun u hu=>by simp [Dn.cs] at hu;rcases hu with rfl | rfl | rfl <;> rfl)
 have hv:∃ po pc,v' = .slice po (n+1) pc:=by
  rcases e2.2 with ⟨_,e⟩ | ⟨g,cap,cur,hv,_⟩
  ·omega
  ·exact ⟨_,_,hv⟩
 obtain ⟨po,pc,rfl⟩:=hv
 refine ⟨po,pc,w',e1,⟨D ++ [x],by simp [h1],by simpa using e2,e5,fun k hk=>?_⟩,e3⟩
 by_cases hk':k < n
 ·have:dnAt (D ++ [x]) k = dnAt D k:=by unfold dnAt;rw [List.getElem?_append_left (by omega)]
  rw [this]
  exact (h4 k hk').grownClear h3 e3
 ·obtain rfl:k = n:=by omega
  have:dnAt (D ++ [x]) k = x:=by unfold dnAt;rw [← h1,List.getElem?_append_right (Nat.le_refl _)];simp
  rw [this]
  exact hx.grownClear h3 e3
def DysAt (w:World) (ao:Option Addr) (cap n:Nat) (lo:Int) (f:Nat→Int):Prop :=
 n≤cap∧(n = 0 ∨ ∃ b off,ao = some ⟨b,off,none⟩∧b < w.heap.size∧∀ k,k < n→∃ x:Dn,w.cell? ⟨b,off+k * 3,none⟩ = some (.bool x.neg)∧w.cell? ⟨b,off+k * 3+1,none⟩ = some (.slice x.ao x.len x.cap)∧w.cell? ⟨b,off+k * 3+2,none⟩ = some (.int .i64 x.e)∧IsLv w x.v lo (f k))
theorem OwnD.dys {base:Nat} {w:World} {v:Value} {n:Nat} {lo:Int} {f:Nat→Int} (h:OwnD base w v n lo f):∃ ao cap,v = .slice ao n cap∧DysAt w ao cap n lo f:=by
 obtain ⟨D,h1,h2,h3,h4⟩:=h
 rcases h2.2 with ⟨hv,h0⟩ | ⟨g,cap,cur,hv,hg,hh,hc,hm,hs,ht⟩
 ·exact ⟨none,0,by rw [hv,h0],by omega,.inl h0⟩
 ·refine ⟨some ⟨g,0,none⟩,cap,hv,hc,.inr ⟨g,0,rfl,(Array.getElem?_eq_some_iff.1 hh).1,fun k hk=>⟨dnAt D k,?_⟩⟩⟩
  obtain ⟨q0,q1,q2⟩:=cs_get D k (by omega)
  rw [← ht,List.getElem?_take,if_pos (by omega),Array.getElem?_toList] at q0 q1 q2
  rw [cell_of_row w g _ _ _ _ hh,cell_of_row w g _ _ _ _ hh,cell_of_row w g _ _ _ _ hh,Nat.zero_add]
  exact ⟨q0,q1,q2,h4 k hk⟩
end Go.Proofs.YtdhmglmccafbnaaGreatDoor
namespace Go.Proofs.YtdhmglmccafbnaaGreatDoor
open Go.RowKit
attribute [local go_sem ↓] Go.wp_at_zero Go.wp_at_succ
def MatsAt (w:World) (g k:Nat) (R C:Nat→Int) (A:Nat→Option Addr) (N P:Nat→Nat):Prop :=
 ∀ i,i < k→w.cell? ⟨g,i * 3,none⟩ = some (.int .i64 (R i))∧w.cell? ⟨g,i * 3+1,none⟩ = some (.int .i64 (C i))∧w.cell? ⟨g,i * 3+2,none⟩ = some (.slice (A i) (N i) (P i))
theorem right_of (k g:Nat) (R C:Nat→Int) (A:Nat→Option Addr) (N P:Nat→Nat) (w:World) (hk:k≤2) (hn:∀ i,i < k→N i≤35184372088830) (hM:MatsAt w g k R C A N P) :
  Calls Tryz.prog 179 #[.slice (some ⟨g,0,none⟩) k k] w fun e w'=>∃ b,e = .returned (.bool b)∧(b = true ↔ ∀ i,i < k→okB (R i) (C i) (N i) = true)∧Below w.heap.size w w':=by
 have HM:=hide hM;have HN:=hide hn
 clear hM hn
 go_enter Tryz.func179,Tryz.ntmps179
 go_wp2_with fail
 go_loopw [7] (fun i wr=>∃ j:Nat,j≤k∧i = .int .i64 j∧Hid (Below w.heap.size w wr)∧Hid (∀ t,t < j→okB (R t) (C t) (N t) = true)) (fun i _=>k - (intOf i).toNat)
 case atStart=>exact ⟨0,Nat.zero_le _,rfl,Below.refl _ _,fun t h=>by omega⟩
 case round =>
  obtain ⟨j,hj,rfl,hB,hO⟩:=hrel
  by_cases hlt:j < k
  ·have hkI:(j:Int) < (k:Int):=by omega
   obtain ⟨c0,c1,c2⟩:=uH HM j hlt
   have hN:=uH HN j hlt
   have C1:=hide (fun w'=>mcheck_any (R j) (C j) (A j) (N j) (P j) w' hN)
   have glt:=World.block_lt_of_cell? w _ c0
   have BB:=hide (hB.out.mono (Nat.le_refl _))
   have d0:wr.cell? ⟨g,j * 3,none⟩ = some (.int .i64 (R j)):=by rw [hB.out.cell (p:=⟨g,j * 3,none⟩) glt];exact c0
   have d1:wr.cell? ⟨g,j * 3+1,none⟩ = some (.int .i64 (C j)):=by rw [hB.out.cell (p:=⟨g,j * 3+1,none⟩) glt];exact c1
   have d2:wr.cell? ⟨g,j * 3+2,none⟩ = some (.slice (A j) (N j) (P j)):=by rw [hB.out.cell (p:=⟨g,j * 3+2,none⟩) glt];exact c2
   have BP:=hide ((uH BB).alloc (uH BB).size (.cells #[.int .i64 (R j),.int .i64 (C j),.slice (A j) (N j) (P j)] 25))
   clear c0 c1 c2 hN hB BB glt
   go_wp2_with fail
   refine (uH C1 _).mono ?_
   rintro e w2 ⟨rfl,hb2⟩
   have B2:Hid (Below w.heap.size w w2):=(uH BP).trans (hb2.mono (uH BP).size)
   clear C1 hb2 d0 d1 d2 BP
   cases ho:okB (R j) (C j) (N j)
   ·have HO:=hide ho
    clear ho
    rw [if_neg (by decide)]
    go_wp2
    go_ret
    refine ⟨false,rfl,⟨(fun h=>nomatch h),fun h=>?_⟩,uH B2⟩
    have:=h j hlt
    rw [uH HO] at this
    cases this
   ·have HO:=hide ho
    clear ho
    rw [if_pos rfl]
    go_wp2
    go_round
    case rel =>
     refine ⟨j+1,by omega,by go_num,B2,hide fun t ht=>?_⟩
     by_cases e:t = j
     ·subst e;exact uH HO
     ·exact hO.out t (by omega)
    case measure=>simp [intOf];omega
  ·have hjk:j = k:=by omega
   subst hjk
   go_wp2
   go_ret
   exact ⟨true,rfl,⟨fun _=>hO.out,fun _=>rfl⟩,hB.out⟩
theorem right1_any (r c:Int) (ao:Option Addr) (n cap:Nat) (w:World) (hn:n≤35184372088830) :
  Calls Tryz.prog 179 #[.slice (some ⟨w.heap.size,0,none⟩) 1 1] (w.alloc (.cells #[.int .i64 r,.int .i64 c,.slice ao n cap] 25)) fun e w'=>e = .returned (.bool (okB r c n))∧Below w.heap.size w w':=by
 have X:=BoxM.new w (.int .i64 r) (.int .i64 c) (.slice ao n cap)
 have B:=below_alloc9 w (.cells #[.int .i64 r,.int .i64 c,.slice ao n cap] 25)
 refine (right_of 1 w.heap.size (fun _=>r) (fun _=>c) (fun _=>ao) (fun _=>n) (fun _=>cap) _ (by omega) (fun _ _=>hn) ?_).mono ?_
 ·intro i hi
  obtain rfl:i = 0:=by omega
  exact ⟨X.c0,X.c1,X.c2⟩
 ·rintro e w' ⟨b,rfl,hb,hB⟩
  refine ⟨?_,B.trans (hB.mono B.size)⟩
  have:b = okB r c n:=by
   cases h:okB r c n
   ·cases b
    ·rfl
    ·have:=hb.1 rfl 0 (by omega);rw [h] at this;cases this
   ·exact hb.2 (fun _ _=>h)
  rw [this]
theorem right2_any (r c:Int) (ao:Option Addr) (n cap:Nat) (p q:Int) (bo:Option Addr) (m d:Nat) (w:World) (hn:n≤35184372088830) (hm:m≤35184372088830) :
  Calls Tryz.prog 179 #[.slice (some ⟨w.heap.size,0,none⟩) 2 2] (w.alloc (.cells #[.int .i64 r,.int .i64 c,.slice ao n cap,.int .i64 p,.int .i64 q,.slice bo m d] 25)) fun e w'=>e = .returned (.bool (okB r c n && okB p q m))∧Below w.heap.size w w':=by
 have X:(w.alloc (.cells #[.int .i64 r,.int .i64 c,.slice ao n cap,.int .i64 p,.int .i64 q,.slice bo m d] 25)).heap[w.heap.size]? = some (.cells #[.int .i64 r,.int .i64 c,.slice ao n cap,.int .i64 p,.int .i64 q,.slice bo m d] 25 (0,0)):=heap_alloc_new w _
 have B:=below_alloc9 w (.cells #[.int .i64 r,.int .i64 c,.slice ao n cap,.int .i64 p,.int .i64 q,.slice bo m d] 25)
 refine (right_of 2 w.heap.size (fun i=>if i = 0 then r else p) (fun i=>if i = 0 then c else q) (fun i=>if i = 0 then ao else bo) (fun i=>if i = 0 then n else m) (fun i=>if i = 0 then cap else d) _ (by omega) (fun i _=>by split <;> assumption) ?_).mono ?_
 ·intro i hi
  rcases (show i = 0 ∨ i = 1 by omega) with rfl | rfl
  ·exact ⟨by rw [cell_of_row _ _ _ _ _ _ X];rfl,by rw [cell_of_row _ _ _ _ _ _ X];rfl,by rw [cell_of_row _ _ _ _ _ _ X];rfl⟩
  ·exact ⟨by rw [cell_of_row _ _ _ _ _ _ X];rfl,by rw [cell_of_row _ _ _ _ _ _ X];rfl,by rw [cell_of_row _ _ _ _ _ _ X];rfl⟩
 ·rintro e w' ⟨b,rfl,hb,hB⟩
  refine ⟨?_,B.trans (hB.mono B.size)⟩
  have:b = (okB r c n && okB p q m):=by
   cases h:(okB r c n && okB p q m)
   ·cases b
    ·rfl
    ·have h0:=hb.1 rfl 0 (by omega)
     have h1:=hb.1 rfl 1 (by omega)
     simp only [if_true,Nat.one_ne_zero,if_false] at h0 h1
     rw [h0,h1] at h
     cases h
   ·have h':=Bool.and_eq_true_iff.1 h
    refine hb.2 (fun i hi=>?_)
    rcases (show i = 0 ∨ i = 1 by omega) with rfl | rfl
    ·exact h'.1
    ·exact h'.2
  rw [this]
theorem lies_any (f p e:Int) (w:World) (hf:-9223372036854775808≤f∧f≤9223372036854775807) (he:0≤e∧e≤6) :
  Calls Tryz.prog 180 #[.int .i64 f,.int .i64 p,.int .i64 e] w fun x w'=>x = .returned (.bool (decide (0≤f∧0≤p∧p≤e - f)))∧w = w':=by
 rcases (show f < 0 ∨ (0≤f∧p < 0) ∨ (0≤f∧0≤p) by omega) with h1 | ⟨h1,h2⟩ | ⟨h1,h2⟩
 ·rw [decide_eq_false (by omega)]
  go_enter Tryz.func180,Tryz.ntmps180
  go_wp2
  go_ret
  exact ⟨rfl,rfl⟩
 ·rw [decide_eq_false (by omega)]
  go_enter Tryz.func180,Tryz.ntmps180
  go_wp2
  go_ret
  exact ⟨rfl,rfl⟩
 ·rw [show decide (0≤f∧0≤p∧p≤e - f) = decide (p≤e - f) from decide_eq_decide.2 (by omega)]
  go_enter Tryz.func180,Tryz.ntmps180
  go_wp2
  go_ret
  exact ⟨rfl,rfl⟩
end Go.Proofs.YtdhmglmccafbnaaGreatDoor
namespace Go.Proofs.YtdhmglmccafbnaaGreatDoor
open Go.RowKit
attribute [local go_sem ↓] Go.wp_at_zero Go.wp_at_succ
theorem turned1_of (r c n cap i k x bx:Nat) (ao:Option Addr) (w:World) (hX:BoxM w bx (.int .i64 r) (.int .i64 c) (.slice ao n cap))
  (C:Calls Tryz.prog 183 #[.agg #[.int .i64 r,.int .i64 c,.slice ao n cap],.int .i64 k,.int .i64 i] w fun e w'=>e = .returned (.int .u64 (x:Nat))∧Below w.heap.size w w') :
  Calls Tryz.prog 227 #[.int .i64 i,.int .i64 k,.pointer (some ⟨bx,0,none⟩)] w fun e w'=>e = .returned (.int .u64 (x:Nat))∧Below w.heap.size w w':=by
 have K:=hide C
 have p0:=hX.c0;have p1:=hX.c1;have p2:=hX.c2
 clear C hX
 go_enter Tryz.func227,Tryz.ntmps227
 go_wp2_with fail
 refine Calls.mono (uH K) ?_
 rintro e w1 ⟨rfl,hb1⟩
 clear K
 go_wp2
 go_ret
 exact ⟨rfl,hb1⟩
theorem cfTurned1 (args:Array Value) (w:World):(callFunc 227 args).run Tryz.prog w = .ok (.enter 227 args) w:=by
 simp only [callFunc,go_sem]
 rfl
theorem turned_of (r c n cap p q:Nat) (ao:Option Addr) (S:List Nat) (w:World)
  (C:Calls Tryz.prog 181 #[.int .i64 c,.int .i64 r,.func (.func 227) #[] #[.pointer (some ⟨w.heap.size,0,none⟩)]] ((w.alloc (.cells #[.int .i64 r,.int .i64 c,.slice ao n cap] 25)).alloc (.cells #[.int .i64 0,.int .i64 0,.slice none 0 0] 25)) fun e w'=>∃ v,e = .returned v∧NewM w.heap.size w' p q S v∧Below w.heap.size w w'∧BoxM w' (w.heap.size+1) (.int .i64 0) (.int .i64 0) (.slice none 0 0)) :
  Calls Tryz.prog 189 #[.agg #[.int .i64 r,.int .i64 c,.slice ao n cap]] w fun e w'=>∃ v,e = .returned v∧NewM w.heap.size w' p q S v∧Below w.heap.size w w':=by
 have K:=hide C
 clear C
 go_enter Tryz.func189,Tryz.ntmps189
 go_wp2_with fail
 refine Calls.mono (uH K) ?_
 rintro e w1 ⟨v,rfl,⟨bo,d,rfl,n1,q1⟩,hb1,hX⟩
 have f0:=hX.free 0;have f1:=hX.free 1;have f2:=hX.free 2
 have XP:=hX.put (.int .i64 p) (.int .i64 q) (.slice bo S.length d)
 have z0:=XP.c0;have z1:=XP.c1;have z2:=XP.c2
 have s0:=hX.c0;have s1:=hX.c1;have s2:=hX.c2
 have Q:=hide (q1.putM hX (.int .i64 p) (.int .i64 q) (.slice bo S.length d))
 have B:=hide (below_putM hb1 (b:=w.heap.size+1) (by omega) (.int .i64 p) (.int .i64 q) (.slice bo S.length d))
 clear K XP q1 hb1 hX
 go_wp2
 exact bodyPost_ret (v:=.agg #[.int .i64 p,.int .i64 q,.slice bo S.length d]) (by simp [results,Tryz.results189,go_sem,z0,z1,z2]) rfl ⟨_,rfl,⟨bo,d,rfl,n1,uH Q⟩,uH B⟩
theorem turned_any (r c cap:Nat) (ao:Option Addr) (S:List Nat) (w:World) (h:Mx w ao cap r c S) :
  Calls Tryz.prog 189 #[.agg #[.int .i64 r,.int .i64 c,.slice ao S.length cap]] w fun e w'=>∃ v,e = .returned v∧NewM w.heap.size w' c r (tuM r c S) v∧Below w.heap.size w w':=by
 refine turned_of r c S.length cap c r ao (tuM r c S) w ?_
 have b0:=below_alloc9 w (.cells #[.int .i64 r,.int .i64 c,.slice ao S.length cap] 25)
 have x0:=BoxM.new w (.int .i64 r) (.int .i64 c) (.slice ao S.length cap)
 have s0:=size_alloc9 w (.cells #[.int .i64 r,.int .i64 c,.slice ao S.length cap] 25)
 generalize w.alloc (.cells #[.int .i64 r,.int .i64 c,.slice ao S.length cap] 25) = w1 at *
 have b1:=below_alloc9 w1 (.cells #[.int .i64 0,.int .i64 0,.slice none 0 0] 25)
 have x1:=BoxM.new w1 (.int .i64 0) (.int .i64 0) (.slice none 0 0)
 have y0:=x0.all b1
 generalize w1.alloc (.cells #[.int .i64 0,.int .i64 0,.slice none 0 0] 25) = w2 at *
 have bb:Below w.heap.size w w2:=b0.trans (b1.mono b0.size)
 rw [s0] at x1
 refine Calls.mono (build_any 227 #[.pointer (some ⟨w.heap.size,0,none⟩)] c r (fun k i=>elM c S i k) w2 cfTurned1 h.2.2.2 h.2.2.1 (fun k i _ _=>h.el_lt i k) ?_) ?_
 ·intro w' k i hb hk hi
  have hb':Below w.heap.size w w':=bb.trans (hb.mono bb.size)
  exact turned1_of r c S.length cap k i _ w.heap.size ao w' (y0.all hb) (mat_any r c cap i k ao S w' (h.below hb') hi hk)
 ·rintro e w' ⟨v,rfl,hv,hb⟩
  exact ⟨v,rfl,hv.least bb.size,bb.trans (hb.mono bb.size),x1.all hb⟩
end Go.Proofs.YtdhmglmccafbnaaGreatDoor
namespace Go.Proofs.YtdhmglmccafbnaaGreatDoor
open Go.RowKit
attribute [local go_sem ↓] Go.wp_at_zero Go.wp_at_succ
theorem boxes1 (w:World) (x y z:Value) (w1:World) (h:Below (w.heap.size+1) (w.alloc (.cells #[x,y,z] 25)) w1) :
  Below w.heap.size w w1∧BoxM w1 w.heap.size x y z:=by
 have b0:=below_alloc9 w (.cells #[x,y,z] 25)
 exact ⟨b0.trans (h.mono (by omega)),(BoxM.new w x y z).below h (by omega)⟩
theorem boxes2 (w:World) (x y z x' y' z':Value) (w1:World) (h:Below (w.heap.size+1+1) ((w.alloc (.cells #[x,y,z] 25)).alloc (.cells #[x',y',z'] 25)) w1) :
  Below w.heap.size w w1∧BoxM w1 w.heap.size x y z∧BoxM w1 (w.heap.size+1) x' y' z':=by
 have s0:=size_alloc9 w (.cells #[x,y,z] 25)
 have h':Below ((w.alloc (.cells #[x,y,z] 25)).heap.size+1) ((w.alloc (.cells #[x,y,z] 25)).alloc (.cells #[x',y',z'] 25)) w1:=by rw [s0];exact h
 obtain ⟨h1,h2⟩:=boxes1 _ x' y' z' w1 h'
 rw [s0] at h1 h2
 obtain ⟨h3,h4⟩:=boxes1 w x y z w1 h1
 exact ⟨h3,h4,h2⟩
theorem boxes3 (w:World) (x y z x' y' z' x2 y2 z2:Value) (w1:World) (h:Below (w.heap.size+1+1+1) (((w.alloc (.cells #[x,y,z] 25)).alloc (.cells #[x',y',z'] 25)).alloc (.cells #[x2,y2,z2] 25)) w1) :
  Below w.heap.size w w1∧BoxM w1 w.heap.size x y z∧BoxM w1 (w.heap.size+1) x' y' z'∧BoxM w1 (w.heap.size+1+1) x2 y2 z2:=by
 have s0:=size_alloc9 w (.cells #[x,y,z] 25)
 have h':Below ((w.alloc (.cells #[x,y,z] 25)).heap.size+1+1) (((w.alloc (.cells #[x,y,z] 25)).alloc (.cells #[x',y',z'] 25)).alloc (.cells #[x2,y2,z2] 25)) w1:=by rw [s0];exact h
 obtain ⟨h1,h2,h3⟩:=boxes2 _ x' y' z' x2 y2 z2 w1 h'
 rw [s0] at h1 h2 h3
 obtain ⟨h4,h5⟩:=boxes1 w x y z w1 h1
 exact ⟨h4,h5,h2,h3⟩
theorem mturn_no (r c:Int) (ao:Option Addr) (n cap:Nat) (w:World) (hn:n≤35184372088830) (h:okB r c n = false) :
  Calls Tryz.prog 125 #[.agg #[.int .i64 r,.int .i64 c,.slice ao n cap]] w fun e w'=>∃ v,e = .returned (.tuple #[v,.int .i64 1])∧NewM w.heap.size w' 0 0 [] v∧Below w.heap.size w w':=by
 have K:=hide (right1_any r c ao n cap ((w.alloc (.cells #[.int .i64 r,.int .i64 c,.slice ao n cap] 25)).alloc (.cells #[.int .i64 0,.int .i64 0,.slice none 0 0] 25)) hn)
 rw [h] at K
 simp only [size_alloc9] at K
 have KB:=hide (boxes2 w (.int .i64 r) (.int .i64 c) (.slice ao n cap) (.int .i64 0) (.int .i64 0) (.slice none 0 0))
 clear h
 go_enter Tryz.func125,Tryz.ntmps125
 go_wp2_with fail
 refine Calls.mono (uH K) ?_
 rintro e w1 ⟨rfl,hb1⟩
 obtain ⟨hB,hA,hX⟩:=uH KB w1 hb1
 clear K KB hb1 hA
 have f0:=hX.free 0;have f1:=hX.free 1;have f2:=hX.free 2
 have s0:=hX.c0;have s1:=hX.c1;have s2:=hX.c2
 have XP:=hX.put (.int .i64 0) (.int .i64 0) (.slice none 0 0)
 have z0:=XP.c0;have z1:=XP.c1;have z2:=XP.c2
 have BP:=hide (below_putM hB (b:=w.heap.size+1) (by omega) (.int .i64 0) (.int .i64 0) (.slice none 0 0))
 clear XP hX hB
 go_wp2
 exact bodyPost_ret (v:=.tuple #[.agg #[.int .i64 0,.int .i64 0,.slice none 0 0],.int .i64 1]) (by simp [results,Tryz.results125,go_sem,z0,z1,z2]) rfl ⟨_,rfl,NewM.zero _ _,uH BP⟩
theorem mturn_of (r c:Int) (ao:Option Addr) (n cap x y:Nat) (S:List Nat) (w:World) (hn:n≤35184372088830) (h:okB r c n = true)
  (C:∀ w1,Below w.heap.size w w1→Calls Tryz.prog 189 #[.agg #[.int .i64 r,.int .i64 c,.slice ao n cap]] w1 fun e w''=>∃ v,e = .returned v∧NewM w1.heap.size w'' x y S v∧Below w1.heap.size w1 w'') :
  Calls Tryz.prog 125 #[.agg #[.int .i64 r,.int .i64 c,.slice ao n cap]] w fun e w'=>∃ v,e = .returned (.tuple #[v,.int .i64 0])∧NewM w.heap.size w' x y S v∧Below w.heap.size w w':=by
 have K:=hide (right1_any r c ao n cap ((w.alloc (.cells #[.int .i64 r,.int .i64 c,.slice ao n cap] 25)).alloc (.cells #[.int .i64 0,.int .i64 0,.slice none 0 0] 25)) hn)
 rw [h] at K
 simp only [size_alloc9] at K
 have KB:=hide (boxes2 w (.int .i64 r) (.int .i64 c) (.slice ao n cap) (.int .i64 0) (.int .i64 0) (.slice none 0 0))
 have KT:=hide (fun w1 (hB:Below w.heap.size w w1) (hX:BoxM w1 (w.heap.size+1) (.int .i64 0) (.int .i64 0) (.slice none 0 0))=>(C w1 hB).mono (R':=fun e w''=>∃ v,e = .returned v∧NewM w.heap.size w'' x y S v∧Below w.heap.size w w''∧BoxM w'' (w.heap.size+1) (.int .i64 0) (.int .i64 0) (.slice none 0 0)) (by
  rintro e w'' ⟨v,rfl,h1,h2⟩
  exact ⟨v,rfl,h1.least hB.size,hB.trans (h2.mono hB.size),hX.all h2⟩))
 clear h C
 go_enter Tryz.func125,Tryz.ntmps125
 go_wp2_with fail
 refine Calls.mono (uH K) ?_
 rintro e w1 ⟨rfl,hb1⟩
 obtain ⟨hB,hA,hX⟩:=uH KB w1 hb1
 have p0:=hA.c0;have p1:=hA.c1;have p2:=hA.c2
 have KC:=hide (uH KT w1 hB hX)
 clear K KB KT hb1 hA hX hB
 go_wp2_with fail
 refine Calls.mono (uH KC) ?_
 clear KC
 rintro e w2 ⟨v,rfl,⟨ro,rd,rfl,n1,q1⟩,hb2,hX⟩
 have f0:=hX.free 0;have f1:=hX.free 1;have f2:=hX.free 2
 have XP:=hX.put (.int .i64 x) (.int .i64 y) (.slice ro S.length rd)
 have z0:=XP.c0;have z1:=XP.c1;have z2:=XP.c2
 have s0:=hX.c0;have s1:=hX.c1;have s2:=hX.c2
 have Q:=hide (q1.putM hX (.int .i64 x) (.int .i64 y) (.slice ro S.length rd))
 have BP:=hide (below_putM hb2 (b:=w.heap.size+1) (by omega) (.int .i64 x) (.int .i64 y) (.slice ro S.length rd))
 clear XP q1 hb2 hX
 go_wp2
 exact bodyPost_ret (v:=.tuple #[.agg #[.int .i64 x,.int .i64 y,.slice ro S.length rd],.int .i64 0]) (by simp [results,Tryz.results125,go_sem,z0,z1,z2]) rfl ⟨_,rfl,⟨ro,rd,rfl,n1,uH Q⟩,uH BP⟩
end Go.Proofs.YtdhmglmccafbnaaGreatDoor
namespace Go.Proofs.YtdhmglmccafbnaaGreatDoor
open Go.RowKit
attribute [local go_sem ↓] Go.wp_at_zero Go.wp_at_succ
theorem zeros1_any (i k:Nat) (w:World) :
  Calls Tryz.prog 221 #[.int .i64 i,.int .i64 k] w fun e w'=>e = .returned (.int .u64 (0:Nat))∧Below w.heap.size w w':=by
 go_enter Tryz.func221,Tryz.ntmps221
 go_wp2
 go_ret
 exact ⟨rfl,Below.refl _ _⟩
theorem eye1_any (i k:Nat) (w:World) :
  Calls Tryz.prog 196 #[.int .i64 i,.int .i64 k] w fun e w'=>e = .returned (.int .u64 ((if k = i then 4607182418800017408 else 0:Nat):Int))∧Below w.heap.size w w':=by
 by_cases h:k = i
 ·rw [if_pos h]
  subst h
  go_enter Tryz.func196,Tryz.ntmps196
  go_wp2
  go_ret
  exact ⟨rfl,Below.refl _ _⟩
 ·rw [if_neg h]
  have e1:decide ((i:Int) = (k:Int)) = false:=decide_eq_false (by omega)
  go_enter Tryz.func196,Tryz.ntmps196
  go_wp2
  go_ret
  exact ⟨rfl,Below.refl _ _⟩
theorem part1_of (r c n cap i k a b x bx bi bk:Nat) (ao:Option Addr) (w:World) (ha:a+i≤6) (hb:b+k≤6) (hX:BoxM w bx (.int .i64 r) (.int .i64 c) (.slice ao n cap)) (hi:w.cell? ⟨bi,0,none⟩ = some (.int .i64 (a:Nat))) (hk:w.cell? ⟨bk,0,none⟩ = some (.int .i64 (b:Nat)))
  (C:Calls Tryz.prog 183 #[.agg #[.int .i64 r,.int .i64 c,.slice ao n cap],.int .i64 ((a:Int)+(i:Int)),.int .i64 ((b:Int)+(k:Int))] w fun e w'=>e = .returned (.int .u64 (x:Nat))∧Below w.heap.size w w') :
  Calls Tryz.prog 182 #[.int .i64 i,.int .i64 k,.pointer (some ⟨bx,0,none⟩),.pointer (some ⟨bi,0,none⟩),.pointer (some ⟨bk,0,none⟩)] w fun e w'=>e = .returned (.int .u64 (x:Nat))∧Below w.heap.size w w':=by
 have K:=hide C
 have p0:=hX.c0;have p1:=hX.c1;have p2:=hX.c2
 clear C hX
 go_enter Tryz.func182,Tryz.ntmps182
 go_wp2_with fail
 refine Calls.mono (uH K) ?_
 rintro e w1 ⟨rfl,hb1⟩
 clear K
 go_wp2
 go_ret
 exact ⟨rfl,hb1⟩
theorem mul1_of (r c n cap p q m d i k x ba bb:Nat) (ao bo:Option Addr) (U V:List Int) (w:World) (hX:BoxM w ba (.int .i64 r) (.int .i64 c) (.slice ao n cap)) (hY:BoxM w bb (.int .i64 p) (.int .i64 q) (.slice bo m d))
  (C1:∀ w',Below w.heap.size w w'→Calls Tryz.prog 192 #[.agg #[.int .i64 r,.int .i64 c,.slice ao n cap],.int .i64 i] w' fun e w''=>∃ so sd,e = .returned (.slice so c sd)∧BitsAt w'' so sd U∧Below w'.heap.size w' w'')
  (C2:∀ w',Below w.heap.size w w'→Calls Tryz.prog 192 #[.agg #[.int .i64 p,.int .i64 q,.slice bo m d],.int .i64 k] w' fun e w''=>∃ so sd,e = .returned (.slice so q sd)∧BitsAt w'' so sd V∧Below w'.heap.size w' w'')
  (C3:∀ w' so sd ro rd,Below w.heap.size w w'→BitsAt w' so sd U→BitsAt w' ro rd V→Calls Tryz.prog 191 #[.slice so c sd,.slice ro q rd] w' fun e w''=>e = .returned (.tuple #[.int .u64 (x:Nat),.int .i64 0])∧Below w'.heap.size w' w'') :
  Calls Tryz.prog 190 #[.int .i64 i,.int .i64 k,.pointer (some ⟨ba,0,none⟩),.pointer (some ⟨bb,0,none⟩)] w fun e w'=>e = .returned (.int .u64 (x:Nat))∧Below w.heap.size w w':=by
 have K1:=hide C1;have K2:=hide C2;have K3:=hide C3
 have HK:=hide (fun w' (h:Below w.heap.size w w')=>(show Below w.heap.size w w'∧(w'.cell? ⟨ba,0,none⟩ = some (.int .i64 r)∧w'.cell? ⟨ba,1,none⟩ = some (.int .i64 c)∧w'.cell? ⟨ba,2,none⟩ = some (.slice ao n cap))∧(w'.cell? ⟨bb,0,none⟩ = some (.int .i64 p)∧w'.cell? ⟨bb,1,none⟩ = some (.int .i64 q)∧w'.cell? ⟨bb,2,none⟩ = some (.slice bo m d)) from
  ⟨h,⟨(hX.all h).c0,(hX.all h).c1,(hX.all h).c2⟩,(hY.all h).c0,(hY.all h).c1,(hY.all h).c2⟩))
 clear C1 C2 C3 hX hY
 go_enter Tryz.func190,Tryz.ntmps190
 go_wp2_with fail
 go_region_held3 (fun w'=>Below w.heap.size w w'∧(w'.cell? ⟨ba,0,none⟩ = some (.int .i64 r)∧w'.cell? ⟨ba,1,none⟩ = some (.int .i64 c)∧w'.cell? ⟨ba,2,none⟩ = some (.slice ao n cap))∧(w'.cell? ⟨bb,0,none⟩ = some (.int .i64 p)∧w'.cell? ⟨bb,1,none⟩ = some (.int .i64 q)∧w'.cell? ⟨bb,2,none⟩ = some (.slice bo m d)))
  (first | exact uH HK _ (Below.refl _ _).drew | exact uH HK _ (by assumption) | fail "KK")
  (first | (go_at_call_of 192 (Value.agg #[.int .i64 r,.int .i64 c,.slice ao n cap]);refine (uH K1 _ (And.left (by assumption))).mono ?_;rintro e w1 ⟨so,sd,rfl,hu,hb1⟩;have hB1:Below w.heap.size w w1:=Below.trans (And.left (by assumption)) (hb1.mono (Below.size (And.left (by assumption))));have HU:=hide hu;(first | (have HV:=hide ((uH HV).below hb1)) | skip);clear hb1 hu K1) | (go_at_call_of 192 (Value.agg #[.int .i64 p,.int .i64 q,.slice bo m d]);refine (uH K2 _ (And.left (by assumption))).mono ?_;rintro e w2 ⟨ro,rd,rfl,hv,hb2⟩;have hB2:Below w.heap.size w w2:=Below.trans (And.left (by assumption)) (hb2.mono (Below.size (And.left (by assumption))));have HV:=hide hv;(first | (have HU:=hide ((uH HU).below hb2)) | skip);clear hb2 hv K2) | (go_at_call 191;refine (uH K3 _ _ _ _ _ (And.left (by assumption)) (uH HU) (uH HV)).mono ?_;rintro e w3 ⟨rfl,hb3⟩;have hB3:Below w.heap.size w w3:=Below.trans (And.left (by assumption)) (hb3.mono (Below.size (And.left (by assumption))));clear hb3) | fail "NO ARM")
 all_goals
  go_wp2
  go_ret
  exact ⟨rfl,And.left (by assumption)⟩
end Go.Proofs.YtdhmglmccafbnaaGreatDoor
