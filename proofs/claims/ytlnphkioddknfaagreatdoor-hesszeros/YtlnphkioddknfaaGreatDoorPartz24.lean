/- Part 24 of the texts. -/
import Derived.Test.YtlnphkioddknfaaGreatDoorPartz23
import Derived.Test.YtlnphkioddknfaaGreatDoorPartz22
import Derived.Test.YtlnphkioddknfaaGreatDoorPartz20
import Derived.Test.YtlnphkioddknfaaGreatDoorPartz17
import Derived.Laws.Cover2
import Derived.Laws.Externs
import Derived.Test.YtlnphkioddknfaaGreatDoorPartz03
import Derived.Laws.FloatArith
import Derived.Test.YtlnphkioddknfaaGreatDoorPartz18
import Derived.Test.YtlnphkioddknfaaGreatDoorPartz16
import Derived.Test.YtlnphkioddknfaaGreatDoorPartz14
import Derived.Test.YtlnphkioddknfaaGreatDoorPartz12
import Derived.Test.YtlnphkioddknfaaGreatDoorPartz13
import Derived.Test.YtlnphkioddknfaaGreatDoorPartz11
import Derived.Deep.Cut
import Derived.BigQuiet
import Derived.Test.YtlnphkioddknfaaGreatDoorPartz01
set_option maxHeartbeats 4000000
set_option maxRecDepth 20000
namespace Go.Proofs.YtlnphkioddknfaaGreatDoor
open Go.RowKit
def mxL (S:List Nat):List Int:=S.map (fun x:Nat=>(x:Int))
theorem mxL_len (S:List Nat):(mxL S).length = S.length:=by simp [mxL]
theorem mxL_at (S:List Nat) (j:Nat):atB (mxL S) j = S.getD j 0:=by
 unfold mxL atB
 rw [List.getElem?_map,List.getD_eq_getElem?_getD]
 cases S[j]? <;> simp
theorem mxL_natL {w:World} {ao:Option Addr} {c:Nat} {I:List Int} (h:BitsAt w ao c I):mxL (natL I) = I:=natL_back h
theorem natL_mxL (S:List Nat):natL (mxL S) = S:=by
 unfold natL mxL
 rw [List.map_map]
 refine (List.map_congr_left fun x _=>?_).trans (List.map_id S)
 simp
theorem BitsAt.nat {w:World} {ao:Option Addr} {c:Nat} {S:List Nat} (h:BitsAt w ao c (mxL S)):∀ x ∈ S,x < 18446744073709551616:=by
 intro x hx
 have:=h.2.1 (x:Int) (List.mem_map.2 ⟨x,hx,rfl⟩)
 omega
theorem BitsAt.none (w:World) (c:Nat):BitsAt w .none c (mxL []):=⟨by simp [mxL],by simp [mxL],.inl rfl⟩
theorem BitsAt.nilAt (w:World) (ao:Option Addr) (c:Nat):BitsAt w ao c (mxL []):=⟨by simp [mxL],by simp [mxL],.inl rfl⟩
theorem BitsAt.putM {w:World} {ao:Option Addr} {c:Nat} {I:List Int} (h:BitsAt w ao c I) {g:Nat} {x y:Int} {a:Option Addr} {n d:Nat} (hx:BoxM w g (.int .i64 x) (.int .i64 y) (.slice a n d)) (u u' u'':Value) :
  BitsAt (((w.setCell ⟨g,0,.none⟩ u).setCell ⟨g,1,.none⟩ u').setCell ⟨g,2,.none⟩ u'') ao c I:=by
 refine ⟨h.1,h.2.1,?_⟩
 rcases h.2.2 with h0 | ⟨b,off,h1,h2,h3⟩
 ·exact .inl h0
 ·by_cases he:I = []
  ·exact .inl he
  ·have hp:0 < I.length:=List.length_pos_iff.2 he
   have hne:b ≠ g:=by
    rintro rfl
    have h4:=h3 0 hp
    rw [cell_of_row w b (off+0) _ _ _ hx] at h4
    rcases (show off = 0 ∨ off = 1 ∨ off = 2 ∨ 3≤off by omega) with e | e | e | e
    ·subst e;simp at h4
    ·subst e;simp at h4
    ·subst e;simp at h4
    ·rw [Array.getElem?_eq_none (by simp;omega)] at h4;simp at h4
   refine .inr ⟨b,off,h1,by simpa [World.setCell] using h2,fun i hi=>?_⟩
   rw [cell_setCell_other _ _ _ _ (by simpa using hne),cell_setCell_other _ _ _ _ (by simpa using hne),cell_setCell_other _ _ _ _ (by simpa using hne)]
   exact h3 i hi
def Mx (w:World) (ao:Option Addr) (cap r c:Nat) (S:List Nat):Prop:=BitsAt w ao cap (mxL S)∧S.length = r * c∧r≤6∧c≤6
theorem Mx.below {w w':World} {ao:Option Addr} {cap r c:Nat} {S:List Nat} (h:Mx w ao cap r c S) (hb:Below w.heap.size w w'):Mx w' ao cap r c S:=⟨h.1.below hb,h.2⟩
theorem Mx.small {w:World} {ao:Option Addr} {cap r c:Nat} {S:List Nat} (h:Mx w ao cap r c S):S.length≤36:=by
 rw [h.2.1]
 exact Nat.mul_le_mul h.2.2.1 h.2.2.2
theorem Mx.el_lt {w:World} {ao:Option Addr} {cap r c:Nat} {S:List Nat} (h:Mx w ao cap r c S) (i k:Nat):elM c S i k < 18446744073709551616:=by
 unfold elM
 rw [List.getD_eq_getElem?_getD]
 by_cases g:i * c+k < S.length
 ·rw [List.getElem?_eq_getElem g];exact h.1.nat _ (List.getElem_mem g)
 ·rw [List.getElem?_eq_none (by omega)];decide
theorem Mx.cells {w:World} {ao:Option Addr} {cap r c:Nat} {S:List Nat} (h:Mx w ao cap r c S) {i k:Nat} (hi:i < r) (hk:k < c):∃ b off,ao = some ⟨b,off,.none⟩∧b < w.heap.size∧w.cell? ⟨b,off+(i * c+k),.none⟩ = some (.int .u64 (elM c S i k:Nat))∧i * c+k < S.length:=by
 have hp:i * c+k < S.length:=by rw [h.2.1];exact place_lt hi hk
 obtain ⟨b,off,e1,e2,e3⟩:=h.1.ne (by rw [mxL_len];omega)
 refine ⟨b,off,e1,e2,?_,hp⟩
 rw [e3 _ (by rw [mxL_len];exact hp),mxL_at]
 rfl
theorem mx_ok {w:World} {ao:Option Addr} {cap r c:Nat} {S:List Nat} (h:Mx w ao cap r c S):okB (r:Int) (c:Int) S.length = true:=by
 refine decide_eq_true ⟨⟨by omega,?_,by omega,?_⟩,?_⟩
 ·have:=h.2.2.1;omega
 ·have:=h.2.2.2;omega
 ·rw [h.2.1];simp
theorem Mx.of {w:World} {ao:Option Addr} {cap:Nat} {I:List Int} {r c:Int} (h:BitsAt w ao cap I) (ho:okB r c I.length = true):∃ p q:Nat,r = (p:Int)∧c = (q:Int)∧Mx w ao cap p q (natL I)∧mxL (natL I) = I:=by
 obtain ⟨⟨h1,h2,h3,h4⟩,h5⟩:=of_decide_eq_true ho
 obtain ⟨p,rfl⟩:=Int.eq_ofNat_of_zero_le h1
 obtain ⟨q,rfl⟩:=Int.eq_ofNat_of_zero_le h3
 refine ⟨p,q,rfl,rfl,⟨by rw [mxL_natL h];exact h,?_,by omega,by omega⟩,mxL_natL h⟩
 rw [natL_len]
 have:((p * q:Nat):Int) = (p:Int) * (q:Int):=by simp
 omega
def NewM (H:Nat) (w':World) (r c:Nat) (S:List Nat) (v:Value):Prop:=∃ ao cap,v = .agg #[.int .i64 r,.int .i64 c,.slice ao S.length cap]∧NewB H ao (mxL S)∧BitsAt w' ao cap (mxL S)
theorem NewM.zero (H:Nat) (w:World):NewM H w 0 0 [] (.agg #[.int .i64 0,.int .i64 0,.slice .none 0 0]):=⟨.none,0,rfl,.inl rfl,BitsAt.none w 0⟩
theorem NewM.least {H H':Nat} {w:World} {r c:Nat} {S:List Nat} {v:Value} (h:NewM H w r c S v) (hh:H'≤H):NewM H' w r c S v:=by
 obtain ⟨ao,cap,h1,h2,h3⟩:=h
 refine ⟨ao,cap,h1,?_,h3⟩
 rcases h2 with e | ⟨b,off,e1,e2⟩
 ·exact .inl e
 ·exact .inr ⟨b,off,e1,Nat.le_trans hh e2⟩
end Go.Proofs.YtlnphkioddknfaaGreatDoor
namespace Go.Proofs.YtlnphkioddknfaaGreatDoor
open Go.RowKit
attribute [local go_sem ↓] Go.wp_at_zero Go.wp_at_succ
theorem mat_of (r c n cap b off i k q x:Nat) (w:World) (hq:(i:Int) * (c:Int) = (q:Int)) (hlt:q+k < n) (hn:n≤36)
  (hx:w.cell? ⟨b,off+(q+k),none⟩ = some (.int .u64 (x:Nat))) :
  Calls Tryz.prog 180 #[.agg #[.int .i64 r,.int .i64 c,.slice (some ⟨b,off,none⟩) n cap],.int .i64 i,.int .i64 k] w fun e w'=>e = .returned (.int .u64 (x:Nat))∧Below w.heap.size w w':=by
 have hb0:=hide (below_alloc9 w (.cells #[.int .i64 r,.int .i64 c,.slice (some ⟨b,off,none⟩) n cap] 24))
 have cx:=cell_keep hx (uH hb0)
 clear hx
 have hkI:(q:Int)+(k:Int) < (n:Int):=by omega
 go_enter Tryz.func180,Tryz.ntmps180
 go_wp2
 go_ret
 exact ⟨rfl,uH hb0⟩
theorem cast_mul10 (i c:Nat):(i:Int) * (c:Int) = ((i * c:Nat):Int):=by simp
theorem mat_any (r c cap i k:Nat) (ao:Option Addr) (S:List Nat) (w:World) (h:Mx w ao cap r c S) (hi:i < r) (hk:k < c) :
  Calls Tryz.prog 180 #[.agg #[.int .i64 r,.int .i64 c,.slice ao S.length cap],.int .i64 i,.int .i64 k] w fun e w'=>e = .returned (.int .u64 (elM c S i k:Nat))∧Below w.heap.size w w':=by
 obtain ⟨b,off,rfl,h2,h3,h4⟩:=h.cells hi hk
 exact mat_of r c S.length cap b off i k (i * c) _ w (cast_mul10 i c) h4 h.small h3
def rwL (c:Nat) (S:List Nat) (i:Nat):List Nat:=(List.range c).map (fun k=>elM c S i k)
theorem rwL_len (c:Nat) (S:List Nat) (i:Nat):(rwL c S i).length = c:=by simp [rwL]
theorem rwL_at (c:Nat) (S:List Nat) (i k:Nat) (h:k < c):(rwL c S i).getD k 0 = elM c S i k:=by simp [rwL,List.getD_eq_getElem?_getD,h]
theorem row_of (r c n cap i q p:Nat) (ao:Option Addr) (w:World) (hq:(i:Int) * (c:Int) = (q:Int)) (hp:((i:Int)+1) * (c:Int) = (p:Int)) (hqp:q≤p) (hlt:p≤n) (hnc:n≤cap) (hn:n≤36) (hi:i≤6) :
  Calls Tryz.prog 184 #[.agg #[.int .i64 r,.int .i64 c,.slice ao n cap],.int .i64 i] w fun e w'=>e = .returned (.slice (if cap = q then ao else ao.map (·.add (q * 1))) (p - q) (cap - q))∧Below w.heap.size w w':=by
 have hb0:=hide (below_alloc9 w (.cells #[.int .i64 r,.int .i64 c,.slice ao n cap] 24))
 by_cases h:cap = q
 ·subst h
  rw [if_pos rfl]
  go_enter Tryz.func184,Tryz.ntmps184
  go_wp2
  go_ret
  exact ⟨by simp,uH hb0⟩
 ·rw [if_neg h]
  go_enter Tryz.func184,Tryz.ntmps184
  go_wp2
  go_ret
  exact ⟨by simp,uH hb0⟩
theorem row_bits {w w':World} {ao:Option Addr} {cap r c:Nat} {S:List Nat} (h:Mx w ao cap r c S) (hb:Below w.heap.size w w') {i:Nat} (hi:i < r):BitsAt w' (if cap = i * c then ao else ao.map (·.add (i * c * 1))) (cap - i * c) (mxL (rwL c S i)):=by
 have hp:(i+1) * c≤S.length:=by rw [h.2.1];exact Nat.mul_le_mul_right c hi
 rw [Nat.add_mul,Nat.one_mul] at hp
 have hc:=h.1.1
 rw [mxL_len] at hc
 refine ⟨by rw [mxL_len,rwL_len];omega,?_,?_⟩
 ·intro x hx
  obtain ⟨y,hy,rfl⟩:=List.mem_map.1 hx
  obtain ⟨k,_,rfl⟩:=List.mem_map.1 hy
  have:=h.el_lt i k
  omega
 ·rcases Nat.eq_zero_or_pos c with e | e
  ·subst e;exact .inl rfl
  ·obtain ⟨b,off,e1,e2,e3,e4⟩:=(h.below hb).cells hi e
   refine .inr ⟨b,off+i * c,?_,e2,fun k hk=>?_⟩
   ·rw [if_neg (by omega),e1]
    simp [Addr.add]
   ·have hk':k < c:=by rwa [mxL_len,rwL_len] at hk
    obtain ⟨b',off',f1,f2,f3,f4⟩:=(h.below hb).cells hi hk'
    rw [e1] at f1
    simp only [Option.some.injEq,Addr.mk.injEq] at f1
    obtain ⟨rfl,rfl,_⟩:=f1
    rw [Nat.add_assoc,f3]
    simp [mxL,rwL,hk']
theorem row_any (r c cap i:Nat) (ao:Option Addr) (S:List Nat) (w:World) (h:Mx w ao cap r c S) (hi:i < r) :
  Calls Tryz.prog 184 #[.agg #[.int .i64 r,.int .i64 c,.slice ao S.length cap],.int .i64 i] w fun e w'=>∃ bo d,e = .returned (.slice bo c d)∧BitsAt w' bo d (mxL (rwL c S i))∧Below w.heap.size w w':=by
 have hp:(i+1) * c≤S.length:=by rw [h.2.1];exact Nat.mul_le_mul_right c hi
 have hq:i * c≤(i+1) * c:=Nat.mul_le_mul_right c (by omega)
 have hc:=h.1.1
 rw [mxL_len] at hc
 have h6:=h.2.2.1
 refine (row_of r c S.length cap i (i * c) ((i+1) * c) ao w (cast_mul10 i c) (by simp) hq hp hc h.small (by omega)).mono ?_
 rintro e w' ⟨rfl,hb⟩
 rw [show (i+1) * c - i * c = c by rw [Nat.add_mul,Nat.one_mul];omega]
 exact ⟨_,_,rfl,row_bits h hb hi,hb⟩
theorem NewB.least {H H':Nat} {ao:Option Addr} {I:List Int} (h:NewB H ao I) (hh:H'≤H):NewB H' ao I:=by
 rcases h with e | ⟨b,off,e1,e2⟩
 ·exact .inl e
 ·exact .inr ⟨b,off,e1,Nat.le_trans hh e2⟩
theorem OwnB.newB {base:Nat} {w:World} {ao:Option Addr} {n cap:Nat} {S:List Nat} (h:OwnB base w (.slice ao n cap) S):NewB base ao (mxL S):=by
 rcases h.1.2 with ⟨_,h0⟩ | ⟨g,cap',cur,hv,hg,_⟩
 ·exact .inl (by rw [List.length_eq_zero_iff.1 h0];rfl)
 ·simp only [Value.slice.injEq] at hv
  exact .inr ⟨g,0,hv.1,hg⟩
theorem build_any (fn:Nat) (caps:Array Value) (r c:Nat) (f:Nat→Nat→Nat) (w:World)
  (hcf:∀ args w,(callFunc fn args).run Tryz.prog w = .ok (.enter fn args) w) (hr:r≤6) (hc:c≤6) (hf:∀ i k,i < r→k < c→f i k < 18446744073709551616)
  (hstep:∀ w' i k,Below w.heap.size w w'→i < r→k < c→Calls Tryz.prog fn (#[.int .i64 (i:Nat),.int .i64 (k:Nat)] ++ caps) w' fun e w''=>e = .returned (.int .u64 (f i k:Nat))∧Below w'.heap.size w' w'') :
  Calls Tryz.prog 178 #[.int .i64 r,.int .i64 c,.func (.func fn) #[] caps] w fun e w'=>∃ v,e = .returned v∧NewM w.heap.size w' r c (mkM r c f) v∧Below w.heap.size w w':=by
 obtain ⟨i0,hi0,hz0,hz1,hz2⟩:=info_parts infoBits
 have HS:=hide hstep;have HF:=hide hf
 have hm:(r:Int) * (c:Int) = ((r * c:Nat):Int):=cast_mul10 r c
 have h36:r * c≤36:=Nat.mul_le_mul hr hc
 have X0:=hide (BoxM.new w (.int .i64 0) (.int .i64 0) (.slice none 0 0))
 have B0:=hide (below_alloc9 w (.cells #[.int .i64 0,.int .i64 0,.slice none 0 0] 24))
 obtain ⟨w1,hmk,own1,gr1⟩:=run_make_own (P:=Tryz.prog) (w.alloc (.cells #[.int .i64 0,.int .i64 0,.slice none 0 0] 24)) (w.heap.size+1) 22 37 i0 (.int .u64 0) 1 Tryz.underlying22 hi0 hz0 hz1 .i64 .i64 (r * c) (by rw [hz2];omega) (by unfold maxLen;omega) (by simp)
 have B1:=hide ((uH B0).grown gr1 (by simp) (fun g hg=>by cases hg))
 have X1:BoxM w1 w.heap.size (.int .i64 0) (.int .i64 0) (.slice none 0 0):=(uH X0).grown gr1 (by simp)
 have O1:=hide (show OwnB (w.heap.size+1) w1 (.slice (some ⟨w.heap.size+1,0,none⟩) 0 (r * c)) (fsL (fun p=>f (p / c) (p % c)) (0 * c)) from ⟨by rw [Nat.zero_mul];simpa [fsL] using own1,by rw [Nat.zero_mul];intro x hx;cases hx⟩)
 have HX1:=hide X1
 clear own1 gr1 X0 B0 X1
 obtain ⟨F,hF⟩:∃ F:Nat→Nat,F = fun p=>f (p / c) (p % c):=⟨_,rfl⟩
 rw [← hF] at O1
 have FV:=hide (show ∀ j k,k < c→F (j * c+k) = f j k from fun j k hk=>by rw [hF];show f ((j * c+k) / c) ((j * c+k) % c) = _;rw [place_div hk,place_mod hk])
 have FM:=hide (show mkM r c f = fsL F (r * c) from by rw [hF];rfl)
 rw [uH FM]
 generalize hrc:r * c = n at *
 have HRC:=hide hrc
 clear hrc hstep hf hF
 go_enter Tryz.func178,Tryz.ntmps178
 go_wp2_with fail
 clear hmk
 go_loopw [7,15] (fun v i wr=>∃ j:Nat,j≤r∧i = .int .i64 j∧Hid (OwnB (w.heap.size+1) wr v (fsL F (j * c)))∧Hid (BoxM wr w.heap.size (.int .i64 0) (.int .i64 0) (.slice none 0 0))∧Hid (Below w.heap.size w wr)) (fun _ i _=>r - (intOf i).toNat)
 case atStart=>exact ⟨0,Nat.zero_le _,rfl,O1,HX1,B1⟩
 case round =>
  clear O1 HX1 B1
  obtain ⟨j,hj,rfl,hO,hX,hB⟩:=hrel
  by_cases hlt:j < r
  ·have hjI:(j:Int) < (r:Int):=by omega
   have hO':=hide (show OwnB (w.heap.size+1) wr _ (fsL F (j * c+0)) from uH hO)
   clear hO
   go_wp2_with fail
   go_loopw [7,19] (fun v i wr=>∃ k:Nat,k≤c∧i = .int .i64 k∧Hid (OwnB (w.heap.size+1) wr v (fsL F (j * c+k)))∧Hid (BoxM wr w.heap.size (.int .i64 0) (.int .i64 0) (.slice none 0 0))∧Hid (Below w.heap.size w wr)) (fun _ i _=>c - (intOf i).toNat)
   case atStart=>exact ⟨0,Nat.zero_le _,rfl,hO',hX,hB⟩
   case round =>
    clear hO' hX hB
    obtain ⟨k,hk,rfl,hO,hX,hB⟩:=hrel
    by_cases hkc:k < c
    ·have hkI:(k:Int) < (c:Int):=by omega
     have C:=hide (fun w' h=>uH HS w' j k h hlt hkc)
     have ho:=hide (uH HF j k hlt hkc)
     have eo:=hide (uH FV j k hkc)
     have hlen:=hide (show (fsL F (j * c+k)).length≤1000000 from by
      rw [fsL_len]
      have:=place_lt hlt hkc
      rw [uH HRC] at this
      omega)
     generalize f j k = o at *
     go_wp2_with fail
     refine (uH C _ hB.out).mono ?_
     rintro e w2 ⟨rfl,hb2⟩
     have own2:=(uH hO).below hb2
     have box2:=(uH hX).all hb2
     have B2:=hB.out.trans (hb2.mono hB.out.size)
     obtain ⟨v3,w3,run3,own3,bel3,_,_⟩:=own2.push o (uH ho) (uH hlen) (by have:=box2.lt;omega) 22
     have RUN:=hide run3
     have O3:=hide (show OwnB (w.heap.size+1) w3 v3 (fsL F (j * c+(k+1))) from by
      rw [← Nat.add_assoc,fsL_succ,uH eo];exact own3)
     have X3:=hide (box2.below bel3 (by omega))
     have B3:=hide (B2.trans (bel3.mono (by omega)))
     clear hb2 C hO hX hB own2 box2 B2 run3 own3 bel3 ho eo hlen
     go_wp2_with (at_builtin;refine wpList_append_ran _ rfl _ _ 22 rfl _ _ _ _ rfl rfl (uH RUN) ?_;clear RUN)
     go_round
     case rel=>exact ⟨k+1,by omega,by go_num,O3,X3,B3⟩
     case measure=>simp [intOf];omega
    ·have hkk:k = c:=by omega
     subst hkk
     have hO':=hide (show OwnB (w.heap.size+1) _ _ (fsL F ((j+1) * k)) from by rw [Nat.add_mul,Nat.one_mul];exact uH hO)
     clear hO
     go_wp2_with fail
     go_round
     case rel=>exact ⟨j+1,by omega,by go_num,hO',hX,hB⟩
     case measure=>simp [intOf];omega
  ·have hjj:j = r:=by omega
   subst hjj
   rw [uH HRC] at hO
   obtain ⟨b1,d1,e1,q1⟩:=(uH hO).bits
   have hown:=(uH hO).1
   rw [fsL_len] at e1
   subst e1
   have HNew:=hide ((uH hO).newB.least (Nat.le_succ w.heap.size))
   have s0:=(uH hX).c0;have s1:=(uH hX).c1;have s2:=(uH hX).c2
   have f0:=(uH hX).free 0;have f1:=(uH hX).free 1;have f2:=(uH hX).free 2
   have XP:=(uH hX).put (.int .i64 j) (.int .i64 c) (.slice b1 n d1)
   have z0:=XP.c0;have z1:=XP.c1;have z2:=XP.c2
   have QP:=hide (q1.putM (uH hX) (.int .i64 j) (.int .i64 c) (.slice b1 n d1))
   have BP:=hide (below_putM (uH hB) (Nat.le_refl _) (.int .i64 j) (.int .i64 c) (.slice b1 n d1))
   clear q1 hown hO hX hB XP
   go_wp2
   exact bodyPost_ret (v:=.agg #[.int .i64 j,.int .i64 c,.slice b1 n d1]) (by simp [results,Tryz.results178,go_sem,z0,z1,z2]) rfl ⟨_,rfl,⟨b1,d1,by rw [fsL_len],uH HNew,uH QP⟩,uH BP⟩
end Go.Proofs.YtlnphkioddknfaaGreatDoor
namespace Go.Proofs.YtlnphkioddknfaaGreatDoor
open Go.RowKit
attribute [local go_sem ↓] Go.wp_at_zero Go.wp_at_succ
theorem fnK_down (I:List Int):∀ (m k:Nat),k≤m→fnK I m = true→fnK I k = true:=by
 intro m
 induction m with
 | zero=>intro k hk _;rw [show k = 0 by omega];rfl
 | succ m ih =>
  intro k hk h
  have h':(fnK I m && fFin (atB I m)) = true:=h
  rw [Bool.and_eq_true] at h'
  by_cases e:k = m+1
  ·subst e;exact h
  ·exact ih k (by omega) h'.1
theorem fnK_no (I:List Int) (n k:Nat) (hk:k < n) (h:fFin (atB I k) = false):fnK I n = false:=by
 cases e:fnK I n
 ·rfl
 ·have h2:(fnK I k && fFin (atB I k)) = true:=fnK_down I n (k+1) (by omega) e
  rw [h,Bool.and_false] at h2
  cases h2
end Go.Proofs.YtlnphkioddknfaaGreatDoor
namespace Go.Proofs.YtlnphkioddknfaaGreatDoor
open Go.RowKit
attribute [local go_sem ↓] Go.wp_at_zero Go.wp_at_succ
def sqK (I:List Int):Nat→Int
 | 0=>0
 | k+1=>sqK I k+fZ (atB I k) * fZ (atB I k)
end Go.Proofs.YtlnphkioddknfaaGreatDoor
namespace Go.Proofs.YtlnphkioddknfaaGreatDoor
open Go.RowKit
def smI (f:Nat→Int):Nat→Int
 | 0=>0
 | n+1=>smI f n+f n
end Go.Proofs.YtlnphkioddknfaaGreatDoor
