/- Part 20 of the texts. -/
import Derived.Test.YtcbcmlaogehimaaGreatDoorPartc19
import Derived.Test.YtcbcmlaogehimaaGreatDoorPartc18
import Derived.Test.YtcbcmlaogehimaaGreatDoorPartc17
import Derived.Test.YtcbcmlaogehimaaGreatDoorPartc15
import Derived.Laws.Cover2
import Derived.Laws.Externs
import Derived.Test.YtcbcmlaogehimaaGreatDoorPartc03
import Derived.Laws.FloatArith
import Derived.Test.YtcbcmlaogehimaaGreatDoorPartc16
import Derived.Test.YtcbcmlaogehimaaGreatDoorPartc14
import Derived.Test.YtcbcmlaogehimaaGreatDoorPartc12
import Derived.Test.YtcbcmlaogehimaaGreatDoorPartc13
import Derived.Deep.Cut
import Derived.BigQuiet
import Derived.Test.YtcbcmlaogehimaaGreatDoorPartc09
import Derived.Test.YtcbcmlaogehimaaGreatDoorPartc01
set_option maxHeartbeats 4000000
set_option maxRecDepth 20000
namespace Go.Proofs.YtcbcmlaogehimaaGreatDoor
open Go.RowKit
attribute [local go_sem ↓] Go.wp_at_zero Go.wp_at_succ
theorem mat_of (r c n cap b off i k q x:Nat) (w:World) (hq:(i:Int) * (c:Int) = (q:Int)) (hlt:q+k < n) (hn:n≤36)
  (hx:w.cell? ⟨b,off+(q+k),none⟩ = some (.int .u64 (x:Nat))) :
  Calls Tryz.prog 133 #[.agg #[.int .i64 r,.int .i64 c,.slice (some ⟨b,off,none⟩) n cap],.int .i64 i,.int .i64 k] w fun e w'=>e = .returned (.int .u64 (x:Nat))∧Below w.heap.size w w':=by
 have hb0:=hide (below_alloc9 w (.cells #[.int .i64 r,.int .i64 c,.slice (some ⟨b,off,none⟩) n cap] 24))
 have cx:=cell_keep hx (uH hb0)
 clear hx
 have hkI:(q:Int)+(k:Int) < (n:Int):=by omega
 go_enter Tryz.func133,Tryz.ntmps133
 go_wp2
 go_ret
 exact ⟨rfl,uH hb0⟩
theorem cast_mul10 (i c:Nat):(i:Int) * (c:Int) = ((i * c:Nat):Int):=by simp
theorem mat_any (r c cap i k:Nat) (ao:Option Addr) (S:List Nat) (w:World) (h:Mx w ao cap r c S) (hi:i < r) (hk:k < c) :
  Calls Tryz.prog 133 #[.agg #[.int .i64 r,.int .i64 c,.slice ao S.length cap],.int .i64 i,.int .i64 k] w fun e w'=>e = .returned (.int .u64 (elM c S i k:Nat))∧Below w.heap.size w w':=by
 obtain ⟨b,off,rfl,h2,h3,h4⟩:=h.cells hi hk
 exact mat_of r c S.length cap b off i k (i * c) _ w (cast_mul10 i c) h4 h.small h3
def rwL (c:Nat) (S:List Nat) (i:Nat):List Nat:=(List.range c).map (fun k=>elM c S i k)
theorem rwL_len (c:Nat) (S:List Nat) (i:Nat):(rwL c S i).length = c:=by simp [rwL]
theorem rwL_at (c:Nat) (S:List Nat) (i k:Nat) (h:k < c):(rwL c S i).getD k 0 = elM c S i k:=by simp [rwL,List.getD_eq_getElem?_getD,h]
theorem row_of (r c n cap i q p:Nat) (ao:Option Addr) (w:World) (hq:(i:Int) * (c:Int) = (q:Int)) (hp:((i:Int)+1) * (c:Int) = (p:Int)) (hqp:q≤p) (hlt:p≤n) (hnc:n≤cap) (hn:n≤36) (hi:i≤6) :
  Calls Tryz.prog 137 #[.agg #[.int .i64 r,.int .i64 c,.slice ao n cap],.int .i64 i] w fun e w'=>e = .returned (.slice (if cap = q then ao else ao.map (·.add (q * 1))) (p - q) (cap - q))∧Below w.heap.size w w':=by
 have hb0:=hide (below_alloc9 w (.cells #[.int .i64 r,.int .i64 c,.slice ao n cap] 24))
 by_cases h:cap = q
 ·subst h
  rw [if_pos rfl]
  go_enter Tryz.func137,Tryz.ntmps137
  go_wp2
  go_ret
  exact ⟨by simp,uH hb0⟩
 ·rw [if_neg h]
  go_enter Tryz.func137,Tryz.ntmps137
  go_wp2
  go_ret
  exact ⟨by simp,uH hb0⟩
theorem row_bits {w w':World} {ao:Option Addr} {cap r c:Nat} {S:List Nat} (h:Mx w ao cap r c S) (hb:Below w.heap.size w w') {i:Nat} (hi:i < r):BitsAt w' (if cap = i * c then ao else ao.map (·.add (i * c * 1))) (cap - i * c) (mxL (rwL c S i)):=by
 have hp:(i+1) * c≤S.length:=by rw [h.2.1];exact Nat.mul_le_mul_right c hi
 rw [Nat.add_mul,Nat.one_mul] at hp
 have hc:=h.1.1
 rw [mxL_len] at hc
 refine ⟨by rw [mxL_len,rwL_len];omega,?_,?_⟩
 ·intro x hx
  obtain ⟨y,hy,rfl⟩:=List.mem_map.1 hx
  obtain ⟨k,_,rfl⟩:=List.mem_map.1 hy
  have:=h.el_lt i k
  omega
 ·rcases Nat.eq_zero_or_pos c with e | e
  ·subst e;exact .inl rfl
  ·obtain ⟨b,off,e1,e2,e3,e4⟩:=(h.below hb).cells hi e
   refine .inr ⟨b,off+i * c,?_,e2,fun k hk=>?_⟩
   ·rw [if_neg (by omega),e1]
    simp [Addr.add]
   ·have hk':k < c:=by rwa [mxL_len,rwL_len] at hk
    obtain ⟨b',off',f1,f2,f3,f4⟩:=(h.below hb).cells hi hk'
    rw [e1] at f1
    simp only [Option.some.injEq,Addr.mk.injEq] at f1
    obtain ⟨rfl,rfl,_⟩:=f1
    rw [Nat.add_assoc,f3]
    simp [mxL,rwL,hk']
theorem row_any (r c cap i:Nat) (ao:Option Addr) (S:List Nat) (w:World) (h:Mx w ao cap r c S) (hi:i < r) :
  Calls Tryz.prog 137 #[.agg #[.int .i64 r,.int .i64 c,.slice ao S.length cap],.int .i64 i] w fun e w'=>∃ bo d,e = .returned (.slice bo c d)∧BitsAt w' bo d (mxL (rwL c S i))∧Below w.heap.size w w':=by
 have hp:(i+1) * c≤S.length:=by rw [h.2.1];exact Nat.mul_le_mul_right c hi
 have hq:i * c≤(i+1) * c:=Nat.mul_le_mul_right c (by omega)
 have hc:=h.1.1
 rw [mxL_len] at hc
 have h6:=h.2.2.1
 refine (row_of r c S.length cap i (i * c) ((i+1) * c) ao w (cast_mul10 i c) (by simp) hq hp hc h.small (by omega)).mono ?_
 rintro e w' ⟨rfl,hb⟩
 rw [show (i+1) * c - i * c = c by rw [Nat.add_mul,Nat.one_mul];omega]
 exact ⟨_,_,rfl,row_bits h hb hi,hb⟩
theorem NewB.least {H H':Nat} {ao:Option Addr} {I:List Int} (h:NewB H ao I) (hh:H'≤H):NewB H' ao I:=by
 rcases h with e | ⟨b,off,e1,e2⟩
 ·exact .inl e
 ·exact .inr ⟨b,off,e1,Nat.le_trans hh e2⟩
theorem OwnB.newB {base:Nat} {w:World} {ao:Option Addr} {n cap:Nat} {S:List Nat} (h:OwnB base w (.slice ao n cap) S):NewB base ao (mxL S):=by
 rcases h.1.2 with ⟨_,h0⟩ | ⟨g,cap',cur,hv,hg,_⟩
 ·exact .inl (by rw [List.length_eq_zero_iff.1 h0];rfl)
 ·simp only [Value.slice.injEq] at hv
  exact .inr ⟨g,0,hv.1,hg⟩
theorem build_any (fn:Nat) (caps:Array Value) (r c:Nat) (f:Nat→Nat→Nat) (w:World)
  (hcf:∀ args w,(callFunc fn args).run Tryz.prog w = .ok (.enter fn args) w) (hr:r≤6) (hc:c≤6) (hf:∀ i k,i < r→k < c→f i k < 18446744073709551616)
  (hstep:∀ w' i k,Below w.heap.size w w'→i < r→k < c→Calls Tryz.prog fn (#[.int .i64 (i:Nat),.int .i64 (k:Nat)] ++ caps) w' fun e w''=>e = .returned (.int .u64 (f i k:Nat))∧Below w'.heap.size w' w'') :
  Calls Tryz.prog 131 #[.int .i64 r,.int .i64 c,.func (.func fn) #[] caps] w fun e w'=>∃ v,e = .returned v∧NewM w.heap.size w' r c (mkM r c f) v∧Below w.heap.size w w':=by
 obtain ⟨i0,hi0,hz0,hz1,hz2⟩:=info_parts infoBits
 have HS:=hide hstep;have HF:=hide hf
 have hm:(r:Int) * (c:Int) = ((r * c:Nat):Int):=cast_mul10 r c
 have h36:r * c≤36:=Nat.mul_le_mul hr hc
 have X0:=hide (BoxM.new w (.int .i64 0) (.int .i64 0) (.slice none 0 0))
 have B0:=hide (below_alloc9 w (.cells #[.int .i64 0,.int .i64 0,.slice none 0 0] 24))
 obtain ⟨w1,hmk,own1,gr1⟩:=run_make_own (P:=Tryz.prog) (w.alloc (.cells #[.int .i64 0,.int .i64 0,.slice none 0 0] 24)) (w.heap.size+1) 22 69 i0 (.int .u64 0) 1 Tryz.underlying22 hi0 hz0 hz1 .i64 .i64 (r * c) (by rw [hz2];omega) (by unfold maxLen;omega) (by simp)
 have B1:=hide ((uH B0).grown gr1 (by simp) (fun g hg=>by cases hg))
 have X1:BoxM w1 w.heap.size (.int .i64 0) (.int .i64 0) (.slice none 0 0):=(uH X0).grown gr1 (by simp)
 have O1:=hide (show OwnB (w.heap.size+1) w1 (.slice (some ⟨w.heap.size+1,0,none⟩) 0 (r * c)) (fsL (fun p=>f (p / c) (p % c)) (0 * c)) from ⟨by rw [Nat.zero_mul];simpa [fsL] using own1,by rw [Nat.zero_mul];intro x hx;cases hx⟩)
 have HX1:=hide X1
 clear own1 gr1 X0 B0 X1
 obtain ⟨F,hF⟩:∃ F:Nat→Nat,F = fun p=>f (p / c) (p % c):=⟨_,rfl⟩
 rw [← hF] at O1
 have FV:=hide (show ∀ j k,k < c→F (j * c+k) = f j k from fun j k hk=>by rw [hF];show f ((j * c+k) / c) ((j * c+k) % c) = _;rw [place_div hk,place_mod hk])
 have FM:=hide (show mkM r c f = fsL F (r * c) from by rw [hF];rfl)
 rw [uH FM]
 generalize hrc:r * c = n at *
 have HRC:=hide hrc
 clear hrc hstep hf hF
 go_enter Tryz.func131,Tryz.ntmps131
 go_wp2_with fail
 clear hmk
 go_loopw [7,15] (fun v i wr=>∃ j:Nat,j≤r∧i = .int .i64 j∧Hid (OwnB (w.heap.size+1) wr v (fsL F (j * c)))∧Hid (BoxM wr w.heap.size (.int .i64 0) (.int .i64 0) (.slice none 0 0))∧Hid (Below w.heap.size w wr)) (fun _ i _=>r - (intOf i).toNat)
 case atStart=>exact ⟨0,Nat.zero_le _,rfl,O1,HX1,B1⟩
 case round =>
  clear O1 HX1 B1
  obtain ⟨j,hj,rfl,hO,hX,hB⟩:=hrel
  by_cases hlt:j < r
  ·have hjI:(j:Int) < (r:Int):=by omega
   have hO':=hide (show OwnB (w.heap.size+1) wr _ (fsL F (j * c+0)) from uH hO)
   clear hO
   go_wp2_with fail
   go_loopw [7,19] (fun v i wr=>∃ k:Nat,k≤c∧i = .int .i64 k∧Hid (OwnB (w.heap.size+1) wr v (fsL F (j * c+k)))∧Hid (BoxM wr w.heap.size (.int .i64 0) (.int .i64 0) (.slice none 0 0))∧Hid (Below w.heap.size w wr)) (fun _ i _=>c - (intOf i).toNat)
   case atStart=>exact ⟨0,Nat.zero_le _,rfl,hO',hX,hB⟩
   case round =>
    clear hO' hX hB
    obtain ⟨k,hk,rfl,hO,hX,hB⟩:=hrel
    by_cases hkc:k < c
    ·have hkI:(k:Int) < (c:Int):=by omega
     have C:=hide (fun w' h=>uH HS w' j k h hlt hkc)
     have ho:=hide (uH HF j k hlt hkc)
     have eo:=hide (uH FV j k hkc)
     have hlen:=hide (show (fsL F (j * c+k)).length≤1000000 from by
      rw [fsL_len]
      have:=place_lt hlt hkc
      rw [uH HRC] at this
      omega)
     generalize f j k = o at *
     go_wp2_with fail
     refine (uH C _ hB.out).mono ?_
     rintro e w2 ⟨rfl,hb2⟩
     have own2:=(uH hO).below hb2
     have box2:=(uH hX).all hb2
     have B2:=hB.out.trans (hb2.mono hB.out.size)
     obtain ⟨v3,w3,run3,own3,bel3,_,_⟩:=own2.push o (uH ho) (uH hlen) (by have:=box2.lt;omega) 22
     have RUN:=hide run3
     have O3:=hide (show OwnB (w.heap.size+1) w3 v3 (fsL F (j * c+(k+1))) from by
      rw [← Nat.add_assoc,fsL_succ,uH eo];exact own3)
     have X3:=hide (box2.below bel3 (by omega))
     have B3:=hide (B2.trans (bel3.mono (by omega)))
     clear hb2 C hO hX hB own2 box2 B2 run3 own3 bel3 ho eo hlen
     go_wp2_with (at_builtin;refine wpList_append_ran _ rfl _ _ 22 rfl _ _ _ _ rfl rfl (uH RUN) ?_;clear RUN)
     go_round
     case rel=>exact ⟨k+1,by omega,by go_num,O3,X3,B3⟩
     case measure=>simp [intOf];omega
    ·have hkk:k = c:=by omega
     subst hkk
     have hO':=hide (show OwnB (w.heap.size+1) _ _ (fsL F ((j+1) * k)) from by rw [Nat.add_mul,Nat.one_mul];exact uH hO)
     clear hO
     go_wp2_with fail
     go_round
     case rel=>exact ⟨j+1,by omega,by go_num,hO',hX,hB⟩
     case measure=>simp [intOf];omega
  ·have hjj:j = r:=by omega
   subst hjj
   rw [uH HRC] at hO
   obtain ⟨b1,d1,e1,q1⟩:=(uH hO).bits
   have hown:=(uH hO).1
   rw [fsL_len] at e1
   subst e1
   have HNew:=hide ((uH hO).newB.least (Nat.le_succ w.heap.size))
   have s0:=(uH hX).c0;have s1:=(uH hX).c1;have s2:=(uH hX).c2
   have f0:=(uH hX).free 0;have f1:=(uH hX).free 1;have f2:=(uH hX).free 2
   have XP:=(uH hX).put (.int .i64 j) (.int .i64 c) (.slice b1 n d1)
   have z0:=XP.c0;have z1:=XP.c1;have z2:=XP.c2
   have QP:=hide (q1.putM (uH hX) (.int .i64 j) (.int .i64 c) (.slice b1 n d1))
   have BP:=hide (below_putM (uH hB) (Nat.le_refl _) (.int .i64 j) (.int .i64 c) (.slice b1 n d1))
   clear q1 hown hO hX hB XP
   go_wp2
   exact bodyPost_ret (v:=.agg #[.int .i64 j,.int .i64 c,.slice b1 n d1]) (by simp [results,Tryz.results131,go_sem,z0,z1,z2]) rfl ⟨_,rfl,⟨b1,d1,by rw [fsL_len],uH HNew,uH QP⟩,uH BP⟩
end Go.Proofs.YtcbcmlaogehimaaGreatDoor
namespace Go.Proofs.YtcbcmlaogehimaaGreatDoor
open Go.RowKit
attribute [local go_sem ↓] Go.wp_at_zero Go.wp_at_succ
theorem r9biggest_any (ao:Option Addr) (c:Nat) (I:List Int) (w:World) (hI:BitsAt w ao c I) (hn:I.length≤35184372088830) :
  Calls Tryz.prog 218 #[.slice ao I.length c] w fun e w'=>e = .returned (.int .u64 (bgK I I.length:Nat))∧Below w.heap.size w w':=by
 have HI:=hide hI
 obtain ⟨n,hnn⟩:∃ n,I.length = n:=⟨_,rfl⟩
 rw [hnn] at hn ⊢
 have HN:=hide hnn
 clear hI hnn
 go_enter Tryz.func218,Tryz.ntmps218
 go_wp2_with fail
 go_loopw [3,4] (fun t i wr=>∃ k:Nat,k≤n∧i = .int .i64 k∧t = .int .u64 (bgK I k:Nat)∧Hid (Below w.heap.size w wr)) (fun _ i _=>n - (intOf i).toNat)
 case atStart=>exact ⟨0,Nat.zero_le _,rfl,rfl,Below.refl _ _⟩
 case round =>
  obtain ⟨k,hk,rfl,rfl,hB⟩:=hrel
  by_cases hlt:k < n
  ·have hkI:(k:Int) < (n:Int):=by omega
   obtain ⟨b,off,hao,hb,hc⟩:=((uH HI).below hB.out).ne (by rw [uH HN];omega)
   have hck:=hc k (by rw [uH HN];exact hlt)
   have C1:=hide (fun w'=>r8abs_any (atB I k) w' ((uH HI).lt k))
   have C2:=hide (fun w'=>r8max_any (bgK I k) (fR (atB I k)) w' (bgK_lt I k) (by have:=fR_lt (atB I k);omega))
   have eV:Hid (bgK I (k+1) = mx (bgK I k) (fR (atB I k))):=rfl
   subst hao
   clear hc
   generalize mx (bgK I k) (fR (atB I k)) = o at *
   generalize fR (atB I k) = r at *
   generalize atB I k = x at *
   generalize bgK I k = tv at *
   go_wp2_with fail
   refine (uH C1 _).mono ?_
   rintro e w2 ⟨rfl,rfl⟩
   go_wp2_with fail
   refine (uH C2 _).mono ?_
   rintro e w2 ⟨rfl,hb2⟩
   have B2:Hid (Below w.heap.size w w2):=hB.out.trans (hb2.mono hB.out.size)
   clear hb2 C1 C2
   go_wp2_with fail
   go_round
   case rel=>exact ⟨k+1,by omega,by go_num,by rw [eV.out],B2⟩
   case measure=>simp [intOf];omega
  ·have hkk:k = n:=by omega
   subst hkk
   go_wp2_with fail
   exact bodyPost_ret (v:=.int .u64 (bgK I k:Nat)) (by simp [results,Tryz.results218,go_sem]) rfl ⟨rfl,hB.out⟩
theorem fnK_down (I:List Int):∀ (m k:Nat),k≤m→fnK I m = true→fnK I k = true:=by
 intro m
 induction m with
 | zero=>intro k hk _;rw [show k = 0 by omega];rfl
 | succ m ih =>
  intro k hk h
  have h':(fnK I m && fFin (atB I m)) = true:=h
  rw [Bool.and_eq_true] at h'
  by_cases e:k = m+1
  ·subst e;exact h
  ·exact ih k (by omega) h'.1
theorem fnK_no (I:List Int) (n k:Nat) (hk:k < n) (h:fFin (atB I k) = false):fnK I n = false:=by
 cases e:fnK I n
 ·rfl
 ·have h2:(fnK I k && fFin (atB I k)) = true:=fnK_down I n (k+1) (by omega) e
  rw [h,Bool.and_false] at h2
  cases h2
theorem r9finite_any (ao:Option Addr) (c:Nat) (I:List Int) (w:World) (hI:BitsAt w ao c I) (hn:I.length≤35184372088830) :
  Calls Tryz.prog 53 #[.slice ao I.length c] w fun e w'=>e = .returned (.bool (fnK I I.length))∧Below w.heap.size w w':=by
 have HI:=hide hI
 obtain ⟨n,hnn⟩:∃ n,I.length = n:=⟨_,rfl⟩
 rw [hnn] at hn ⊢
 have HN:=hide hnn
 clear hI hnn
 obtain ⟨v,hv⟩:∃ v,fnK I n = v:=⟨_,rfl⟩
 rw [hv]
 have HV:=hide hv
 clear hv
 go_enter Tryz.func53,Tryz.ntmps53
 go_wp2_with fail
 go_loopw [3] (fun i wr=>∃ k:Nat,k≤n∧i = .int .i64 k∧Hid (fnK I k = true)∧Hid (Below w.heap.size w wr)) (fun i _=>n - (intOf i).toNat)
 case atStart=>exact ⟨0,Nat.zero_le _,rfl,rfl,Below.refl _ _⟩
 case round =>
  obtain ⟨k,hk,rfl,hq,hB⟩:=hrel
  by_cases hlt:k < n
  ·have hkI:(k:Int) < (n:Int):=by omega
   obtain ⟨b,off,hao,hb,hc⟩:=((uH HI).below hB.out).ne (by rw [uH HN];omega)
   have hck:=hc k (by rw [uH HN];exact hlt)
   have C1:=hide (fun w'=>rfinite_any (atB I k) w' ((uH HI).lt k))
   have eV:Hid (fnK I (k+1) = (fnK I k && fFin (atB I k))):=rfl
   have eF:=hide (fun h=>fnK_no I n k hlt h)
   subst hao
   clear hc
   generalize atB I k = x at *
   cases hf:fFin x
   ·have e2:=hide ((uH HV).symm.trans (uH eF hf))
    rw [hf] at C1
    have hv2:=uH e2
    subst hv2
    go_wp2_with fail
    refine (uH C1 _).mono ?_
    rintro e w2 ⟨rfl,rfl⟩
    clear C1
    go_wp2_with fail
    exact bodyPost_ret (v:=.bool false) (by simp [results,Tryz.results53,go_sem]) rfl ⟨rfl,hB.out⟩
   ·rw [hf] at C1 eV
    go_wp2_with fail
    refine (uH C1 _).mono ?_
    rintro e w2 ⟨rfl,rfl⟩
    clear C1
    go_wp2_with fail
    go_round
    case rel=>exact ⟨k+1,by omega,by go_num,by unfold Hid;rw [eV.out,hq.out];rfl,hB⟩
    case measure=>simp [intOf];omega
  ·have hkk:k = n:=by omega
   subst hkk
   have e2:=(uH HV).symm.trans hq.out
   subst e2
   go_wp2_with fail
   exact bodyPost_ret (v:=.bool true) (by simp [results,Tryz.results53,go_sem]) rfl ⟨rfl,hB.out⟩
end Go.Proofs.YtcbcmlaogehimaaGreatDoor
namespace Go.Proofs.YtcbcmlaogehimaaGreatDoor
open Go.RowKit
attribute [local go_sem ↓] Go.wp_at_zero Go.wp_at_succ
def sqK (I:List Int):Nat→Int
 | 0=>0
 | k+1=>sqK I k+fZ (atB I k) * fZ (atB I k)
end Go.Proofs.YtcbcmlaogehimaaGreatDoor
namespace Go.Proofs.YtcbcmlaogehimaaGreatDoor
open Go.RowKit
def smI (f:Nat→Int):Nat→Int
 | 0=>0
 | n+1=>smI f n+f n
end Go.Proofs.YtcbcmlaogehimaaGreatDoor
namespace Go.Proofs.YtcbcmlaogehimaaGreatDoor
open Go.RowKit
attribute [local go_sem ↓] Go.wp_at_zero Go.wp_at_succ
theorem psub_any (a b:Nat) (w:World) (ha:a < 18446744073709551616) (hb:b < 18446744073709551616) (hT:Tab w) :
  Calls Tryz.prog 202 #[.int .u64 a,.int .u64 b] w fun r w'=>r = .returned (.int .u64 (aV a (fN b):Nat))∧Below w.heap.size w w':=by
 have K:=hide (ssub_any a b w ha hb hT)
 clear ha hb hT
 generalize aV a (fN b) = o at *
 generalize aF a (fN b) = f at *
 go_enter Tryz.func202,Tryz.ntmps202
 go_wp2_with fail
 refine Calls.mono (uH K) ?_
 rintro e w1 ⟨rfl,hb1⟩
 clear K
 go_wp2
 go_ret
 exact ⟨rfl,hb1⟩
theorem pdiv_any (a b:Nat) (w:World) (ha:a < 18446744073709551616) (hb:b < 18446744073709551616) (hT:Tab w) :
  Calls Tryz.prog 204 #[.int .u64 a,.int .u64 b] w fun r w'=>r = .returned (.int .u64 (dV a b:Nat))∧Below w.heap.size w w':=by
 have K:=hide (tdiv_any a b w ha hb hT)
 clear ha hb hT
 generalize dV a b = o at *
 generalize dF a b = f at *
 go_enter Tryz.func204,Tryz.ntmps204
 go_wp2_with fail
 refine Calls.mono (uH K) ?_
 rintro e w1 ⟨rfl,hb1⟩
 clear K
 go_wp2
 go_ret
 exact ⟨rfl,hb1⟩
end Go.Proofs.YtcbcmlaogehimaaGreatDoor
namespace Go.Proofs.YtcbcmlaogehimaaGreatDoor
open Go.RowKit
attribute [local go_sem ↓] Go.wp_at_zero Go.wp_at_succ
def MatsAt (w:World) (g k:Nat) (R C:Nat→Int) (A:Nat→Option Addr) (N P:Nat→Nat):Prop :=
 ∀ i,i < k→w.cell? ⟨g,i * 3,none⟩ = some (.int .i64 (R i))∧w.cell? ⟨g,i * 3+1,none⟩ = some (.int .i64 (C i))∧w.cell? ⟨g,i * 3+2,none⟩ = some (.slice (A i) (N i) (P i))
theorem right_of (k g:Nat) (R C:Nat→Int) (A:Nat→Option Addr) (N P:Nat→Nat) (w:World) (hk:k≤2) (hn:∀ i,i < k→N i≤35184372088830) (hM:MatsAt w g k R C A N P) :
  Calls Tryz.prog 130 #[.slice (some ⟨g,0,none⟩) k k] w fun e w'=>∃ b,e = .returned (.bool b)∧(b = true ↔ ∀ i,i < k→okB (R i) (C i) (N i) = true)∧Below w.heap.size w w':=by
 have HM:=hide hM;have HN:=hide hn
 clear hM hn
 go_enter Tryz.func130,Tryz.ntmps130
 go_wp2_with fail
 go_loopw [7] (fun i wr=>∃ j:Nat,j≤k∧i = .int .i64 j∧Hid (Below w.heap.size w wr)∧Hid (∀ t,t < j→okB (R t) (C t) (N t) = true)) (fun i _=>k - (intOf i).toNat)
 case atStart=>exact ⟨0,Nat.zero_le _,rfl,Below.refl _ _,fun t h=>by omega⟩
 case round =>
  obtain ⟨j,hj,rfl,hB,hO⟩:=hrel
  by_cases hlt:j < k
  ·have hkI:(j:Int) < (k:Int):=by omega
   obtain ⟨c0,c1,c2⟩:=uH HM j hlt
   have hN:=uH HN j hlt
   have C1:=hide (fun w'=>mcheck_any (R j) (C j) (A j) (N j) (P j) w' hN)
   have glt:=World.block_lt_of_cell? w _ c0
   have BB:=hide (hB.out.mono (Nat.le_refl _))
   have d0:wr.cell? ⟨g,j * 3,none⟩ = some (.int .i64 (R j)):=by rw [hB.out.cell (p:=⟨g,j * 3,none⟩) glt];exact c0
   have d1:wr.cell? ⟨g,j * 3+1,none⟩ = some (.int .i64 (C j)):=by rw [hB.out.cell (p:=⟨g,j * 3+1,none⟩) glt];exact c1
   have d2:wr.cell? ⟨g,j * 3+2,none⟩ = some (.slice (A j) (N j) (P j)):=by rw [hB.out.cell (p:=⟨g,j * 3+2,none⟩) glt];exact c2
   have BP:=hide ((uH BB).alloc (uH BB).size (.cells #[.int .i64 (R j),.int .i64 (C j),.slice (A j) (N j) (P j)] 24))
   clear c0 c1 c2 hN hB BB glt
   go_wp2_with fail
   refine (uH C1 _).mono ?_
   rintro e w2 ⟨rfl,hb2⟩
   have B2:Hid (Below w.heap.size w w2):=(uH BP).trans (hb2.mono (uH BP).size)
   clear C1 hb2 d0 d1 d2 BP
   cases ho:okB (R j) (C j) (N j)
   ·have HO:=hide ho
    clear ho
    rw [if_neg (by decide)]
    go_wp2
    go_ret
    refine ⟨false,rfl,⟨(fun h=>nomatch h),fun h=>?_⟩,uH B2⟩
    have:=h j hlt
    rw [uH HO] at this
    cases this
   ·have HO:=hide ho
    clear ho
    rw [if_pos rfl]
    go_wp2
    go_round
    case rel =>
     refine ⟨j+1,by omega,by go_num,B2,hide fun t ht=>?_⟩
     by_cases e:t = j
     ·subst e;exact uH HO
     ·exact hO.out t (by omega)
    case measure=>simp [intOf];omega
  ·have hjk:j = k:=by omega
   subst hjk
   go_wp2
   go_ret
   exact ⟨true,rfl,⟨fun _=>hO.out,fun _=>rfl⟩,hB.out⟩
theorem right1_any (r c:Int) (ao:Option Addr) (n cap:Nat) (w:World) (hn:n≤35184372088830) :
  Calls Tryz.prog 130 #[.slice (some ⟨w.heap.size,0,none⟩) 1 1] (w.alloc (.cells #[.int .i64 r,.int .i64 c,.slice ao n cap] 24)) fun e w'=>e = .returned (.bool (okB r c n))∧Below w.heap.size w w':=by
 have X:=BoxM.new w (.int .i64 r) (.int .i64 c) (.slice ao n cap)
 have B:=below_alloc9 w (.cells #[.int .i64 r,.int .i64 c,.slice ao n cap] 24)
 refine (right_of 1 w.heap.size (fun _=>r) (fun _=>c) (fun _=>ao) (fun _=>n) (fun _=>cap) _ (by omega) (fun _ _=>hn) ?_).mono ?_
 ·intro i hi
  obtain rfl:i = 0:=by omega
  exact ⟨X.c0,X.c1,X.c2⟩
 ·rintro e w' ⟨b,rfl,hb,hB⟩
  refine ⟨?_,B.trans (hB.mono B.size)⟩
  have:b = okB r c n:=by
   cases h:okB r c n
   ·cases b
    ·rfl
    ·have:=hb.1 rfl 0 (by omega);rw [h] at this;cases this
   ·exact hb.2 (fun _ _=>h)
  rw [this]
theorem right2_any (r c:Int) (ao:Option Addr) (n cap:Nat) (p q:Int) (bo:Option Addr) (m d:Nat) (w:World) (hn:n≤35184372088830) (hm:m≤35184372088830) :
  Calls Tryz.prog 130 #[.slice (some ⟨w.heap.size,0,none⟩) 2 2] (w.alloc (.cells #[.int .i64 r,.int .i64 c,.slice ao n cap,.int .i64 p,.int .i64 q,.slice bo m d] 24)) fun e w'=>e = .returned (.bool (okB r c n && okB p q m))∧Below w.heap.size w w':=by
 have X:(w.alloc (.cells #[.int .i64 r,.int .i64 c,.slice ao n cap,.int .i64 p,.int .i64 q,.slice bo m d] 24)).heap[w.heap.size]? = some (.cells #[.int .i64 r,.int .i64 c,.slice ao n cap,.int .i64 p,.int .i64 q,.slice bo m d] 24 (0,0)):=heap_alloc_new w _
 have B:=below_alloc9 w (.cells #[.int .i64 r,.int .i64 c,.slice ao n cap,.int .i64 p,.int .i64 q,.slice bo m d] 24)
 refine (right_of 2 w.heap.size (fun i=>if i = 0 then r else p) (fun i=>if i = 0 then c else q) (fun i=>if i = 0 then ao else bo) (fun i=>if i = 0 then n else m) (fun i=>if i = 0 then cap else d) _ (by omega) (fun i _=>by split <;> assumption) ?_).mono ?_
 ·intro i hi
  rcases (show i = 0 ∨ i = 1 by omega) with rfl | rfl
  ·exact ⟨by rw [cell_of_row _ _ _ _ _ _ X];rfl,by rw [cell_of_row _ _ _ _ _ _ X];rfl,by rw [cell_of_row _ _ _ _ _ _ X];rfl⟩
  ·exact ⟨by rw [cell_of_row _ _ _ _ _ _ X];rfl,by rw [cell_of_row _ _ _ _ _ _ X];rfl,by rw [cell_of_row _ _ _ _ _ _ X];rfl⟩
 ·rintro e w' ⟨b,rfl,hb,hB⟩
  refine ⟨?_,B.trans (hB.mono B.size)⟩
  have:b = (okB r c n && okB p q m):=by
   cases h:(okB r c n && okB p q m)
   ·cases b
    ·rfl
    ·have h0:=hb.1 rfl 0 (by omega)
     have h1:=hb.1 rfl 1 (by omega)
     simp only [if_true,Nat.one_ne_zero,if_false] at h0 h1
     rw [h0,h1] at h
     cases h
   ·have h':=Bool.and_eq_true_iff.1 h
    refine hb.2 (fun i hi=>?_)
    rcases (show i = 0 ∨ i = 1 by omega) with rfl | rfl
    ·exact h'.1
    ·exact h'.2
  rw [this]
theorem lies_any (f p e:Int) (w:World) (hf:-9223372036854775808≤f∧f≤9223372036854775807) (he:0≤e∧e≤6) :
  Calls Tryz.prog 153 #[.int .i64 f,.int .i64 p,.int .i64 e] w fun x w'=>x = .returned (.bool (decide (0≤f∧0≤p∧p≤e - f)))∧w = w':=by
 rcases (show f < 0 ∨ (0≤f∧p < 0) ∨ (0≤f∧0≤p) by omega) with h1 | ⟨h1,h2⟩ | ⟨h1,h2⟩
 ·rw [decide_eq_false (by omega)]
  go_enter Tryz.func153,Tryz.ntmps153
  go_wp2
  go_ret
  exact ⟨rfl,rfl⟩
 ·rw [decide_eq_false (by omega)]
  go_enter Tryz.func153,Tryz.ntmps153
  go_wp2
  go_ret
  exact ⟨rfl,rfl⟩
 ·rw [show decide (0≤f∧0≤p∧p≤e - f) = decide (p≤e - f) from decide_eq_decide.2 (by omega)]
  go_enter Tryz.func153,Tryz.ntmps153
  go_wp2
  go_ret
  exact ⟨rfl,rfl⟩
end Go.Proofs.YtcbcmlaogehimaaGreatDoor
namespace Go.Proofs.YtcbcmlaogehimaaGreatDoor
open Go.RowKit
attribute [local go_sem ↓] Go.wp_at_zero Go.wp_at_succ
theorem turned1_of (r c n cap i k x bx:Nat) (ao:Option Addr) (w:World) (hX:BoxM w bx (.int .i64 r) (.int .i64 c) (.slice ao n cap))
  (C:Calls Tryz.prog 133 #[.agg #[.int .i64 r,.int .i64 c,.slice ao n cap],.int .i64 k,.int .i64 i] w fun e w'=>e = .returned (.int .u64 (x:Nat))∧Below w.heap.size w w') :
  Calls Tryz.prog 183 #[.int .i64 i,.int .i64 k,.pointer (some ⟨bx,0,none⟩)] w fun e w'=>e = .returned (.int .u64 (x:Nat))∧Below w.heap.size w w':=by
 have K:=hide C
 have p0:=hX.c0;have p1:=hX.c1;have p2:=hX.c2
 clear C hX
 go_enter Tryz.func183,Tryz.ntmps183
 go_wp2_with fail
 refine Calls.mono (uH K) ?_
 rintro e w1 ⟨rfl,hb1⟩
 clear K
 go_wp2
 go_ret
 exact ⟨rfl,hb1⟩
theorem cfTurned1 (args:Array Value) (w:World):(callFunc 183 args).run Tryz.prog w = .ok (.enter 183 args) w:=by
 simp only [callFunc,go_sem]
 rfl
theorem turned_of (r c n cap p q:Nat) (ao:Option Addr) (S:List Nat) (w:World)
  (C:Calls Tryz.prog 131 #[.int .i64 c,.int .i64 r,.func (.func 183) #[] #[.pointer (some ⟨w.heap.size,0,none⟩)]] ((w.alloc (.cells #[.int .i64 r,.int .i64 c,.slice ao n cap] 24)).alloc (.cells #[.int .i64 0,.int .i64 0,.slice none 0 0] 24)) fun e w'=>∃ v,e = .returned v∧NewM w.heap.size w' p q S v∧Below w.heap.size w w'∧BoxM w' (w.heap.size+1) (.int .i64 0) (.int .i64 0) (.slice none 0 0)) :
  Calls Tryz.prog 134 #[.agg #[.int .i64 r,.int .i64 c,.slice ao n cap]] w fun e w'=>∃ v,e = .returned v∧NewM w.heap.size w' p q S v∧Below w.heap.size w w':=by
 have K:=hide C
 clear C
 go_enter Tryz.func134,Tryz.ntmps134
 go_wp2_with fail
 refine Calls.mono (uH K) ?_
 rintro e w1 ⟨v,rfl,⟨bo,d,rfl,n1,q1⟩,hb1,hX⟩
 have f0:=hX.free 0;have f1:=hX.free 1;have f2:=hX.free 2
 have XP:=hX.put (.int .i64 p) (.int .i64 q) (.slice bo S.length d)
 have z0:=XP.c0;have z1:=XP.c1;have z2:=XP.c2
 have s0:=hX.c0;have s1:=hX.c1;have s2:=hX.c2
 have Q:=hide (q1.putM hX (.int .i64 p) (.int .i64 q) (.slice bo S.length d))
 have B:=hide (below_putM hb1 (b:=w.heap.size+1) (by omega) (.int .i64 p) (.int .i64 q) (.slice bo S.length d))
 clear K XP q1 hb1 hX
 go_wp2
 exact bodyPost_ret (v:=.agg #[.int .i64 p,.int .i64 q,.slice bo S.length d]) (by simp [results,Tryz.results134,go_sem,z0,z1,z2]) rfl ⟨_,rfl,⟨bo,d,rfl,n1,uH Q⟩,uH B⟩
theorem turned_any (r c cap:Nat) (ao:Option Addr) (S:List Nat) (w:World) (h:Mx w ao cap r c S) :
  Calls Tryz.prog 134 #[.agg #[.int .i64 r,.int .i64 c,.slice ao S.length cap]] w fun e w'=>∃ v,e = .returned v∧NewM w.heap.size w' c r (tuM r c S) v∧Below w.heap.size w w':=by
 refine turned_of r c S.length cap c r ao (tuM r c S) w ?_
 have b0:=below_alloc9 w (.cells #[.int .i64 r,.int .i64 c,.slice ao S.length cap] 24)
 have x0:=BoxM.new w (.int .i64 r) (.int .i64 c) (.slice ao S.length cap)
 have s0:=size_alloc9 w (.cells #[.int .i64 r,.int .i64 c,.slice ao S.length cap] 24)
 generalize w.alloc (.cells #[.int .i64 r,.int .i64 c,.slice ao S.length cap] 24) = w1 at *
 have b1:=below_alloc9 w1 (.cells #[.int .i64 0,.int .i64 0,.slice none 0 0] 24)
 have x1:=BoxM.new w1 (.int .i64 0) (.int .i64 0) (.slice none 0 0)
 have y0:=x0.all b1
 generalize w1.alloc (.cells #[.int .i64 0,.int .i64 0,.slice none 0 0] 24) = w2 at *
 have bb:Below w.heap.size w w2:=b0.trans (b1.mono b0.size)
 rw [s0] at x1
 refine Calls.mono (build_any 183 #[.pointer (some ⟨w.heap.size,0,none⟩)] c r (fun k i=>elM c S i k) w2 cfTurned1 h.2.2.2 h.2.2.1 (fun k i _ _=>h.el_lt i k) ?_) ?_
 ·intro w' k i hb hk hi
  have hb':Below w.heap.size w w':=bb.trans (hb.mono bb.size)
  exact turned1_of r c S.length cap k i _ w.heap.size ao w' (y0.all hb) (mat_any r c cap i k ao S w' (h.below hb') hi hk)
 ·rintro e w' ⟨v,rfl,hv,hb⟩
  exact ⟨v,rfl,hv.least bb.size,bb.trans (hb.mono bb.size),x1.all hb⟩
end Go.Proofs.YtcbcmlaogehimaaGreatDoor
