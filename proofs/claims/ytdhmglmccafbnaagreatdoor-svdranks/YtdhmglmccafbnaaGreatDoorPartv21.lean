/- Part 21 of the texts. -/
import Derived.Test.YtdhmglmccafbnaaGreatDoorPartv20
import Derived.Test.YtdhmglmccafbnaaGreatDoorPartv19
import Derived.Test.YtdhmglmccafbnaaGreatDoorPartv18
import Derived.Test.YtdhmglmccafbnaaGreatDoorPartv16
import Derived.Test.YtdhmglmccafbnaaGreatDoorPartv17
import Derived.Test.YtdhmglmccafbnaaGreatDoorPartv14
import Derived.Test.YtdhmglmccafbnaaGreatDoorPartv12
import Derived.Test.YtdhmglmccafbnaaGreatDoorPartv13
import Derived.Deep.Cut
import Derived.BigQuiet
import Derived.Test.YtdhmglmccafbnaaGreatDoorPartv09
import Derived.Test.YtdhmglmccafbnaaGreatDoorPartv01
set_option maxHeartbeats 4000000
set_option maxRecDepth 20000
namespace Go.Proofs.YtdhmglmccafbnaaGreatDoor
open Go.RowKit
attribute [local go_sem ↓] Go.wp_at_zero Go.wp_at_succ
theorem mat_of (r c n cap b off i k q x:Nat) (w:World) (hq:(i:Int) * (c:Int) = (q:Int)) (hlt:q+k < n) (hn:n≤36)
  (hx:w.cell? ⟨b,off+(q+k),none⟩ = some (.int .u64 (x:Nat))) :
  Calls Tryz.prog 183 #[.agg #[.int .i64 r,.int .i64 c,.slice (some ⟨b,off,none⟩) n cap],.int .i64 i,.int .i64 k] w fun e w'=>e = .returned (.int .u64 (x:Nat))∧Below w.heap.size w w':=by
 have hb0:=hide (below_alloc9 w (.cells #[.int .i64 r,.int .i64 c,.slice (some ⟨b,off,none⟩) n cap] 25))
 have cx:=cell_keep hx (uH hb0)
 clear hx
 have hkI:(q:Int)+(k:Int) < (n:Int):=by omega
 go_enter Tryz.func183,Tryz.ntmps183
 go_wp2
 go_ret
 exact ⟨rfl,uH hb0⟩
theorem cast_mul10 (i c:Nat):(i:Int) * (c:Int) = ((i * c:Nat):Int):=by simp
theorem mat_any (r c cap i k:Nat) (ao:Option Addr) (S:List Nat) (w:World) (h:Mx w ao cap r c S) (hi:i < r) (hk:k < c) :
  Calls Tryz.prog 183 #[.agg #[.int .i64 r,.int .i64 c,.slice ao S.length cap],.int .i64 i,.int .i64 k] w fun e w'=>e = .returned (.int .u64 (elM c S i k:Nat))∧Below w.heap.size w w':=by
 obtain ⟨b,off,rfl,h2,h3,h4⟩:=h.cells hi hk
 exact mat_of r c S.length cap b off i k (i * c) _ w (cast_mul10 i c) h4 h.small h3
theorem NewB.least {H H':Nat} {ao:Option Addr} {I:List Int} (h:NewB H ao I) (hh:H'≤H):NewB H' ao I:=by
 rcases h with e | ⟨b,off,e1,e2⟩
 ·exact .inl e
 ·exact .inr ⟨b,off,e1,Nat.le_trans hh e2⟩
theorem OwnB.newB {base:Nat} {w:World} {ao:Option Addr} {n cap:Nat} {S:List Nat} (h:OwnB base w (.slice ao n cap) S):NewB base ao (mxL S):=by
 rcases h.1.2 with ⟨_,h0⟩ | ⟨g,cap',cur,hv,hg,_⟩
 ·exact .inl (by rw [List.length_eq_zero_iff.1 h0];rfl)
 ·simp only [Value.slice.injEq] at hv
  exact .inr ⟨g,0,hv.1,hg⟩
theorem build_any (fn:Nat) (caps:Array Value) (r c:Nat) (f:Nat→Nat→Nat) (w:World)
  (hcf:∀ args w,(callFunc fn args).run Tryz.prog w = .ok (.enter fn args) w) (hr:r≤6) (hc:c≤6) (hf:∀ i k,i < r→k < c→f i k < 18446744073709551616)
  (hstep:∀ w' i k,Below w.heap.size w w'→i < r→k < c→Calls Tryz.prog fn (#[.int .i64 (i:Nat),.int .i64 (k:Nat)] ++ caps) w' fun e w''=>e = .returned (.int .u64 (f i k:Nat))∧Below w'.heap.size w' w'') :
  Calls Tryz.prog 181 #[.int .i64 r,.int .i64 c,.func (.func fn) #[] caps] w fun e w'=>∃ v,e = .returned v∧NewM w.heap.size w' r c (mkM r c f) v∧Below w.heap.size w w':=by
 obtain ⟨i0,hi0,hz0,hz1,hz2⟩:=info_parts infoBits
 have HS:=hide hstep;have HF:=hide hf
 have hm:(r:Int) * (c:Int) = ((r * c:Nat):Int):=cast_mul10 r c
 have h36:r * c≤36:=Nat.mul_le_mul hr hc
 have X0:=hide (BoxM.new w (.int .i64 0) (.int .i64 0) (.slice none 0 0))
 have B0:=hide (below_alloc9 w (.cells #[.int .i64 0,.int .i64 0,.slice none 0 0] 25))
 obtain ⟨w1,hmk,own1,gr1⟩:=run_make_own (P:=Tryz.prog) (w.alloc (.cells #[.int .i64 0,.int .i64 0,.slice none 0 0] 25)) (w.heap.size+1) 23 28 i0 (.int .u64 0) 1 Tryz.underlying23 hi0 hz0 hz1 .i64 .i64 (r * c) (by rw [hz2];omega) (by unfold maxLen;omega) (by simp)
 have B1:=hide ((uH B0).grown gr1 (by simp) (fun g hg=>by cases hg))
 have X1:BoxM w1 w.heap.size (.int .i64 0) (.int .i64 0) (.slice none 0 0):=(uH X0).grown gr1 (by simp)
 have O1:=hide (show OwnB (w.heap.size+1) w1 (.slice (some ⟨w.heap.size+1,0,none⟩) 0 (r * c)) (fsL (fun p=>f (p / c) (p % c)) (0 * c)) from ⟨by rw [Nat.zero_mul];simpa [fsL] using own1,by rw [Nat.zero_mul];intro x hx;cases hx⟩)
 have HX1:=hide X1
 clear own1 gr1 X0 B0 X1
 obtain ⟨F,hF⟩:∃ F:Nat→Nat,F = fun p=>f (p / c) (p % c):=⟨_,rfl⟩
 rw [← hF] at O1
 have FV:=hide (show ∀ j k,k < c→F (j * c+k) = f j k from fun j k hk=>by rw [hF];show f ((j * c+k) / c) ((j * c+k) % c) = _;rw [place_div hk,place_mod hk])
 have FM:=hide (show mkM r c f = fsL F (r * c) from by rw [hF];rfl)
 rw [uH FM]
 generalize hrc:r * c = n at *
 have HRC:=hide hrc
 clear hrc hstep hf hF
 go_enter Tryz.func181,Tryz.ntmps181
 go_wp2_with fail
 clear hmk
 go_loopw [7,15] (fun v i wr=>∃ j:Nat,j≤r∧i = .int .i64 j∧Hid (OwnB (w.heap.size+1) wr v (fsL F (j * c)))∧Hid (BoxM wr w.heap.size (.int .i64 0) (.int .i64 0) (.slice none 0 0))∧Hid (Below w.heap.size w wr)) (fun _ i _=>r - (intOf i).toNat)
 case atStart=>exact ⟨0,Nat.zero_le _,rfl,O1,HX1,B1⟩
 case round =>
  clear O1 HX1 B1
  obtain ⟨j,hj,rfl,hO,hX,hB⟩:=hrel
  by_cases hlt:j < r
  ·have hjI:(j:Int) < (r:Int):=by omega
   have hO':=hide (show OwnB (w.heap.size+1) wr _ (fsL F (j * c+0)) from uH hO)
   clear hO
   go_wp2_with fail
   go_loopw [7,19] (fun v i wr=>∃ k:Nat,k≤c∧i = .int .i64 k∧Hid (OwnB (w.heap.size+1) wr v (fsL F (j * c+k)))∧Hid (BoxM wr w.heap.size (.int .i64 0) (.int .i64 0) (.slice none 0 0))∧Hid (Below w.heap.size w wr)) (fun _ i _=>c - (intOf i).toNat)
   case atStart=>exact ⟨0,Nat.zero_le _,rfl,hO',hX,hB⟩
   case round =>
    clear hO' hX hB
    obtain ⟨k,hk,rfl,hO,hX,hB⟩:=hrel
    by_cases hkc:k < c
    ·have hkI:(k:Int) < (c:Int):=by omega
     have C:=hide (fun w' h=>uH HS w' j k h hlt hkc)
     have ho:=hide (uH HF j k hlt hkc)
     have eo:=hide (uH FV j k hkc)
     have hlen:=hide (show (fsL F (j * c+k)).length≤1000000 from by
      rw [fsL_len]
      have:=place_lt hlt hkc
      rw [uH HRC] at this
      omega)
     generalize f j k = o at *
     go_wp2_with fail
     refine (uH C _ hB.out).mono ?_
     rintro e w2 ⟨rfl,hb2⟩
     have own2:=(uH hO).below hb2
     have box2:=(uH hX).all hb2
     have B2:=hB.out.trans (hb2.mono hB.out.size)
     obtain ⟨v3,w3,run3,own3,bel3,_,_⟩:=own2.push o (uH ho) (uH hlen) (by have:=box2.lt;omega) 23
     have RUN:=hide run3
     have O3:=hide (show OwnB (w.heap.size+1) w3 v3 (fsL F (j * c+(k+1))) from by
      rw [← Nat.add_assoc,fsL_succ,uH eo];exact own3)
     have X3:=hide (box2.below bel3 (by omega))
     have B3:=hide (B2.trans (bel3.mono (by omega)))
     clear hb2 C hO hX hB own2 box2 B2 run3 own3 bel3 ho eo hlen
     go_wp2_with (at_builtin;refine wpList_append_ran _ rfl _ _ 23 rfl _ _ _ _ rfl rfl (uH RUN) ?_;clear RUN)
     go_round
     case rel=>exact ⟨k+1,by omega,by go_num,O3,X3,B3⟩
     case measure=>simp [intOf];omega
    ·have hkk:k = c:=by omega
     subst hkk
     have hO':=hide (show OwnB (w.heap.size+1) _ _ (fsL F ((j+1) * k)) from by rw [Nat.add_mul,Nat.one_mul];exact uH hO)
     clear hO
     go_wp2_with fail
     go_round
     case rel=>exact ⟨j+1,by omega,by go_num,hO',hX,hB⟩
     case measure=>simp [intOf];omega
  ·have hjj:j = r:=by omega
   subst hjj
   rw [uH HRC] at hO
   obtain ⟨b1,d1,e1,q1⟩:=(uH hO).bits
   have hown:=(uH hO).1
   rw [fsL_len] at e1
   subst e1
   have HNew:=hide ((uH hO).newB.least (Nat.le_succ w.heap.size))
   have s0:=(uH hX).c0;have s1:=(uH hX).c1;have s2:=(uH hX).c2
   have f0:=(uH hX).free 0;have f1:=(uH hX).free 1;have f2:=(uH hX).free 2
   have XP:=(uH hX).put (.int .i64 j) (.int .i64 c) (.slice b1 n d1)
   have z0:=XP.c0;have z1:=XP.c1;have z2:=XP.c2
   have QP:=hide (q1.putM (uH hX) (.int .i64 j) (.int .i64 c) (.slice b1 n d1))
   have BP:=hide (below_putM (uH hB) (Nat.le_refl _) (.int .i64 j) (.int .i64 c) (.slice b1 n d1))
   clear q1 hown hO hX hB XP
   go_wp2
   exact bodyPost_ret (v:=.agg #[.int .i64 j,.int .i64 c,.slice b1 n d1]) (by simp [results,Tryz.results181,go_sem,z0,z1,z2]) rfl ⟨_,rfl,⟨b1,d1,by rw [fsL_len],uH HNew,uH QP⟩,uH BP⟩
end Go.Proofs.YtdhmglmccafbnaaGreatDoor
namespace Go.Proofs.YtdhmglmccafbnaaGreatDoor
open Go.RowKit
def BoxT (T:Nat) (w:World) (b:Nat) (x y z:Value):Prop:=w.heap[b]? = some (.cells #[x,y,z] T (0,0))
theorem BoxT.c0 {T:Nat} {w:World} {b:Nat} {x y z:Value} (h:BoxT T w b x y z):w.cell? ⟨b,0,none⟩ = some x:=by rw [cell_of_row w b 0 _ _ _ h];rfl
theorem BoxT.c1 {T:Nat} {w:World} {b:Nat} {x y z:Value} (h:BoxT T w b x y z):w.cell? ⟨b,1,none⟩ = some y:=by rw [cell_of_row w b 1 _ _ _ h];rfl
theorem BoxT.c2 {T:Nat} {w:World} {b:Nat} {x y z:Value} (h:BoxT T w b x y z):w.cell? ⟨b,2,none⟩ = some z:=by rw [cell_of_row w b 2 _ _ _ h];rfl
theorem BoxT.lt {T:Nat} {w:World} {b:Nat} {x y z:Value} (h:BoxT T w b x y z):b < w.heap.size:=(Array.getElem?_eq_some_iff.1 h).1
theorem BoxT.below {T:Nat} {w w':World} {b:Nat} {x y z:Value} (h:BoxT T w b x y z) {B:Nat} (hb:Below B w w') (hlt:b < B):BoxT T w' b x y z:=(hb.block b hlt).trans h
theorem BoxT.new (T:Nat) (w:World) (x y z:Value):BoxT T (w.alloc (.cells #[x,y,z] T)) w.heap.size x y z:=heap_alloc_new w _
theorem BoxT.all {T:Nat} {w w':World} {b:Nat} {x y z:Value} (h:BoxT T w b x y z) (hb:Below w.heap.size w w'):BoxT T w' b x y z:=h.below hb h.lt
theorem BoxT.other {T:Nat} {w:World} {b:Nat} {x y z:Value} (h:BoxT T w b x y z) {p:Addr} (hp:b ≠ p.block) (u:Value):BoxT T (w.setCell p u) b x y z:=(Below.heap_setCell w p u b hp).trans h
end Go.Proofs.YtdhmglmccafbnaaGreatDoor
namespace Go.Proofs.YtdhmglmccafbnaaGreatDoor
open Go.RowKit
attribute [local go_sem ↓] Go.wp_at_zero Go.wp_at_succ
def MatsAt (w:World) (g k:Nat) (R C:Nat→Int) (A:Nat→Option Addr) (N P:Nat→Nat):Prop :=
 ∀ i,i < k→w.cell? ⟨g,i * 3,none⟩ = some (.int .i64 (R i))∧w.cell? ⟨g,i * 3+1,none⟩ = some (.int .i64 (C i))∧w.cell? ⟨g,i * 3+2,none⟩ = some (.slice (A i) (N i) (P i))
theorem right_of (k g:Nat) (R C:Nat→Int) (A:Nat→Option Addr) (N P:Nat→Nat) (w:World) (hk:k≤2) (hn:∀ i,i < k→N i≤35184372088830) (hM:MatsAt w g k R C A N P) :
  Calls Tryz.prog 179 #[.slice (some ⟨g,0,none⟩) k k] w fun e w'=>∃ b,e = .returned (.bool b)∧(b = true ↔ ∀ i,i < k→okB (R i) (C i) (N i) = true)∧Below w.heap.size w w':=by
 have HM:=hide hM;have HN:=hide hn
 clear hM hn
 go_enter Tryz.func179,Tryz.ntmps179
 go_wp2_with fail
 go_loopw [7] (fun i wr=>∃ j:Nat,j≤k∧i = .int .i64 j∧Hid (Below w.heap.size w wr)∧Hid (∀ t,t < j→okB (R t) (C t) (N t) = true)) (fun i _=>k - (intOf i).toNat)
 case atStart=>exact ⟨0,Nat.zero_le _,rfl,Below.refl _ _,fun t h=>by omega⟩
 case round =>
  obtain ⟨j,hj,rfl,hB,hO⟩:=hrel
  by_cases hlt:j < k
  ·have hkI:(j:Int) < (k:Int):=by omega
   obtain ⟨c0,c1,c2⟩:=uH HM j hlt
   have hN:=uH HN j hlt
   have C1:=hide (fun w'=>mcheck_any (R j) (C j) (A j) (N j) (P j) w' hN)
   have glt:=World.block_lt_of_cell? w _ c0
   have BB:=hide (hB.out.mono (Nat.le_refl _))
   have d0:wr.cell? ⟨g,j * 3,none⟩ = some (.int .i64 (R j)):=by rw [hB.out.cell (p:=⟨g,j * 3,none⟩) glt];exact c0
   have d1:wr.cell? ⟨g,j * 3+1,none⟩ = some (.int .i64 (C j)):=by rw [hB.out.cell (p:=⟨g,j * 3+1,none⟩) glt];exact c1
   have d2:wr.cell? ⟨g,j * 3+2,none⟩ = some (.slice (A j) (N j) (P j)):=by rw [hB.out.cell (p:=⟨g,j * 3+2,none⟩) glt];exact c2
   have BP:=hide ((uH BB).alloc (uH BB).size (.cells #[.int .i64 (R j),.int .i64 (C j),.slice (A j) (N j) (P j)] 25))
   clear c0 c1 c2 hN hB BB glt
   go_wp2_with fail
   refine (uH C1 _).mono ?_
   rintro e w2 ⟨rfl,hb2⟩
   have B2:Hid (Below w.heap.size w w2):=(uH BP).trans (hb2.mono (uH BP).size)
   clear C1 hb2 d0 d1 d2 BP
   cases ho:okB (R j) (C j) (N j)
   ·have HO:=hide ho
    clear ho
    rw [if_neg (by decide)]
    go_wp2
    go_ret
    refine ⟨false,rfl,⟨(fun h=>nomatch h),fun h=>?_⟩,uH B2⟩
    have:=h j hlt
    rw [uH HO] at this
    cases this
   ·have HO:=hide ho
    clear ho
    rw [if_pos rfl]
    go_wp2
    go_round
    case rel =>
     refine ⟨j+1,by omega,by go_num,B2,hide fun t ht=>?_⟩
     by_cases e:t = j
     ·subst e;exact uH HO
     ·exact hO.out t (by omega)
    case measure=>simp [intOf];omega
  ·have hjk:j = k:=by omega
   subst hjk
   go_wp2
   go_ret
   exact ⟨true,rfl,⟨fun _=>hO.out,fun _=>rfl⟩,hB.out⟩
theorem right1_any (r c:Int) (ao:Option Addr) (n cap:Nat) (w:World) (hn:n≤35184372088830) :
  Calls Tryz.prog 179 #[.slice (some ⟨w.heap.size,0,none⟩) 1 1] (w.alloc (.cells #[.int .i64 r,.int .i64 c,.slice ao n cap] 25)) fun e w'=>e = .returned (.bool (okB r c n))∧Below w.heap.size w w':=by
 have X:=BoxM.new w (.int .i64 r) (.int .i64 c) (.slice ao n cap)
 have B:=below_alloc9 w (.cells #[.int .i64 r,.int .i64 c,.slice ao n cap] 25)
 refine (right_of 1 w.heap.size (fun _=>r) (fun _=>c) (fun _=>ao) (fun _=>n) (fun _=>cap) _ (by omega) (fun _ _=>hn) ?_).mono ?_
 ·intro i hi
  obtain rfl:i = 0:=by omega
  exact ⟨X.c0,X.c1,X.c2⟩
 ·rintro e w' ⟨b,rfl,hb,hB⟩
  refine ⟨?_,B.trans (hB.mono B.size)⟩
  have:b = okB r c n:=by
   cases h:okB r c n
   ·cases b
    ·rfl
    ·have:=hb.1 rfl 0 (by omega);rw [h] at this;cases this
   ·exact hb.2 (fun _ _=>h)
  rw [this]
theorem lies_any (f p e:Int) (w:World) (hf:-9223372036854775808≤f∧f≤9223372036854775807) (he:0≤e∧e≤6) :
  Calls Tryz.prog 180 #[.int .i64 f,.int .i64 p,.int .i64 e] w fun x w'=>x = .returned (.bool (decide (0≤f∧0≤p∧p≤e - f)))∧w = w':=by
 rcases (show f < 0 ∨ (0≤f∧p < 0) ∨ (0≤f∧0≤p) by omega) with h1 | ⟨h1,h2⟩ | ⟨h1,h2⟩
 ·rw [decide_eq_false (by omega)]
  go_enter Tryz.func180,Tryz.ntmps180
  go_wp2
  go_ret
  exact ⟨rfl,rfl⟩
 ·rw [decide_eq_false (by omega)]
  go_enter Tryz.func180,Tryz.ntmps180
  go_wp2
  go_ret
  exact ⟨rfl,rfl⟩
 ·rw [show decide (0≤f∧0≤p∧p≤e - f) = decide (p≤e - f) from decide_eq_decide.2 (by omega)]
  go_enter Tryz.func180,Tryz.ntmps180
  go_wp2
  go_ret
  exact ⟨rfl,rfl⟩
end Go.Proofs.YtdhmglmccafbnaaGreatDoor
namespace Go.Proofs.YtdhmglmccafbnaaGreatDoor
open Go.RowKit
attribute [local go_sem ↓] Go.wp_at_zero Go.wp_at_succ
theorem boxes1 (w:World) (x y z:Value) (w1:World) (h:Below (w.heap.size+1) (w.alloc (.cells #[x,y,z] 25)) w1) :
  Below w.heap.size w w1∧BoxM w1 w.heap.size x y z:=by
 have b0:=below_alloc9 w (.cells #[x,y,z] 25)
 exact ⟨b0.trans (h.mono (by omega)),(BoxM.new w x y z).below h (by omega)⟩
theorem boxes2 (w:World) (x y z x' y' z':Value) (w1:World) (h:Below (w.heap.size+1+1) ((w.alloc (.cells #[x,y,z] 25)).alloc (.cells #[x',y',z'] 25)) w1) :
  Below w.heap.size w w1∧BoxM w1 w.heap.size x y z∧BoxM w1 (w.heap.size+1) x' y' z':=by
 have s0:=size_alloc9 w (.cells #[x,y,z] 25)
 have h':Below ((w.alloc (.cells #[x,y,z] 25)).heap.size+1) ((w.alloc (.cells #[x,y,z] 25)).alloc (.cells #[x',y',z'] 25)) w1:=by rw [s0];exact h
 obtain ⟨h1,h2⟩:=boxes1 _ x' y' z' w1 h'
 rw [s0] at h1 h2
 obtain ⟨h3,h4⟩:=boxes1 w x y z w1 h1
 exact ⟨h3,h4,h2⟩
theorem boxes3 (w:World) (x y z x' y' z' x2 y2 z2:Value) (w1:World) (h:Below (w.heap.size+1+1+1) (((w.alloc (.cells #[x,y,z] 25)).alloc (.cells #[x',y',z'] 25)).alloc (.cells #[x2,y2,z2] 25)) w1) :
  Below w.heap.size w w1∧BoxM w1 w.heap.size x y z∧BoxM w1 (w.heap.size+1) x' y' z'∧BoxM w1 (w.heap.size+1+1) x2 y2 z2:=by
 have s0:=size_alloc9 w (.cells #[x,y,z] 25)
 have h':Below ((w.alloc (.cells #[x,y,z] 25)).heap.size+1+1) (((w.alloc (.cells #[x,y,z] 25)).alloc (.cells #[x',y',z'] 25)).alloc (.cells #[x2,y2,z2] 25)) w1:=by rw [s0];exact h
 obtain ⟨h1,h2,h3⟩:=boxes2 _ x' y' z' x2 y2 z2 w1 h'
 rw [s0] at h1 h2 h3
 obtain ⟨h4,h5⟩:=boxes1 w x y z w1 h1
 exact ⟨h4,h5,h2,h3⟩
end Go.Proofs.YtdhmglmccafbnaaGreatDoor
namespace Go.Proofs.YtdhmglmccafbnaaGreatDoor
open Go.RowKit
attribute [local go_sem ↓] Go.wp_at_zero Go.wp_at_succ
theorem eye1_any (i k:Nat) (w:World) :
  Calls Tryz.prog 196 #[.int .i64 i,.int .i64 k] w fun e w'=>e = .returned (.int .u64 ((if k = i then 4607182418800017408 else 0:Nat):Int))∧Below w.heap.size w w':=by
 by_cases h:k = i
 ·rw [if_pos h]
  subst h
  go_enter Tryz.func196,Tryz.ntmps196
  go_wp2
  go_ret
  exact ⟨rfl,Below.refl _ _⟩
 ·rw [if_neg h]
  have e1:decide ((i:Int) = (k:Int)) = false:=decide_eq_false (by omega)
  go_enter Tryz.func196,Tryz.ntmps196
  go_wp2
  go_ret
  exact ⟨rfl,Below.refl _ _⟩
theorem part1_of (r c n cap i k a b x bx bi bk:Nat) (ao:Option Addr) (w:World) (ha:a+i≤6) (hb:b+k≤6) (hX:BoxM w bx (.int .i64 r) (.int .i64 c) (.slice ao n cap)) (hi:w.cell? ⟨bi,0,none⟩ = some (.int .i64 (a:Nat))) (hk:w.cell? ⟨bk,0,none⟩ = some (.int .i64 (b:Nat)))
  (C:Calls Tryz.prog 183 #[.agg #[.int .i64 r,.int .i64 c,.slice ao n cap],.int .i64 ((a:Int)+(i:Int)),.int .i64 ((b:Int)+(k:Int))] w fun e w'=>e = .returned (.int .u64 (x:Nat))∧Below w.heap.size w w') :
  Calls Tryz.prog 182 #[.int .i64 i,.int .i64 k,.pointer (some ⟨bx,0,none⟩),.pointer (some ⟨bi,0,none⟩),.pointer (some ⟨bk,0,none⟩)] w fun e w'=>e = .returned (.int .u64 (x:Nat))∧Below w.heap.size w w':=by
 have K:=hide C
 have p0:=hX.c0;have p1:=hX.c1;have p2:=hX.c2
 clear C hX
 go_enter Tryz.func182,Tryz.ntmps182
 go_wp2_with fail
 refine Calls.mono (uH K) ?_
 rintro e w1 ⟨rfl,hb1⟩
 clear K
 go_wp2
 go_ret
 exact ⟨rfl,hb1⟩
end Go.Proofs.YtdhmglmccafbnaaGreatDoor
namespace Go.Proofs.YtdhmglmccafbnaaGreatDoor
open Go.RowKit
attribute [local go_sem ↓] Go.wp_at_zero Go.wp_at_succ
theorem boxesP (w:World) (x y z u v:Value) (w1:World) (h:Below (w.heap.size+1+1+1+1) ((((w.alloc (.cells #[x,y,z] 25)).alloc (.cells #[u] 3)).alloc (.cells #[v] 3)).alloc (.cells #[.int .i64 0,.int .i64 0,.slice none 0 0] 25)) w1) :
  Below w.heap.size w w1∧BoxM w1 w.heap.size x y z∧(w1.cell? ⟨w.heap.size+1,0,none⟩ = some u∧w1.cell? ⟨w.heap.size+1+1,0,none⟩ = some v)∧BoxM w1 (w.heap.size+1+1+1) (.int .i64 0) (.int .i64 0) (.slice none 0 0):=by
 have b0:=below_alloc9 w (.cells #[x,y,z] 25)
 have x0:=BoxM.new w x y z
 have s0:=size_alloc9 w (.cells #[x,y,z] 25)
 generalize w.alloc (.cells #[x,y,z] 25) = wa at *
 have b1:=below_alloc9 wa (.cells #[u] 3)
 have c1:=new_cell wa u 3
 have s1:=size_alloc9 wa (.cells #[u] 3)
 have x1:=x0.all b1
 generalize wa.alloc (.cells #[u] 3) = wb at *
 have b2:=below_alloc9 wb (.cells #[v] 3)
 have c2:=new_cell wb v 3
 have s2:=size_alloc9 wb (.cells #[v] 3)
 have x2:=x1.all b2
 have d1:=cell_keep c1 b2
 generalize wb.alloc (.cells #[v] 3) = wc at *
 have b3:=below_alloc9 wc (.cells #[.int .i64 0,.int .i64 0,.slice none 0 0] 25)
 have x4:=BoxM.new wc (.int .i64 0) (.int .i64 0) (.slice none 0 0)
 have s3:=size_alloc9 wc (.cells #[.int .i64 0,.int .i64 0,.slice none 0 0] 25)
 have x3:=x2.all b3
 have e1:=cell_keep d1 b3
 have e2:=cell_keep c2 b3
 generalize wc.alloc (.cells #[.int .i64 0,.int .i64 0,.slice none 0 0] 25) = wd at *
 rw [s2,s1,s0] at x4
 rw [s0] at e1
 rw [s1,s0] at e2
 have hd:wd.heap.size = w.heap.size+1+1+1+1:=by omega
 rw [← hd] at h
 have bb:Below w.heap.size w wd:=((b0.trans (b1.mono (by omega))).trans (b2.mono (by omega))).trans (b3.mono (by omega))
 exact ⟨bb.trans (h.mono (by omega)),x3.all h,⟨cell_keep e1 h,cell_keep e2 h⟩,x4.all h⟩
theorem mpart_form (r c:Int) (ao:Option Addr) (n cap:Nat) (i k a b:Int) (w:World) (hn:n≤35184372088830) (h:okB r c n = false) :
  Calls Tryz.prog 121 #[.agg #[.int .i64 r,.int .i64 c,.slice ao n cap],.int .i64 i,.int .i64 k,.int .i64 a,.int .i64 b] w fun e w'=>∃ v,e = .returned (.tuple #[v,.int .i64 1])∧NewM w.heap.size w' 0 0 [] v∧Below w.heap.size w w':=by
 have K:=hide (right1_any r c ao n cap ((((w.alloc (.cells #[.int .i64 r,.int .i64 c,.slice ao n cap] 25)).alloc (.cells #[.int .i64 i] 3)).alloc (.cells #[.int .i64 k] 3)).alloc (.cells #[.int .i64 0,.int .i64 0,.slice none 0 0] 25)) hn)
 rw [h] at K
 simp only [size_alloc9] at K
 have KB:=hide (boxesP w (.int .i64 r) (.int .i64 c) (.slice ao n cap) (.int .i64 i) (.int .i64 k))
 clear h
 go_enter Tryz.func121,Tryz.ntmps121
 go_wp2_with fail
 refine Calls.mono (uH K) ?_
 rintro e w1 ⟨rfl,hb1⟩
 obtain ⟨hB,hA,⟨ci,ck⟩,hX⟩:=uH KB w1 hb1
 clear K KB hb1 hA ci ck
 have f0:=hX.free 0;have f1:=hX.free 1;have f2:=hX.free 2
 have s0:=hX.c0;have s1:=hX.c1;have s2:=hX.c2
 have XP:=hX.put (.int .i64 0) (.int .i64 0) (.slice none 0 0)
 have z0:=XP.c0;have z1:=XP.c1;have z2:=XP.c2
 have BP:=hide (below_putM hB (b:=w.heap.size+1+1+1) (by omega) (.int .i64 0) (.int .i64 0) (.slice none 0 0))
 clear XP hX hB
 go_wp2
 exact bodyPost_ret (v:=.tuple #[.agg #[.int .i64 0,.int .i64 0,.slice none 0 0],.int .i64 1]) (by simp [results,Tryz.results121,go_sem,z0,z1,z2]) rfl ⟨_,rfl,NewM.zero _ _,uH BP⟩
theorem mpart_of (r c:Int) (ao:Option Addr) (n cap:Nat) (i k a b:Int) (x y:Nat) (S:List Nat) (w:World) (hn:n≤35184372088830) (h:okB r c n = true) (L1:∀ w',Calls Tryz.prog 180 #[.int .i64 i,.int .i64 a,.int .i64 r] w' fun x w''=>x = .returned (.bool true)∧w' = w'') (L2:∀ w',Calls Tryz.prog 180 #[.int .i64 k,.int .i64 b,.int .i64 c] w' fun x w''=>x = .returned (.bool true)∧w' = w'')
  (C:∀ w1,Below w.heap.size w w1→BoxM w1 w.heap.size (.int .i64 r) (.int .i64 c) (.slice ao n cap)→w1.cell? ⟨w.heap.size+1,0,none⟩ = some (.int .i64 i)→w1.cell? ⟨w.heap.size+1+1,0,none⟩ = some (.int .i64 k)→Calls Tryz.prog 181 #[.int .i64 a,.int .i64 b,.func (.func 182) #[] #[.pointer (some ⟨w.heap.size,0,none⟩),.pointer (some ⟨w.heap.size+1,0,none⟩),.pointer (some ⟨w.heap.size+1+1,0,none⟩)]] w1 fun e w''=>∃ v,e = .returned v∧NewM w1.heap.size w'' x y S v∧Below w1.heap.size w1 w'') :
  Calls Tryz.prog 121 #[.agg #[.int .i64 r,.int .i64 c,.slice ao n cap],.int .i64 i,.int .i64 k,.int .i64 a,.int .i64 b] w fun e w'=>∃ v,e = .returned (.tuple #[v,.int .i64 0])∧NewM w.heap.size w' x y S v∧Below w.heap.size w w':=by
 have M1:=hide L1;have M2:=hide L2
 clear L1 L2
 have K:=hide (right1_any r c ao n cap ((((w.alloc (.cells #[.int .i64 r,.int .i64 c,.slice ao n cap] 25)).alloc (.cells #[.int .i64 i] 3)).alloc (.cells #[.int .i64 k] 3)).alloc (.cells #[.int .i64 0,.int .i64 0,.slice none 0 0] 25)) hn)
 rw [h] at K
 simp only [size_alloc9] at K
 have KB:=hide (boxesP w (.int .i64 r) (.int .i64 c) (.slice ao n cap) (.int .i64 i) (.int .i64 k))
 have KT:=hide (fun w1 (hB:Below w.heap.size w w1) (hA:BoxM w1 w.heap.size (.int .i64 r) (.int .i64 c) (.slice ao n cap)) (ci:w1.cell? ⟨w.heap.size+1,0,none⟩ = some (.int .i64 i)) (ck:w1.cell? ⟨w.heap.size+1+1,0,none⟩ = some (.int .i64 k)) (hX:BoxM w1 (w.heap.size+1+1+1) (.int .i64 0) (.int .i64 0) (.slice none 0 0))=>(C w1 hB hA ci ck).mono (R':=fun e w''=>∃ v,e = .returned v∧NewM w.heap.size w'' x y S v∧Below w.heap.size w w''∧BoxM w'' (w.heap.size+1+1+1) (.int .i64 0) (.int .i64 0) (.slice none 0 0)) (by
  rintro e w'' ⟨v,rfl,h1,h2⟩
  exact ⟨v,rfl,h1.least hB.size,hB.trans (h2.mono hB.size),hX.all h2⟩))
 clear h C
 go_enter Tryz.func121,Tryz.ntmps121
 go_wp2_with fail
 refine Calls.mono (uH K) ?_
 rintro e w1 ⟨rfl,hb1⟩
 obtain ⟨hB,hA,⟨ci,ck⟩,hX⟩:=uH KB w1 hb1
 have p0:=hA.c0;have p1:=hA.c1;have p2:=hA.c2
 have KC:=hide (uH KT w1 hB hA ci ck hX)
 clear K KB KT hb1 hA hX hB
 go_wp2_with fail
 refine (uH M1 _).mono ?_
 rintro e w9 ⟨rfl,rfl⟩
 clear M1
 go_wp2_with fail
 refine (uH M2 _).mono ?_
 rintro e w9 ⟨rfl,rfl⟩
 clear M2
 go_wp2_with fail
 refine Calls.mono (uH KC) ?_
 clear KC
 rintro e w2 ⟨v,rfl,⟨ro,rd,rfl,n1,q1⟩,hb2,hX⟩
 have f0:=hX.free 0;have f1:=hX.free 1;have f2:=hX.free 2
 have XP:=hX.put (.int .i64 x) (.int .i64 y) (.slice ro S.length rd)
 have z0:=XP.c0;have z1:=XP.c1;have z2:=XP.c2
 have s0:=hX.c0;have s1:=hX.c1;have s2:=hX.c2
 have Q:=hide (q1.putM hX (.int .i64 x) (.int .i64 y) (.slice ro S.length rd))
 have BP:=hide (below_putM hb2 (b:=w.heap.size+1+1+1) (by omega) (.int .i64 x) (.int .i64 y) (.slice ro S.length rd))
 clear XP q1 hb2 hX
 go_wp2
 exact bodyPost_ret (v:=.tuple #[.agg #[.int .i64 x,.int .i64 y,.slice ro S.length rd],.int .i64 0]) (by simp [results,Tryz.results121,go_sem,z0,z1,z2]) rfl ⟨_,rfl,⟨ro,rd,rfl,n1,uH Q⟩,uH BP⟩
theorem mzeros_of (r c:Int) (x y:Nat) (S:List Nat) (w:World) (h:rgB r c = true)
  (C:∀ w1,Below w.heap.size w w1→Calls Tryz.prog 181 #[.int .i64 r,.int .i64 c,.func (.func 221) #[] #[]] w1 fun e w''=>∃ v,e = .returned v∧NewM w1.heap.size w'' x y S v∧Below w1.heap.size w1 w'') :
  Calls Tryz.prog 173 #[.int .i64 r,.int .i64 c] w fun e w'=>∃ v,e = .returned (.tuple #[v,.int .i64 0])∧NewM w.heap.size w' x y S v∧Below w.heap.size w w':=by
 have K:=hide (fun w'=>inRange_any r c w')
 rw [h] at K
 have KT:=hide ((C _ (below_alloc9 w (.cells #[.int .i64 0,.int .i64 0,.slice none 0 0] 25))).mono (R':=fun e w''=>∃ v,e = .returned v∧NewM w.heap.size w'' x y S v∧Below w.heap.size w w''∧BoxM w'' w.heap.size (.int .i64 0) (.int .i64 0) (.slice none 0 0)) (by
  rintro e w'' ⟨v,rfl,h1,h2⟩
  have b:=below_alloc9 w (.cells #[.int .i64 0,.int .i64 0,.slice none 0 0] 25)
  exact ⟨v,rfl,h1.least b.size,b.trans (h2.mono b.size),(BoxM.new w (.int .i64 0) (.int .i64 0) (.slice none 0 0)).all h2⟩))
 clear h C
 go_enter Tryz.func173,Tryz.ntmps173
 go_wp2_with fail
 refine (uH K _).mono ?_
 rintro e w1 ⟨rfl,rfl⟩
 clear K
 go_wp2_with fail
 refine Calls.mono (uH KT) ?_
 clear KT
 rintro e w2 ⟨v,rfl,⟨ro,rd,rfl,n1,q1⟩,hb2,hX⟩
 have f0:=hX.free 0;have f1:=hX.free 1;have f2:=hX.free 2
 have XP:=hX.put (.int .i64 x) (.int .i64 y) (.slice ro S.length rd)
 have z0:=XP.c0;have z1:=XP.c1;have z2:=XP.c2
 have s0:=hX.c0;have s1:=hX.c1;have s2:=hX.c2
 have Q:=hide (q1.putM hX (.int .i64 x) (.int .i64 y) (.slice ro S.length rd))
 have BP:=hide (below_putM hb2 (b:=w.heap.size) (by omega) (.int .i64 x) (.int .i64 y) (.slice ro S.length rd))
 clear XP q1 hb2 hX
 go_wp2
 exact bodyPost_ret (v:=.tuple #[.agg #[.int .i64 x,.int .i64 y,.slice ro S.length rd],.int .i64 0]) (by simp [results,Tryz.results173,go_sem,z0,z1,z2]) rfl ⟨_,rfl,⟨ro,rd,rfl,n1,uH Q⟩,uH BP⟩
theorem meye_of (r:Int) (x y:Nat) (S:List Nat) (w:World) (h:rgB r r = true)
  (C:∀ w1,Below w.heap.size w w1→Calls Tryz.prog 181 #[.int .i64 r,.int .i64 r,.func (.func 196) #[] #[]] w1 fun e w''=>∃ v,e = .returned v∧NewM w1.heap.size w'' x y S v∧Below w1.heap.size w1 w'') :
  Calls Tryz.prog 138 #[.int .i64 r] w fun e w'=>∃ v,e = .returned (.tuple #[v,.int .i64 0])∧NewM w.heap.size w' x y S v∧Below w.heap.size w w':=by
 have K:=hide (fun w'=>inRange_any r r w')
 rw [h] at K
 have KT:=hide ((C _ (below_alloc9 w (.cells #[.int .i64 0,.int .i64 0,.slice none 0 0] 25))).mono (R':=fun e w''=>∃ v,e = .returned v∧NewM w.heap.size w'' x y S v∧Below w.heap.size w w''∧BoxM w'' w.heap.size (.int .i64 0) (.int .i64 0) (.slice none 0 0)) (by
  rintro e w'' ⟨v,rfl,h1,h2⟩
  have b:=below_alloc9 w (.cells #[.int .i64 0,.int .i64 0,.slice none 0 0] 25)
  exact ⟨v,rfl,h1.least b.size,b.trans (h2.mono b.size),(BoxM.new w (.int .i64 0) (.int .i64 0) (.slice none 0 0)).all h2⟩))
 clear h C
 go_enter Tryz.func138,Tryz.ntmps138
 go_wp2_with fail
 refine (uH K _).mono ?_
 rintro e w1 ⟨rfl,rfl⟩
 clear K
 go_wp2_with fail
 refine Calls.mono (uH KT) ?_
 clear KT
 rintro e w2 ⟨v,rfl,⟨ro,rd,rfl,n1,q1⟩,hb2,hX⟩
 have f0:=hX.free 0;have f1:=hX.free 1;have f2:=hX.free 2
 have XP:=hX.put (.int .i64 x) (.int .i64 y) (.slice ro S.length rd)
 have z0:=XP.c0;have z1:=XP.c1;have z2:=XP.c2
 have s0:=hX.c0;have s1:=hX.c1;have s2:=hX.c2
 have Q:=hide (q1.putM hX (.int .i64 x) (.int .i64 y) (.slice ro S.length rd))
 have BP:=hide (below_putM hb2 (b:=w.heap.size) (by omega) (.int .i64 x) (.int .i64 y) (.slice ro S.length rd))
 clear XP q1 hb2 hX
 go_wp2
 exact bodyPost_ret (v:=.tuple #[.agg #[.int .i64 x,.int .i64 y,.slice ro S.length rd],.int .i64 0]) (by simp [results,Tryz.results138,go_sem,z0,z1,z2]) rfl ⟨_,rfl,⟨ro,rd,rfl,n1,uH Q⟩,uH BP⟩
end Go.Proofs.YtdhmglmccafbnaaGreatDoor
namespace Go.Proofs.YtdhmglmccafbnaaGreatDoor
open Go.RowKit
theorem cfPart1 (args:Array Value) (w:World):(callFunc 182 args).run Tryz.prog w = .ok (.enter 182 args) w:=by
 simp only [callFunc,go_sem]
 rfl
theorem cfEye1 (args:Array Value) (w:World):(callFunc 196 args).run Tryz.prog w = .ok (.enter 196 args) w:=by
 simp only [callFunc,go_sem]
 rfl
theorem mPart_ok (r c cap i k a b:Nat) (ao:Option Addr) (S:List Nat) (w:World) (h:Mx w ao cap r c S) (hi:i+a≤r) (hk:k+b≤c) :
  Calls Tryz.prog 121 #[.agg #[.int .i64 r,.int .i64 c,.slice ao S.length cap],.int .i64 i,.int .i64 k,.int .i64 a,.int .i64 b] w fun e w'=>∃ v,e = .returned (.tuple #[v,.int .i64 0])∧NewM w.heap.size w' a b (paM c S i k a b) v∧Below w.heap.size w w':=by
 have h6:=h.2.2.1
 have c6:=h.2.2.2
 refine mpart_of r c ao S.length cap i k a b a b (paM c S i k a b) w (by have:=h.small;omega) (mx_ok h) (fun w'=>?_) (fun w'=>?_) ?_
 ·have:=lies_any i a r w' (by omega) (by omega)
  rwa [decide_eq_true (by omega)] at this
 ·have:=lies_any k b c w' (by omega) (by omega)
  rwa [decide_eq_true (by omega)] at this
 ·intro w1 hB hA ci ck
  refine build_any 182 _ a b _ w1 cfPart1 (by omega) (by omega) (fun x y _ _=>h.el_lt _ _) ?_
  intro w' x y hb hx hy
  have hb':Below w.heap.size w w':=hB.trans (hb.mono hB.size)
  refine part1_of r c S.length cap x y i k _ w.heap.size (w.heap.size+1) (w.heap.size+1+1) ao w' (by omega) (by omega) (hA.all hb) (cell_keep ci hb) (cell_keep ck hb) ?_
  rw [show (i:Int)+(x:Int) = ((i+x:Nat):Int) by simp,show (k:Int)+(y:Int) = ((k+y:Nat):Int) by simp]
  exact mat_any r c cap (i+x) (k+y) ao S w' (h.below hb') (by omega) (by omega)
theorem mEye_ok (n:Nat) (w:World) (hn:n≤6) :
  Calls Tryz.prog 138 #[.int .i64 n] w fun e w'=>∃ v,e = .returned (.tuple #[v,.int .i64 0])∧NewM w.heap.size w' n n (eyM n) v∧Below w.heap.size w w' :=
 meye_of n n n _ w (decide_eq_true (by omega)) (fun w1 _=>build_any 196 #[] n n _ w1 cfEye1 hn hn (fun i k _ _=>by split <;> decide) (fun w' i k _ _ _=>eye1_any i k w'))
end Go.Proofs.YtdhmglmccafbnaaGreatDoor
