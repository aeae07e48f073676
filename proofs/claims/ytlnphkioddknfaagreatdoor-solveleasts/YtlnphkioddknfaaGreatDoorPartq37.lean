/- Part 37 of the texts. -/
import Derived.Test.YtlnphkioddknfaaGreatDoorPartq30
import Derived.Test.YtlnphkioddknfaaGreatDoorPartq36
import Derived.Test.YtlnphkioddknfaaGreatDoorPartq31
import Derived.Test.YtlnphkioddknfaaGreatDoorPartq28
import Derived.Test.YtlnphkioddknfaaGreatDoorPartq26
import Derived.Test.YtlnphkioddknfaaGreatDoorPartq24
import Derived.Test.YtlnphkioddknfaaGreatDoorPartq35
import Derived.Test.YtlnphkioddknfaaGreatDoorPartq34
import Derived.Laws.CopyOwn
set_option maxHeartbeats 2000000
set_option maxRecDepth 20000
namespace Go.Proofs.YtlnphkioddknfaaGreatDoor
open Go.RowKit
def BoxW (w:World) (g:Nat) (x0 x1 x2 x3 x4 x5 x6:Value):Prop:=w.heap[g]? = some (.cells #[x0,x1,x2,x3,x4,x5,x6] 89 (0,0))
theorem BoxW.c0 {w:World} {g:Nat} {x0 x1 x2 x3 x4 x5 x6:Value} (h:BoxW w g x0 x1 x2 x3 x4 x5 x6):w.cell? ⟨g,0,none⟩ = some x0:=by rw [cell_of_row w g 0 _ _ _ h];rfl
theorem BoxW.c1 {w:World} {g:Nat} {x0 x1 x2 x3 x4 x5 x6:Value} (h:BoxW w g x0 x1 x2 x3 x4 x5 x6):w.cell? ⟨g,1,none⟩ = some x1:=by rw [cell_of_row w g 1 _ _ _ h];rfl
theorem BoxW.c2 {w:World} {g:Nat} {x0 x1 x2 x3 x4 x5 x6:Value} (h:BoxW w g x0 x1 x2 x3 x4 x5 x6):w.cell? ⟨g,2,none⟩ = some x2:=by rw [cell_of_row w g 2 _ _ _ h];rfl
theorem BoxW.c3 {w:World} {g:Nat} {x0 x1 x2 x3 x4 x5 x6:Value} (h:BoxW w g x0 x1 x2 x3 x4 x5 x6):w.cell? ⟨g,3,none⟩ = some x3:=by rw [cell_of_row w g 3 _ _ _ h];rfl
theorem BoxW.c4 {w:World} {g:Nat} {x0 x1 x2 x3 x4 x5 x6:Value} (h:BoxW w g x0 x1 x2 x3 x4 x5 x6):w.cell? ⟨g,4,none⟩ = some x4:=by rw [cell_of_row w g 4 _ _ _ h];rfl
theorem BoxW.c5 {w:World} {g:Nat} {x0 x1 x2 x3 x4 x5 x6:Value} (h:BoxW w g x0 x1 x2 x3 x4 x5 x6):w.cell? ⟨g,5,none⟩ = some x5:=by rw [cell_of_row w g 5 _ _ _ h];rfl
theorem BoxW.c6 {w:World} {g:Nat} {x0 x1 x2 x3 x4 x5 x6:Value} (h:BoxW w g x0 x1 x2 x3 x4 x5 x6):w.cell? ⟨g,6,none⟩ = some x6:=by rw [cell_of_row w g 6 _ _ _ h];rfl
theorem BoxW.free {w:World} {g:Nat} {x0 x1 x2 x3 x4 x5 x6:Value} (h:BoxW w g x0 x1 x2 x3 x4 x5 x6) (j:Nat):w.frozen? ⟨g,j,none⟩ = false:=frozen_of_row w g j _ _ h
theorem BoxW.lt {w:World} {g:Nat} {x0 x1 x2 x3 x4 x5 x6:Value} (h:BoxW w g x0 x1 x2 x3 x4 x5 x6):g < w.heap.size:=(Array.getElem?_eq_some_iff.1 h).1
theorem BoxW.below {w w':World} {g:Nat} {x0 x1 x2 x3 x4 x5 x6:Value} (h:BoxW w g x0 x1 x2 x3 x4 x5 x6) {B:Nat} (hb:Below B w w') (hlt:g < B):BoxW w' g x0 x1 x2 x3 x4 x5 x6:=(hb.block g hlt).trans h
theorem BoxW.all {w w':World} {g:Nat} {x0 x1 x2 x3 x4 x5 x6:Value} (h:BoxW w g x0 x1 x2 x3 x4 x5 x6) (hb:Below w.heap.size w w'):BoxW w' g x0 x1 x2 x3 x4 x5 x6:=h.below hb h.lt
theorem BoxW.new (w:World) (x0 x1 x2 x3 x4 x5 x6:Value):BoxW (w.alloc (.cells #[x0,x1,x2,x3,x4,x5,x6] 89)) w.heap.size x0 x1 x2 x3 x4 x5 x6:=heap_alloc_new w _
theorem BoxW.other {w:World} {g:Nat} {x0 x1 x2 x3 x4 x5 x6:Value} (h:BoxW w g x0 x1 x2 x3 x4 x5 x6) {p:Addr} (hp:g ≠ p.block) (u:Value):BoxW (w.setCell p u) g x0 x1 x2 x3 x4 x5 x6:=(Below.heap_setCell w p u g hp).trans h
theorem BoxW.put {w:World} {g:Nat} {x0 x1 x2 x3 x4 x5 x6:Value} (h:BoxW w g x0 x1 x2 x3 x4 x5 x6) (u0 u1 u2 u3 u4 u5 u6:Value):BoxW (((((((w.setCell ⟨g,0,none⟩ u0).setCell ⟨g,1,none⟩ u1).setCell ⟨g,2,none⟩ u2).setCell ⟨g,3,none⟩ u3).setCell ⟨g,4,none⟩ u4).setCell ⟨g,5,none⟩ u5).setCell ⟨g,6,none⟩ u6) g u0 u1 u2 u3 u4 u5 u6:=by
 have h1:=heap_setCell_same w g 0 _ _ u0 h
 have h2:=heap_setCell_same (w.setCell ⟨g,0,none⟩ u0) g 1 _ _ u1 h1
 have h3:=heap_setCell_same ((w.setCell ⟨g,0,none⟩ u0).setCell ⟨g,1,none⟩ u1) g 2 _ _ u2 h2
 have h4:=heap_setCell_same (((w.setCell ⟨g,0,none⟩ u0).setCell ⟨g,1,none⟩ u1).setCell ⟨g,2,none⟩ u2) g 3 _ _ u3 h3
 have h5:=heap_setCell_same ((((w.setCell ⟨g,0,none⟩ u0).setCell ⟨g,1,none⟩ u1).setCell ⟨g,2,none⟩ u2).setCell ⟨g,3,none⟩ u3) g 4 _ _ u4 h4
 have h6:=heap_setCell_same (((((w.setCell ⟨g,0,none⟩ u0).setCell ⟨g,1,none⟩ u1).setCell ⟨g,2,none⟩ u2).setCell ⟨g,3,none⟩ u3).setCell ⟨g,4,none⟩ u4) g 5 _ _ u5 h5
 have h7:=heap_setCell_same ((((((w.setCell ⟨g,0,none⟩ u0).setCell ⟨g,1,none⟩ u1).setCell ⟨g,2,none⟩ u2).setCell ⟨g,3,none⟩ u3).setCell ⟨g,4,none⟩ u4).setCell ⟨g,5,none⟩ u5) g 6 _ _ u6 h6
 unfold BoxW
 rw [h7]
 simp
theorem below_putW {w w':World} {B g:Nat} (h:Below B w w') (hb:B≤g) (u0 u1 u2 u3 u4 u5 u6:Value):Below B w (((((((w'.setCell ⟨g,0,none⟩ u0).setCell ⟨g,1,none⟩ u1).setCell ⟨g,2,none⟩ u2).setCell ⟨g,3,none⟩ u3).setCell ⟨g,4,none⟩ u4).setCell ⟨g,5,none⟩ u5).setCell ⟨g,6,none⟩ u6) :=
 ((((((h.setCell hb _).setCell hb _).setCell hb _).setCell hb _).setCell hb _).setCell hb _).setCell hb _
theorem BoxW.away {w:World} {g:Nat} {a b a' b':Int} {o o':Option Addr} {n d n' d':Nat} {f:Bool} (h:BoxW w g (.int .i64 a) (.int .i64 b) (.slice o n d) (.int .i64 a') (.int .i64 b') (.slice o' n' d') (.bool f)) {k j:Nat} {z:Int} (hc:w.cell? ⟨k,j,none⟩ = some (.int .u64 z)):k ≠ g:=by
 rintro rfl
 rw [cell_of_row w k j _ _ _ h] at hc
 match j with
 | 0=>simp at hc
 | 1=>simp at hc
 | 2=>simp at hc
 | 3=>simp at hc
 | 4=>simp at hc
 | 5=>simp at hc
 | 6=>simp at hc
 | j+7=>simp at hc
theorem bits_far {w:World} {ao:Option Addr} {c:Nat} {I:List Int} (h:BitsAt w ao c I) {g:Nat} (hg:∀ k j z,w.cell? ⟨k,j,none⟩ = some (.int .u64 z)→k ≠ g):I = [] ∨ ∃ b off,ao = some ⟨b,off,none⟩∧b ≠ g:=by
 rcases h.2.2 with e | ⟨b,off,e1,e2,e3⟩
 ·exact .inl e
 ·cases hI:I with
  | nil=>exact .inl rfl
  | cons x xs=>exact .inr ⟨b,off,e1,hg b (off+0) _ (e3 0 (by rw [hI];simp))⟩
theorem bits_putW {w:World} {ao:Option Addr} {c:Nat} {I:List Int} (h:BitsAt w ao c I) {g:Nat} {a b a' b':Int} {o o':Option Addr} {n d n' d':Nat} {f:Bool} (hx:BoxW w g (.int .i64 a) (.int .i64 b) (.slice o n d) (.int .i64 a') (.int .i64 b') (.slice o' n' d') (.bool f)) (u0 u1 u2 u3 u4 u5 u6:Value):BitsAt (((((((w.setCell ⟨g,0,none⟩ u0).setCell ⟨g,1,none⟩ u1).setCell ⟨g,2,none⟩ u2).setCell ⟨g,3,none⟩ u3).setCell ⟨g,4,none⟩ u4).setCell ⟨g,5,none⟩ u5).setCell ⟨g,6,none⟩ u6) ao c I:=by
 have hp:=bits_far h (g:=g) (fun k j z hc=>hx.away hc)
 exact ((((((h.other (p:=⟨g,0,none⟩) hp _).other (p:=⟨g,1,none⟩) hp _).other (p:=⟨g,2,none⟩) hp _).other (p:=⟨g,3,none⟩) hp _).other (p:=⟨g,4,none⟩) hp _).other (p:=⟨g,5,none⟩) hp _).other (p:=⟨g,6,none⟩) hp _
end Go.Proofs.YtlnphkioddknfaaGreatDoor
namespace Go.Proofs.YtlnphkioddknfaaGreatDoor
open Go.RowKit
attribute [local go_sem ↓] Go.wp_at_zero Go.wp_at_succ
def OffB (g:Option Nat) (ao:Option Addr) (I:List Int):Prop:=I = [] ∨ ∃ b off,ao = some ⟨b,off,none⟩∧some b ≠ g
theorem OffB.new {H:Nat} {ao:Option Addr} {I:List Int} (h:NewB H ao I) {g:Option Nat} (hg:∀ k,g = some k→k < H):OffB g ao I:=by
 rcases h with e | ⟨b,off,e1,e2⟩
 ·exact .inl e
 ·exact .inr ⟨b,off,e1,fun e=>by have:=hg b e.symm;omega⟩
theorem OffB.old {w:World} {ao:Option Addr} {c:Nat} {I:List Int} (h:BitsAt w ao c I) {g:Option Nat} (hg:∀ k,g = some k→w.heap.size≤k):OffB g ao I:=by
 rcases h.2.2 with e | ⟨b,off,e1,e2,_⟩
 ·exact .inl e
 ·exact .inr ⟨b,off,e1,fun e=>by have:=hg b e.symm;omega⟩
theorem bits_grownOff {w w':World} {ao:Option Addr} {c:Nat} {I:List Int} {g:Option Nat} (h:BitsAt w ao c I) (ha:OffB g ao I) (hg:w.grownBy w' g):BitsAt w' ao c I:=by
 refine ⟨h.1,h.2.1,?_⟩
 rcases h.2.2 with e | ⟨b,off,e,hb,hc⟩
 ·exact .inl e
 ·rcases ha with e' | ⟨b',off',e',hne⟩
  ·exact .inl e'
  ·rw [e] at e'
   simp only [Option.some.injEq,Addr.mk.injEq] at e'
   obtain ⟨rfl,rfl,_⟩:=e'
   refine .inr ⟨b,off,e,Nat.lt_of_lt_of_le hb hg.size,fun i hi=>?_⟩
   rw [World.cell?_of_block (a:=⟨b,off+i,none⟩) (hg.block b hb hne)]
   exact hc i hi
theorem OwnMs.putQ {base:Nat} {w:World} {v:Value} {R:List Mr} (h:OwnMs base w v R) {g:Nat} {x y:Int} {o:Option Addr} {n d:Nat} (hx:BoxM w g (.int .i64 x) (.int .i64 y) (.slice o n d)) (u u' u'':Value):OwnMs base (((w.setCell ⟨g,0,none⟩ u).setCell ⟨g,1,none⟩ u').setCell ⟨g,2,none⟩ u'') v R:=by
 refine ⟨⟨h.1.1,?_⟩,fun z hz=>⟨(h.2 z hz).1.putM hx u u' u'',(h.2 z hz).2⟩⟩
 rcases h.1.2 with e | ⟨k,cap,cur,hv,hk,hh,rest⟩
 ·exact .inl e
 ·have hne:k ≠ g:=by
   rintro rfl
   have e:=hh.symm.trans hx
   simp at e
  exact .inr ⟨k,cap,cur,hv,hk,(Below.heap_setCell _ ⟨g,2,none⟩ u'' k hne).trans ((Below.heap_setCell _ ⟨g,1,none⟩ u' k hne).trans ((Below.heap_setCell _ ⟨g,0,none⟩ u k hne).trans hh)),rest⟩
theorem OwnMs.apart {base:Nat} {w:World} {b n0 c0:Nat} {R:List Mr} (h:OwnMs base w (.slice (some ⟨b,0,none⟩) n0 c0) R) {g:Nat} {x y z:Value} (hx:BoxM w g x y z):b ≠ g:=by
 rcases h.1.2 with ⟨e,_⟩ | ⟨k,cap,cur,hv,hk,hh,rest⟩
 ·cases e
 ·simp only [Value.slice.injEq,Option.some.injEq,Addr.mk.injEq] at hv
  obtain ⟨⟨rfl,_⟩,_⟩:=hv
  rintro rfl
  have e:=hh.symm.trans hx
  simp at e
structure RfSt (w wr:World) (r c n cap:Nat) (ao:Option Addr) (S:List Nat) (ro:Option Addr) (rc:Nat) (v:Value) (R:List Mr):Prop where
 bel:Below w.heap.size w wr
 a:BoxM wr w.heap.size (.int .i64 r) (.int .i64 c) (.slice ao n cap)
 res:BoxW wr (w.heap.size+1) (.int .i64 0) (.int .i64 0) (.slice none 0 0) (.int .i64 0) (.int .i64 0) (.slice none 0 0) (.bool false)
 rb:BoxM wr (w.heap.size+1+1) (.int .i64 r) (.int .i64 c) (.slice ro n rc)
 bits:BitsAt wr ro rc (mxL S)
 len:S.length = n
 l:OwnMs (w.heap.size+1+1+1) wr v R
 off:OffB v.ownBlock ro (mxL S)
theorem RfSt.all {w wr w':World} {r c n cap:Nat} {ao:Option Addr} {S:List Nat} {ro:Option Addr} {rc:Nat} {v:Value} {R:List Mr} (h:RfSt w wr r c n cap ao S ro rc v R) (hb:Below wr.heap.size wr w'):RfSt w w' r c n cap ao S ro rc v R :=
 ⟨h.bel.trans (hb.mono h.bel.size),h.a.all hb,h.res.all hb,h.rb.all hb,h.bits.below hb,h.len,h.l.below hb,h.off⟩
theorem RfSt.put {w wr:World} {r c n cap:Nat} {ao:Option Addr} {S:List Nat} {ro:Option Addr} {rc:Nat} {v:Value} {R:List Mr} (h:RfSt w wr r c n cap ao S ro rc v R) {U:List Nat} {qo:Option Addr} {qc:Nat} (hU:BitsAt wr qo qc (mxL U)) (hl:U.length = n) (hn:OffB v.ownBlock qo (mxL U)) :
  RfSt w (((wr.setCell ⟨w.heap.size+1+1,0,none⟩ (.int .i64 r)).setCell ⟨w.heap.size+1+1,1,none⟩ (.int .i64 c)).setCell ⟨w.heap.size+1+1,2,none⟩ (.slice qo n qc)) r c n cap ao U qo qc v R:=by
 have n0:w.heap.size ≠ w.heap.size+1+1:=by omega
 have n1:w.heap.size+1 ≠ w.heap.size+1+1:=by omega
 exact ⟨below_putM h.bel (by omega) _ _ _,((h.a.other (p:=⟨w.heap.size+1+1,0,none⟩) n0 _).other (p:=⟨w.heap.size+1+1,1,none⟩) n0 _).other (p:=⟨w.heap.size+1+1,2,none⟩) n0 _,((h.res.other (p:=⟨w.heap.size+1+1,0,none⟩) n1 _).other (p:=⟨w.heap.size+1+1,1,none⟩) n1 _).other (p:=⟨w.heap.size+1+1,2,none⟩) n1 _,h.rb.put _ _ _,hU.putM h.rb _ _ _,hl,h.l.putM h.rb (by omega) _ _ _,hn⟩
theorem RfSt.push {w wr:World} {r c n cap:Nat} {ao:Option Addr} {S:List Nat} {ro:Option Addr} {rc:Nat} {v:Value} {R:List Mr} (h:RfSt w wr r c n cap ao S ro rc v R) (x:Mr) (hx:BitsAt wr x.ao x.cap (mxL x.V)) (ha:OffB v.ownBlock x.ao (mxL x.V)) (hl:R.length≤1000000) (ty:TypeId) :
  ∃ v' w',(Builtin.append_ #[148,148] ty #[v,.slice (some ⟨wr.heap.size,0,none⟩) 1 1]).run Tryz.prog (wr.alloc (.cells #[.slice x.ao x.V.length x.cap,.int .u64 (x.tau:Nat),.int .u64 (x.beta:Nat)] 150)) = .ok v' w'∧RfSt w w' r c n cap ao S ro rc v' (R ++ [x]):=by
 have hs:w.heap.size+1+1+1≤wr.heap.size:=h.rb.lt
 obtain ⟨v',w',e1,e2,e3,e4,e5⟩:=h.l.push x hx (by
  rcases ha with e | e
  ·exact .inl (by cases hV:x.V with
    | nil=>rfl
    | cons y ys=>rw [hV] at e;cases e)
  ·exact .inr e) hl hs ty
 have b1:=below_alloc9 wr (.cells #[.slice x.ao x.V.length x.cap,.int .u64 (x.tau:Nat),.int .u64 (x.beta:Nat)] 150)
 refine ⟨v',w',e1,h.bel.trans (e3.mono (by omega)),h.a.below e3 (by omega),h.res.below e3 (by omega),h.rb.below e3 (by omega),bits_grownOff (h.bits.below b1) h.off e4,h.len,e2,?_⟩
 rcases e5 with e | e
 ·rw [e];exact h.off
 ·rw [e]
  rcases h.bits.2.2 with z | ⟨b,off,z1,z2,_⟩
  ·exact .inl z
  ·exact .inr ⟨b,off,z1,fun z=>by cases z;omega⟩
theorem RfSt.start (w:World) (r c n cap:Nat) (ao:Option Addr) (S:List Nat) (hS:BitsAt w ao cap (mxL S)) (hl:S.length = n) :
  RfSt w ((((w.alloc (.cells #[.int .i64 r,.int .i64 c,.slice ao n cap] 24)).alloc (.cells #[.int .i64 0,.int .i64 0,.slice none 0 0,.int .i64 0,.int .i64 0,.slice none 0 0,.bool false] 89)).alloc (.cells #[.int .i64 r,.int .i64 c,.slice ao n cap] 24)).alloc (.cells #[] 150)) r c n cap ao S ao cap (.slice (some ⟨w.heap.size+1+1+1,0,none⟩) 0 0) []:=by
 have b0:=below_alloc9 w (.cells #[.int .i64 r,.int .i64 c,.slice ao n cap] 24)
 have s0:=size_alloc9 w (.cells #[.int .i64 r,.int .i64 c,.slice ao n cap] 24)
 have x0:=BoxM.new w (.int .i64 r) (.int .i64 c) (.slice ao n cap)
 have t0:=hS.below b0
 generalize w.alloc (.cells #[.int .i64 r,.int .i64 c,.slice ao n cap] 24) = w0 at *
 have b1:=below_alloc9 w0 (.cells #[.int .i64 0,.int .i64 0,.slice none 0 0,.int .i64 0,.int .i64 0,.slice none 0 0,.bool false] 89)
 have s1:=size_alloc9 w0 (.cells #[.int .i64 0,.int .i64 0,.slice none 0 0,.int .i64 0,.int .i64 0,.slice none 0 0,.bool false] 89)
 have x1:=BoxW.new w0 (.int .i64 0) (.int .i64 0) (.slice none 0 0) (.int .i64 0) (.int .i64 0) (.slice none 0 0) (.bool false)
 generalize w0.alloc (.cells #[.int .i64 0,.int .i64 0,.slice none 0 0,.int .i64 0,.int .i64 0,.slice none 0 0,.bool false] 89) = w1 at *
 have b2:=below_alloc9 w1 (.cells #[.int .i64 r,.int .i64 c,.slice ao n cap] 24)
 have s2:=size_alloc9 w1 (.cells #[.int .i64 r,.int .i64 c,.slice ao n cap] 24)
 have x2:=BoxM.new w1 (.int .i64 r) (.int .i64 c) (.slice ao n cap)
 generalize w1.alloc (.cells #[.int .i64 r,.int .i64 c,.slice ao n cap] 24) = w2 at *
 rw [s0] at x1 s1
 rw [s1] at x2 s2
 have b3:=below_alloc9 w2 (.cells #[] 150)
 have x3:=OwnMs.start w2 (w.heap.size+1+1+1) (Nat.le_of_eq s2.symm)
 rw [s2] at x3
 have b01:=b0.trans (b1.mono b0.size)
 have b02:=b01.trans (b2.mono b01.size)
 exact ⟨b02.trans (b3.mono b02.size),((x0.all b1).all b2).all b3,(x1.all b2).all b3,x2.all b3,((t0.below b1).below b2).below b3,hl,x3,OffB.old hS (fun k hk=>by simp [Value.ownBlock] at hk;omega)⟩
theorem RfSt.far {w wr:World} {r c n cap:Nat} {ao:Option Addr} {S:List Nat} {ro:Option Addr} {rc:Nat} {v:Value} {R:List Mr} (h:RfSt w wr r c n cap ao S ro rc v R) {g:Nat} {x y:Int} {o:Option Addr} {m d:Nat} (hx:BoxM wr g (.int .i64 x) (.int .i64 y) (.slice o m d)) (hg:w.heap.size+1+1+1≤g) (u u' u'':Value) :
  RfSt w (((wr.setCell ⟨g,0,none⟩ u).setCell ⟨g,1,none⟩ u').setCell ⟨g,2,none⟩ u'') r c n cap ao S ro rc v R:=by
 have n0:w.heap.size ≠ g:=by omega
 have n1:w.heap.size+1 ≠ g:=by omega
 have n2:w.heap.size+1+1 ≠ g:=by omega
 exact ⟨below_putM h.bel (by omega) _ _ _,((h.a.other (p:=⟨g,0,none⟩) n0 _).other (p:=⟨g,1,none⟩) n0 _).other (p:=⟨g,2,none⟩) n0 _,((h.res.other (p:=⟨g,0,none⟩) n1 _).other (p:=⟨g,1,none⟩) n1 _).other (p:=⟨g,2,none⟩) n1 _,((h.rb.other (p:=⟨g,0,none⟩) n2 _).other (p:=⟨g,1,none⟩) n2 _).other (p:=⟨g,2,none⟩) n2 _,h.bits.putM hx _ _ _,h.len,h.l.putQ hx _ _ _,h.off⟩
theorem at_then14 {K:Act→World→Prop} {Q:Exit→Act→World→Prop} {a:Act} {w:World} (F:World→Prop) (h:F w) (k:∀ W,F W→Exit.then K Q .normal a W):Exit.then K Q .normal a w:=k w h
def FacAns (w':World) (ok:Bool) (r c nq n:Nat) (Q R:List Nat) (e:Ending):Prop :=
 (ok = true∧∃ qo qc ro rc,e = .returned (.agg #[.int .i64 r,.int .i64 r,.slice qo nq qc,.int .i64 r,.int .i64 c,.slice ro n rc,.bool true])∧BitsAt w' qo qc (mxL Q)∧BitsAt w' ro rc (mxL R)) ∨
 (ok = false∧e = .returned (.agg #[.int .i64 0,.int .i64 0,.slice none 0 0,.int .i64 0,.int .i64 0,.slice none 0 0,.bool false]))
end Go.Proofs.YtlnphkioddknfaaGreatDoor
namespace Go.Proofs.YtlnphkioddknfaaGreatDoor
open Go.RowKit
attribute [local go_sem ↓] Go.wp_at_zero Go.wp_at_succ
theorem psub_any (a b:Nat) (w:World) (ha:a < 18446744073709551616) (hb:b < 18446744073709551616) (hT:Tab w) :
  Calls Tryz.prog 164 #[.int .u64 a,.int .u64 b] w fun r w'=>r = .returned (.int .u64 (aV a (fN b):Nat))∧Below w.heap.size w w':=by
 have K:=hide (ssub_any a b w ha hb hT)
 clear ha hb hT
 generalize aV a (fN b) = o at *
 generalize aF a (fN b) = f at *
 go_enter Tryz.func164,Tryz.ntmps164
 go_wp2_with fail
 refine Calls.mono (uH K) ?_
 rintro e w1 ⟨rfl,hb1⟩
 clear K
 go_wp2
 go_ret
 exact ⟨rfl,hb1⟩
theorem pdiv_any (a b:Nat) (w:World) (ha:a < 18446744073709551616) (hb:b < 18446744073709551616) (hT:Tab w) :
  Calls Tryz.prog 166 #[.int .u64 a,.int .u64 b] w fun r w'=>r = .returned (.int .u64 (dV a b:Nat))∧Below w.heap.size w w':=by
 have K:=hide (tdiv_any a b w ha hb hT)
 clear ha hb hT
 generalize dV a b = o at *
 generalize dF a b = f at *
 go_enter Tryz.func166,Tryz.ntmps166
 go_wp2_with fail
 refine Calls.mono (uH K) ?_
 rintro e w1 ⟨rfl,hb1⟩
 clear K
 go_wp2
 go_ret
 exact ⟨rfl,hb1⟩
end Go.Proofs.YtlnphkioddknfaaGreatDoor
namespace Go.Proofs.YtlnphkioddknfaaGreatDoor
open Go.RowKit
attribute [local go_sem ↓] Go.wp_at_zero Go.wp_at_succ
def RoSt (w wr:World) (r c n cap:Nat) (ao:Option Addr) (T:List Nat) (po:Option Addr) (pc:Nat):Prop :=
 BoxM wr w.heap.size (.int .i64 r) (.int .i64 c) (.slice ao n cap)∧BoxM wr (w.heap.size+1) (.int .i64 0) (.int .i64 0) (.slice none 0 0)∧BoxM wr (w.heap.size+1+1) (.int .i64 r) (.int .i64 c) (.slice po n pc)∧BitsAt wr po pc (mxL T)∧T.length = n∧Below w.heap.size w wr
theorem RoSt.all {w wr w':World} {r c n cap:Nat} {ao:Option Addr} {T:List Nat} {po:Option Addr} {pc:Nat} (h:RoSt w wr r c n cap ao T po pc) (hb:Below wr.heap.size wr w'):RoSt w w' r c n cap ao T po pc :=
 ⟨h.1.all hb,h.2.1.all hb,h.2.2.1.all hb,h.2.2.2.1.below hb,h.2.2.2.2.1,h.2.2.2.2.2.trans (hb.mono h.2.2.2.2.2.size)⟩
theorem RoSt.put {w wr:World} {r c n cap:Nat} {ao:Option Addr} {T:List Nat} {po:Option Addr} {pc:Nat} (h:RoSt w wr r c n cap ao T po pc) {U:List Nat} {qo:Option Addr} {qc:Nat} (hU:BitsAt wr qo qc (mxL U)) (hl:U.length = n) :
  RoSt w (((wr.setCell ⟨w.heap.size+1+1,0,none⟩ (.int .i64 r)).setCell ⟨w.heap.size+1+1,1,none⟩ (.int .i64 c)).setCell ⟨w.heap.size+1+1,2,none⟩ (.slice qo n qc)) r c n cap ao U qo qc:=by
 obtain ⟨h1,h2,h3,h4,h5,h6⟩:=h
 have n0:w.heap.size ≠ w.heap.size+1+1:=by omega
 have n1:w.heap.size+1 ≠ w.heap.size+1+1:=by omega
 exact ⟨((h1.other (p:=⟨w.heap.size+1+1,0,none⟩) n0 _).other (p:=⟨w.heap.size+1+1,1,none⟩) n0 _).other (p:=⟨w.heap.size+1+1,2,none⟩) n0 _,((h2.other (p:=⟨w.heap.size+1+1,0,none⟩) n1 _).other (p:=⟨w.heap.size+1+1,1,none⟩) n1 _).other (p:=⟨w.heap.size+1+1,2,none⟩) n1 _,h3.put _ _ _,hU.putM h3 _ _ _,hl,below_putM h6 (by omega) _ _ _⟩
theorem RoSt.start (w:World) (r c n cap:Nat) (ao:Option Addr) (T:List Nat) (hT:BitsAt w ao cap (mxL T)) (hl:T.length = n):RoSt w (((w.alloc (.cells #[.int .i64 r,.int .i64 c,.slice ao n cap] 24)).alloc (.cells #[.int .i64 0,.int .i64 0,.slice none 0 0] 24)).alloc (.cells #[.int .i64 r,.int .i64 c,.slice ao n cap] 24)) r c n cap ao T ao cap:=by
 have b0:=below_alloc9 w (.cells #[.int .i64 r,.int .i64 c,.slice ao n cap] 24)
 have s0:=size_alloc9 w (.cells #[.int .i64 r,.int .i64 c,.slice ao n cap] 24)
 have x0:=BoxM.new w (.int .i64 r) (.int .i64 c) (.slice ao n cap)
 have t0:=hT.below b0
 generalize w.alloc (.cells #[.int .i64 r,.int .i64 c,.slice ao n cap] 24) = w0 at *
 have b1:=below_alloc9 w0 (.cells #[.int .i64 0,.int .i64 0,.slice none 0 0] 24)
 have s1:=size_alloc9 w0 (.cells #[.int .i64 0,.int .i64 0,.slice none 0 0] 24)
 have x1:=BoxM.new w0 (.int .i64 0) (.int .i64 0) (.slice none 0 0)
 generalize w0.alloc (.cells #[.int .i64 0,.int .i64 0,.slice none 0 0] 24) = w1 at *
 have b2:=below_alloc9 w1 (.cells #[.int .i64 r,.int .i64 c,.slice ao n cap] 24)
 have x2:=BoxM.new w1 (.int .i64 r) (.int .i64 c) (.slice ao n cap)
 rw [s0] at x1 s1
 rw [s1] at x2
 have b01:=b0.trans (b1.mono b0.size)
 exact ⟨(x0.all b1).all b2,x1.all b2,x2,(t0.below b1).below b2,hl,b01.trans (b2.mono b01.size)⟩
end Go.Proofs.YtlnphkioddknfaaGreatDoor
namespace Go.Proofs.YtlnphkioddknfaaGreatDoor
open Go.RowKit
attribute [local go_sem ↓] Go.wp_at_zero Go.wp_at_succ
theorem RowB.three {w:World} {b g:Nat} {S:List Nat} (h:RowB w b S) (hg:b ≠ g) (u u' u'':Value):RowB (((w.setCell ⟨g,0,none⟩ u).setCell ⟨g,1,none⟩ u').setCell ⟨g,2,none⟩ u'') b S:=by
 unfold RowB
 rw [Below.heap_setCell _ ⟨g,2,none⟩ u'' b hg,Below.heap_setCell _ ⟨g,1,none⟩ u' b hg,Below.heap_setCell _ ⟨g,0,none⟩ u b hg]
 exact h
theorem rowB_neM {w:World} {g b:Nat} {S:List Nat} (h:RowB w g S) {x y z:Value} (hx:BoxM w b x y z):g ≠ b:=by
 intro e
 subst e
 unfold RowB at h
 unfold BoxM at hx
 rw [h] at hx
 simp at hx
theorem copy_run (W:World) (g n cap:Nat) (ao:Option Addr) (S:List Nat) (h:RowB W g (List.replicate n 0)) (hS:BitsAt W ao cap (mxL S)) (hl:S.length = n) :
  ∃ w',(∀ ty,(Builtin.copy_ #[22,22] ty #[.slice (some ⟨g,0,none⟩) n n,.slice ao n cap]).run Tryz.prog W = .ok (.int .i64 (n:Int)) w')∧RowB w' g S∧Below g W w':=by
 rcases Nat.eq_zero_or_pos n with e | e
 ·subst e
  obtain rfl:S = []:=List.eq_nil_of_length_eq_zero hl
  exact ⟨W,fun ty=>run_copy_none W _ _ ty 37 _ _ 0 0 0 cap Tryz.underlying22 (by kernel_rfl) rfl,h,Below.refl _ _⟩
 ·obtain ⟨b,off,rfl,hb,hc⟩:=hS.ne (by rw [mxL_len];omega)
  have hcs:∀ j v,(S.map bitV)[j]? = some v→W.cell? ((⟨b,off,none⟩:Addr).add j) = some v:=by
   intro j v hv
   rw [List.getElem?_map] at hv
   obtain ⟨x,hx,rfl⟩:=Option.map_eq_some_iff.1 hv
   have hj:j < S.length:=(List.getElem?_eq_some_iff.1 hx).1
   have:=hc j (by rw [mxL_len];exact hj)
   rw [mxL_at] at this
   rw [show (⟨b,off,none⟩:Addr).add j = ⟨b,off+j,none⟩ from by simp [Addr.add],this]
   rw [List.getD_eq_getElem?_getD,hx]
   rfl
  have hlen:(S.map bitV).length = n:=by rw [List.length_map,hl]
  have run:=fun ty=>run_copy_row Tryz.prog W 22 22 ty 37 g 0 n n ⟨b,off,none⟩ n cap ((List.replicate n 0).map bitV).toArray 37 (S.map bitV) Tryz.underlying22 (by kernel_rfl) h (by rw [hlen];exact (Nat.min_self n).symm) hcs (by rw [hlen];simp) (fun v hv=>by obtain ⟨x,_,rfl⟩:=List.mem_map.1 hv;rfl)
  refine ⟨_,fun ty=>(run ty).trans (by rw [hlen];rfl),?_,below_setRow (Below.refl _ _) (Nat.le_refl _) _⟩
  unfold RowB
  rw [setRow_heap W g _ _ 37 _ h]
  congr 3
  simp
end Go.Proofs.YtlnphkioddknfaaGreatDoor
